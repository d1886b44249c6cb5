/- The contracts of package demand's inner functions. -/
import Derived.Test.YtcgmbfpmcldfdaaGreatDoorBusy2
import Derived.Test.YtcgmbfpmcldfdaaGreatDoorOwn
import Derived.Deep.RegionHeld3
namespace Go.Proofs.YtcgmbfpmcldfdaaGreatDoor
open Go Go.RowKit

/-- A thing in a box; the rest as it was. -/
structure Bx (w0 : World) (g : Nat) (cs : Array Value) (t : TypeId) (w : World) : Prop where
  blk : Blk w g cs t
  bel : Below w0.heap.size w0 w
theorem Bx.below {w0 w w' : World} {g : Nat} {cs : Array Value} {t : TypeId} (h : Bx w0 g cs t w) (k : Below w.heap.size w w') : Bx w0 g cs t w' := ⟨h.blk.below k, btrans h.bel k⟩
theorem Bx.drew {w0 w : World} {g : Nat} {cs : Array Value} {t : TypeId} (h : Bx w0 g cs t w) : Bx w0 g cs t w.drew := h.below (bdrew _)
theorem Bx.alloc {w0 w : World} (cs : Array Value) (t : TypeId) (h : Below w0.heap.size w0 w) : Bx w0 w.heap.size cs t (w.alloc (.cells cs t)) := ⟨heap_alloc_new _ _, btrans h (balloc _ _)⟩

theorem cnt_bd {D T t : Int} (hT : 1 ≤ T) (hD : 1 ≤ D) (h0 : 0 ≤ t) (h1 : t ≤ 20000) : 0 ≤ cntD D T t ∧ cntD D T t ≤ 20000 := by
  have a := cnt_nonneg (D := D) (t := t) hT
  have b := cnt_ceil (D := D) hT hD h0
  have c := ceil_le hT h0
  omega
set_option maxHeartbeats 1000000 in
theorem ended_at (c d T t q : Int) (w : World) (hD : 1 ≤ d) (hD2 : d ≤ 200) (hT : 1 ≤ T) (hT2 : T ≤ 200) (h0 : 0 ≤ t) (h1 : t ≤ 20000) (hq : cntD d T t = q) :
    Calls Tryz.prog 37 #[.agg #[.int .i64 c, .int .i64 d, .int .i64 T], .int .i64 t] w fun e w' => e = .returned (.int .i64 q) ∧ Below w.heap.size w w' := by
  by_cases h : t < d
  · have HQ : Hid (q = 0) := by unfold Hid; rw [← hq]; exact cnt_ahead h
    clear hq
    go_enter Tryz.func37, Tryz.ntmps37
    go_wp2_with fail
    go_ret
    exact ⟨ret_int HQ.out.symm, balloc _ _⟩
  · have HQ : Hid (q = (t - d) / T + 1) := by unfold Hid; rw [← hq]; unfold cntD; rw [if_neg h]
    have hb : 0 ≤ (t - d) / T ∧ (t - d) / T ≤ 20000 := by
      have := dv_nonneg (a := t - d) hT (by omega)
      have := HQ.out
      have := (cnt_bd hT hD h0 h1).2
      omega
    clear hq
    obtain ⟨hb1, hb2⟩ := hb
    go_enter Tryz.func37, Tryz.ntmps37
    go_wp2_with fail
    go_ret
    exact ⟨ret_int HQ.out.symm, balloc _ _⟩
theorem due_part {l : List Sec} (ha : ∀ s ∈ l, ldB s = true) (hl : l.length ≤ 24) {t : Int} (h0 : 0 ≤ t) (h1 : t ≤ 20000) (k : Nat) : 0 ≤ dueL (l.take k) t ∧ dueL (l.take k) t ≤ 9600000000 := by
  have h : ∀ s ∈ l.take k, ldB s = true := fun s hs => ha s (List.mem_of_mem_take hs)
  have a := due_nonneg h t
  have b := due_ask h h0
  have c := (ask_part ha hl h0 h1 k).2
  omega
theorem due_one {c D T t : Int} (hc : 1 ≤ c) (hc2 : c ≤ 20000) (hD : 1 ≤ D) (hT : 1 ≤ T) (h0 : 0 ≤ t) (h1 : t ≤ 20000) : 0 ≤ c * cntD D T t ∧ c * cntD D T t ≤ 400000000 := by
  obtain ⟨a, b⟩ := cnt_bd hT hD h0 h1
  exact ⟨Int.mul_nonneg (by omega) a, (Int.mul_le_mul (show c ≤ 20000 by omega) b a (by omega))⟩

set_option maxHeartbeats 4000000 in
theorem dbound_any (v : Value) (l : List Sec) (t : Int) (w : World) (hv : Secs w v l) (hl : l.length ≤ 24) (ha : ∀ s ∈ l, ldB s = true) (h0 : 0 ≤ t) (h1 : t ≤ 20000) :
    Calls Tryz.prog 20 #[v, .int .i64 t] w fun e w' => e = .returned (.int .i64 (dueL l t)) ∧ Below w.heap.size w w' := by
  obtain ⟨a, cap, rfl⟩ := hv.form
  obtain ⟨n, hn⟩ : ∃ n, n = l.length := ⟨_, rfl⟩
  have HV : Hid (Secs w (.slice a l.length cap) l) := hv
  clear hv
  have HP : Hid (∀ k, 0 ≤ dueL (l.take k) t ∧ dueL (l.take k) t ≤ 9600000000) := due_part ha hl h0 h1
  have HA : Hid (∀ s ∈ l, ldB s = true) := ha
  rw [← hn] at HV ⊢
  have n6 : n ≤ 24 := by omega
  have HN : Hid (n = l.length) := hn
  clear hn hl ha
  go_enter Tryz.func20, Tryz.ntmps20
  go_wp2_with fail
  go_loopw [5, 10] (fun x i wr => ∃ k : Nat, k ≤ n ∧ i = .int .i64 k ∧ x = .int .i64 (dueL (l.take k) t) ∧ Below w.heap.size w wr) (fun _ i _ => n - (intOf i).toNat)
  case atStart => exact ⟨0, Nat.zero_le _, rfl, rfl, Below.refl _ _⟩
  case round =>
    obtain ⟨k, hk, rfl, rfl, hB⟩ := hrel
    have B : Hid (Below w.heap.size w wr) := hB
    clear hB
    by_cases hlt : k < n
    · obtain ⟨⟨c, d, T⟩, hx⟩ : ∃ x, l[k]? = some x := ⟨_, List.getElem?_eq_getElem (by rw [← HN.out]; exact hlt)⟩
      obtain ⟨b, rfl, hb, hb', x1, x2, x3⟩ := secs_at' HV.out hx B.out
      have hs := ldB_iff.1 (HA.out _ (List.mem_of_getElem? hx))
      simp only at hs
      obtain ⟨⟨c1, c2⟩, ⟨T1, T2⟩, d1, d2⟩ := hs
      have HT : Hid (dueL (l.take (k + 1)) t = dueL (l.take k) t + c * cntD d T t) := dueL_take hx t
      clear hx
      obtain ⟨X, hX⟩ : ∃ X, dueL (l.take k) t = X := ⟨_, rfl⟩
      obtain ⟨p1, p2⟩ := HP.out k
      obtain ⟨q1, q2⟩ := due_one c1 c2 d1 T1 h0 h1
      obtain ⟨q, hq⟩ : ∃ q, cntD d T t = q := ⟨_, rfl⟩
      have HQ : Hid (cntD d T t = q) := hq
      rw [hX] at p1 p2 HT
      rw [hq] at q1 q2 HT
      rw [hX]
      clear hX hq
      have W1 : Hid (IntKind.i64.wrap (c * q) = c * q) := IntWalk.i64_in _ (by omega)
      have W2 : Hid (IntKind.i64.wrap (X + c * q) = X + c * q) := IntWalk.i64_in _ (by omega)
      have P0 : Hid (Bx w wr.heap.size #[.int .i64 c, .int .i64 d, .int .i64 T] 29 (wr.alloc (.cells #[.int .i64 c, .int .i64 d, .int .i64 T] 29))) := Bx.alloc _ _ B.out
      go_wp2_with fail
      generalize hW : wr.alloc _ = W at P0 ⊢
      clear hW
      have e0 : W.cell? ⟨wr.heap.size, 0, none⟩ = some (.int .i64 c) := P0.out.blk.cell 0
      have e1 : W.cell? ⟨wr.heap.size, 1, none⟩ = some (.int .i64 d) := P0.out.blk.cell 1
      have e2 : W.cell? ⟨wr.heap.size, 2, none⟩ = some (.int .i64 T) := P0.out.blk.cell 2
      clear x1 x2 x3
      go_region_held3 (fun w' => w'.cell? ⟨wr.heap.size, 0, none⟩ = some (.int .i64 c) ∧ w'.cell? ⟨wr.heap.size, 1, none⟩ = some (.int .i64 d) ∧ w'.cell? ⟨wr.heap.size, 2, none⟩ = some (.int .i64 T)) (first | exact ⟨e0, e1, e2⟩ | go_keep | exact ⟨r0, r1, r2⟩) (first | (go_at_call 37; refine (ended_at _ _ _ _ q _ d1 (by omega) T1 T2 h0 h1 HQ.out).mono ?_; rintro e w3 ⟨rfl, g3⟩; have P3 : Hid (Bx w wr.heap.size #[.int .i64 c, .int .i64 d, .int .i64 T] 29 w3) := (by first | exact P0.out.below g3 | exact P0.out.drew.below g3); have r0 : w3.cell? ⟨wr.heap.size, 0, none⟩ = some (.int .i64 c) := P3.out.blk.cell 0; have r1 : w3.cell? ⟨wr.heap.size, 1, none⟩ = some (.int .i64 d) := P3.out.blk.cell 1; have r2 : w3.cell? ⟨wr.heap.size, 2, none⟩ = some (.int .i64 T) := P3.out.blk.cell 2; clear g3))
      go_wp2_with fail
      go_round
      case rel => exact ⟨k + 1, by omega, by go_num, by rw [HT.out, W1.out, W2.out], P3.out.bel⟩
      case measure => simp [intOf]; omega
    · have e := take_all HN.out hlt
      rw [e]
      clear e
      go_wp2_with fail
      go_ret
      exact ⟨rfl, B.out⟩

theorem dl_part {l : List Sec} (ha : ∀ s ∈ l, ldB s = true) {t : Int} (ht : t ≤ 20000) (k : Nat) : t < dlA (l.take k) t ∧ dlA (l.take k) t ≤ 20001 :=
  ⟨dlA_gt (fun s hs => ha s (List.mem_of_mem_take hs)) ht, dlA_le _ _⟩
theorem dl_one {D T t : Int} (hD : 1 ≤ D) (hT : 1 ≤ T) (hT2 : T ≤ 200) (h0 : 0 ≤ t) (h1 : t ≤ 20000) : 0 ≤ T * cntD D T t ∧ T * cntD D T t ≤ 4000000 := by
  obtain ⟨a, b⟩ := cnt_bd hT hD h0 h1
  exact ⟨Int.mul_nonneg (by omega) a, (Int.mul_le_mul (show T ≤ 200 by omega) b a (by omega))⟩
set_option maxHeartbeats 4000000 in
theorem after_any (v : Value) (l : List Sec) (t : Int) (w : World) (hv : Secs w v l) (hl : l.length ≤ 24) (ha : ∀ s ∈ l, ldB s = true) (h0 : 0 ≤ t) (h1 : t ≤ 20000) :
    Calls Tryz.prog 24 #[v, .int .i64 t] w fun e w' => e = .returned (.int .i64 (dlA l t)) ∧ Below w.heap.size w w' := by
  obtain ⟨a, cap, rfl⟩ := hv.form
  obtain ⟨n, hn⟩ : ∃ n, n = l.length := ⟨_, rfl⟩
  have HV : Hid (Secs w (.slice a l.length cap) l) := hv
  clear hv
  have HP : Hid (∀ k, t < dlA (l.take k) t ∧ dlA (l.take k) t ≤ 20001) := dl_part ha h1
  have HA : Hid (∀ s ∈ l, ldB s = true) := ha
  rw [← hn] at HV ⊢
  have n6 : n ≤ 24 := by omega
  have HN : Hid (n = l.length) := hn
  clear hn hl ha
  go_enter Tryz.func24, Tryz.ntmps24
  go_wp2_with fail
  go_loopw [5, 10] (fun x i wr => ∃ k : Nat, k ≤ n ∧ i = .int .i64 k ∧ x = .int .i64 (dlA (l.take k) t) ∧ Below w.heap.size w wr) (fun _ i _ => n - (intOf i).toNat)
  case atStart => exact ⟨0, Nat.zero_le _, rfl, rfl, Below.refl _ _⟩
  case round =>
    obtain ⟨k, hk, rfl, rfl, hB⟩ := hrel
    have B : Hid (Below w.heap.size w wr) := hB
    clear hB
    by_cases hlt : k < n
    · obtain ⟨⟨c, d, T⟩, hx⟩ : ∃ x, l[k]? = some x := ⟨_, List.getElem?_eq_getElem (by rw [← HN.out]; exact hlt)⟩
      obtain ⟨b, rfl, hb, hb', x1, x2, x3⟩ := secs_at' HV.out hx B.out
      have hs := ldB_iff.1 (HA.out _ (List.mem_of_getElem? hx))
      simp only at hs
      obtain ⟨⟨c1, c2⟩, ⟨T1, T2⟩, d1, d2⟩ := hs
      have HT : Hid (dlA (l.take (k + 1)) t = min (dlA (l.take k) t) (d + T * cntD d T t)) := dlA_take hx t
      clear hx
      obtain ⟨X, hX⟩ : ∃ X, dlA (l.take k) t = X := ⟨_, rfl⟩
      obtain ⟨p1, p2⟩ := HP.out k
      have d3 : d ≤ 200 := by omega
      obtain ⟨q1, q2⟩ := dl_one d1 T1 T2 h0 h1
      obtain ⟨q, hq⟩ : ∃ q, cntD d T t = q := ⟨_, rfl⟩
      have HQ : Hid (cntD d T t = q) := hq
      rw [hX] at p1 p2 HT
      rw [hq] at q1 q2 HT
      rw [hX]
      clear hX hq
      have W1 : Hid (IntKind.i64.wrap (T * q) = T * q) := IntWalk.i64_in _ (by omega)
      have W2 : Hid (IntKind.i64.wrap (d + T * q) = d + T * q) := IntWalk.i64_in _ (by omega)
      have P0 : Hid (Bx w wr.heap.size #[.int .i64 c, .int .i64 d, .int .i64 T] 29 (wr.alloc (.cells #[.int .i64 c, .int .i64 d, .int .i64 T] 29))) := Bx.alloc _ _ B.out
      go_wp2_with fail
      generalize hW : wr.alloc _ = W at P0 ⊢
      clear hW
      have e0 : W.cell? ⟨wr.heap.size, 0, none⟩ = some (.int .i64 c) := P0.out.blk.cell 0
      have e1 : W.cell? ⟨wr.heap.size, 1, none⟩ = some (.int .i64 d) := P0.out.blk.cell 1
      have e2 : W.cell? ⟨wr.heap.size, 2, none⟩ = some (.int .i64 T) := P0.out.blk.cell 2
      clear x1 x2 x3
      go_region_held3 (fun w' => w'.cell? ⟨wr.heap.size, 0, none⟩ = some (.int .i64 c) ∧ w'.cell? ⟨wr.heap.size, 1, none⟩ = some (.int .i64 d) ∧ w'.cell? ⟨wr.heap.size, 2, none⟩ = some (.int .i64 T)) (first | exact ⟨e0, e1, e2⟩ | go_keep | exact ⟨r0, r1, r2⟩) (first | (go_at_call 37; refine (ended_at _ _ _ _ q _ d1 d3 T1 T2 h0 h1 HQ.out).mono ?_; rintro e w3 ⟨rfl, g3⟩; have P3 : Hid (Bx w wr.heap.size #[.int .i64 c, .int .i64 d, .int .i64 T] 29 w3) := (by first | exact P0.out.below g3 | exact P0.out.drew.below g3); have r0 : w3.cell? ⟨wr.heap.size, 0, none⟩ = some (.int .i64 c) := P3.out.blk.cell 0; have r1 : w3.cell? ⟨wr.heap.size, 1, none⟩ = some (.int .i64 d) := P3.out.blk.cell 1; have r2 : w3.cell? ⟨wr.heap.size, 2, none⟩ = some (.int .i64 T) := P3.out.blk.cell 2; clear g3))
      go_wp2_with fail
      go_round
      case rel => exact ⟨k + 1, by omega, by go_num, by rw [HT.out, W1.out, W2.out], P3.out.bel⟩
      case measure => simp [intOf]; omega
    · have e := take_all HN.out hlt
      rw [e]
      clear e
      go_wp2_with fail
      go_ret
      exact ⟨rfl, B.out⟩
end Go.Proofs.YtcgmbfpmcldfdaaGreatDoor
