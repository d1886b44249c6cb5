/- The contracts of package demand's inner functions. -/
import Derived.Test.YtakdliecjfeedaaGreatDoorBusy2
import Derived.Test.YtakdliecjfeedaaGreatDoorOwn
import Derived.Deep.RegionHeld3
namespace Go.Proofs.YtakdliecjfeedaaGreatDoor
open Go Go.RowKit

/-- A thing in a box; the rest as it was. -/
structure Bx (w0 : World) (g : Nat) (cs : Array Value) (t : TypeId) (w : World) : Prop where
  blk : Blk w g cs t
  bel : Below w0.heap.size w0 w
theorem Bx.below {w0 w w' : World} {g : Nat} {cs : Array Value} {t : TypeId} (h : Bx w0 g cs t w) (k : Below w.heap.size w w') : Bx w0 g cs t w' := ⟨h.blk.below k, btrans h.bel k⟩
theorem Bx.drew {w0 w : World} {g : Nat} {cs : Array Value} {t : TypeId} (h : Bx w0 g cs t w) : Bx w0 g cs t w.drew := h.below (bdrew _)
theorem Bx.alloc {w0 w : World} (cs : Array Value) (t : TypeId) (h : Below w0.heap.size w0 w) : Bx w0 w.heap.size cs t (w.alloc (.cells cs t)) := ⟨heap_alloc_new _ _, btrans h (balloc _ _)⟩

theorem cnt_bd {D T t : Int} (hT : 1 ≤ T) (hD : 1 ≤ D) (h0 : 0 ≤ t) (h1 : t ≤ 20000) : 0 ≤ cntD D T t ∧ cntD D T t ≤ 20000 := by
  have a := cnt_nonneg (D := D) (t := t) hT
  have b := cnt_ceil (D := D) hT hD h0
  have c := ceil_le hT h0
  omega
set_option maxHeartbeats 1000000 in
theorem ended_at (c d T t q : Int) (w : World) (hD : 1 ≤ d) (hD2 : d ≤ 200) (hT : 1 ≤ T) (hT2 : T ≤ 200) (h0 : 0 ≤ t) (h1 : t ≤ 20000) (hq : cntD d T t = q) :
    Calls Tryz.prog 89 #[.agg #[.int .i64 c, .int .i64 d, .int .i64 T], .int .i64 t] w fun e w' => e = .returned (.int .i64 q) ∧ Below w.heap.size w w' := by
  by_cases h : t < d
  · have HQ : Hid (q = 0) := by unfold Hid; rw [← hq]; exact cnt_ahead h
    clear hq
    go_enter Tryz.func89, Tryz.ntmps89
    go_wp2_with fail
    go_ret
    exact ⟨ret_int HQ.out.symm, balloc _ _⟩
  · have HQ : Hid (q = (t - d) / T + 1) := by unfold Hid; rw [← hq]; unfold cntD; rw [if_neg h]
    have hb : 0 ≤ (t - d) / T ∧ (t - d) / T ≤ 20000 := by
      have := dv_nonneg (a := t - d) hT (by omega)
      have := HQ.out
      have := (cnt_bd hT hD h0 h1).2
      omega
    clear hq
    obtain ⟨hb1, hb2⟩ := hb
    go_enter Tryz.func89, Tryz.ntmps89
    go_wp2_with fail
    go_ret
    exact ⟨ret_int HQ.out.symm, balloc _ _⟩
theorem due_part {l : List Sec} (ha : ∀ s ∈ l, ldB s = true) (hl : l.length ≤ 24) {t : Int} (h0 : 0 ≤ t) (h1 : t ≤ 20000) (k : Nat) : 0 ≤ dueL (l.take k) t ∧ dueL (l.take k) t ≤ 9600000000 := by
  have h : ∀ s ∈ l.take k, ldB s = true := fun s hs => ha s (List.mem_of_mem_take hs)
  have a := due_nonneg h t
  have b := due_ask h h0
  have c := (ask_part ha hl h0 h1 k).2
  omega
theorem due_one {c D T t : Int} (hc : 1 ≤ c) (hc2 : c ≤ 20000) (hD : 1 ≤ D) (hT : 1 ≤ T) (h0 : 0 ≤ t) (h1 : t ≤ 20000) : 0 ≤ c * cntD D T t ∧ c * cntD D T t ≤ 400000000 := by
  obtain ⟨a, b⟩ := cnt_bd hT hD h0 h1
  exact ⟨Int.mul_nonneg (by omega) a, (Int.mul_le_mul (show c ≤ 20000 by omega) b a (by omega))⟩

set_option maxHeartbeats 4000000 in
theorem dbound_any (v : Value) (l : List Sec) (t : Int) (w : World) (hv : Secs w v l) (hl : l.length ≤ 24) (ha : ∀ s ∈ l, ldB s = true) (h0 : 0 ≤ t) (h1 : t ≤ 20000) :
    Calls Tryz.prog 73 #[v, .int .i64 t] w fun e w' => e = .returned (.int .i64 (dueL l t)) ∧ Below w.heap.size w w' := by
  obtain ⟨a, cap, rfl⟩ := hv.form
  obtain ⟨n, hn⟩ : ∃ n, n = l.length := ⟨_, rfl⟩
  have HV : Hid (Secs w (.slice a l.length cap) l) := hv
  clear hv
  have HP : Hid (∀ k, 0 ≤ dueL (l.take k) t ∧ dueL (l.take k) t ≤ 9600000000) := due_part ha hl h0 h1
  have HA : Hid (∀ s ∈ l, ldB s = true) := ha
  rw [← hn] at HV ⊢
  have n6 : n ≤ 24 := by omega
  have HN : Hid (n = l.length) := hn
  clear hn hl ha
  go_enter Tryz.func73, Tryz.ntmps73
  go_wp2_with fail
  go_loopw [5, 10] (fun x i wr => ∃ k : Nat, k ≤ n ∧ i = .int .i64 k ∧ x = .int .i64 (dueL (l.take k) t) ∧ Below w.heap.size w wr) (fun _ i _ => n - (intOf i).toNat)
  case atStart => exact ⟨0, Nat.zero_le _, rfl, rfl, Below.refl _ _⟩
  case round =>
    obtain ⟨k, hk, rfl, rfl, hB⟩ := hrel
    have B : Hid (Below w.heap.size w wr) := hB
    clear hB
    by_cases hlt : k < n
    · obtain ⟨⟨c, d, T⟩, hx⟩ : ∃ x, l[k]? = some x := ⟨_, List.getElem?_eq_getElem (by rw [← HN.out]; exact hlt)⟩
      obtain ⟨b, rfl, hb, hb', x1, x2, x3⟩ := secs_at' HV.out hx B.out
      have hs := ldB_iff.1 (HA.out _ (List.mem_of_getElem? hx))
      simp only at hs
      obtain ⟨⟨c1, c2⟩, ⟨T1, T2⟩, d1, d2⟩ := hs
      have HT : Hid (dueL (l.take (k + 1)) t = dueL (l.take k) t + c * cntD d T t) := dueL_take hx t
      clear hx
      obtain ⟨X, hX⟩ : ∃ X, dueL (l.take k) t = X := ⟨_, rfl⟩
      obtain ⟨p1, p2⟩ := HP.out k
      obtain ⟨q1, q2⟩ := due_one c1 c2 d1 T1 h0 h1
      obtain ⟨q, hq⟩ : ∃ q, cntD d T t = q := ⟨_, rfl⟩
      have HQ : Hid (cntD d T t = q) := hq
      rw [hX] at p1 p2 HT
      rw [hq] at q1 q2 HT
      rw [hX]
      clear hX hq
      have W1 : Hid (IntKind.i64.wrap (c * q) = c * q) := IntWalk.i64_in _ (by omega)
      have W2 : Hid (IntKind.i64.wrap (X + c * q) = X + c * q) := IntWalk.i64_in _ (by omega)
      have P0 : Hid (Bx w wr.heap.size #[.int .i64 c, .int .i64 d, .int .i64 T] 55 (wr.alloc (.cells #[.int .i64 c, .int .i64 d, .int .i64 T] 55))) := Bx.alloc _ _ B.out
      go_wp2_with fail
      generalize hW : wr.alloc _ = W at P0 ⊢
      clear hW
      have e0 : W.cell? ⟨wr.heap.size, 0, none⟩ = some (.int .i64 c) := P0.out.blk.cell 0
      have e1 : W.cell? ⟨wr.heap.size, 1, none⟩ = some (.int .i64 d) := P0.out.blk.cell 1
      have e2 : W.cell? ⟨wr.heap.size, 2, none⟩ = some (.int .i64 T) := P0.out.blk.cell 2
      clear x1 x2 x3
      go_region_held3 (fun w' => w'.cell? ⟨wr.heap.size, 0, none⟩ = some (.int .i64 c) ∧ w'.cell? ⟨wr.heap.size, 1, none⟩ = some (.int .i64 d) ∧ w'.cell? ⟨wr.heap.size, 2, none⟩ = some (.int .i64 T)) (first | exact ⟨e0, e1, e2⟩ | go_keep | exact ⟨r0, r1, r2⟩) (first | (go_at_call 89; refine (ended_at _ _ _ _ q _ d1 (by omega) T1 T2 h0 h1 HQ.out).mono ?_; rintro e w3 ⟨rfl, g3⟩; have P3 : Hid (Bx w wr.heap.size #[.int .i64 c, .int .i64 d, .int .i64 T] 55 w3) := (by first | exact P0.out.below g3 | exact P0.out.drew.below g3); have r0 : w3.cell? ⟨wr.heap.size, 0, none⟩ = some (.int .i64 c) := P3.out.blk.cell 0; have r1 : w3.cell? ⟨wr.heap.size, 1, none⟩ = some (.int .i64 d) := P3.out.blk.cell 1; have r2 : w3.cell? ⟨wr.heap.size, 2, none⟩ = some (.int .i64 T) := P3.out.blk.cell 2; clear g3))
      go_wp2_with fail
      go_round
      case rel => exact ⟨k + 1, by omega, by go_num, by rw [HT.out, W1.out, W2.out], P3.out.bel⟩
      case measure => simp [intOf]; omega
    · have e := take_all HN.out hlt
      rw [e]
      clear e
      go_wp2_with fail
      go_ret
      exact ⟨rfl, B.out⟩

theorem dl_part {l : List Sec} (ha : ∀ s ∈ l, ldB s = true) {t : Int} (ht : t ≤ 20000) (k : Nat) : t < dlA (l.take k) t ∧ dlA (l.take k) t ≤ 20001 :=
  ⟨dlA_gt (fun s hs => ha s (List.mem_of_mem_take hs)) ht, dlA_le _ _⟩
theorem dl_one {D T t : Int} (hD : 1 ≤ D) (hT : 1 ≤ T) (hT2 : T ≤ 200) (h0 : 0 ≤ t) (h1 : t ≤ 20000) : 0 ≤ T * cntD D T t ∧ T * cntD D T t ≤ 4000000 := by
  obtain ⟨a, b⟩ := cnt_bd hT hD h0 h1
  exact ⟨Int.mul_nonneg (by omega) a, (Int.mul_le_mul (show T ≤ 200 by omega) b a (by omega))⟩
set_option maxHeartbeats 4000000 in
theorem after_any (v : Value) (l : List Sec) (t : Int) (w : World) (hv : Secs w v l) (hl : l.length ≤ 24) (ha : ∀ s ∈ l, ldB s = true) (h0 : 0 ≤ t) (h1 : t ≤ 20000) :
    Calls Tryz.prog 90 #[v, .int .i64 t] w fun e w' => e = .returned (.int .i64 (dlA l t)) ∧ Below w.heap.size w w' := by
  obtain ⟨a, cap, rfl⟩ := hv.form
  obtain ⟨n, hn⟩ : ∃ n, n = l.length := ⟨_, rfl⟩
  have HV : Hid (Secs w (.slice a l.length cap) l) := hv
  clear hv
  have HP : Hid (∀ k, t < dlA (l.take k) t ∧ dlA (l.take k) t ≤ 20001) := dl_part ha h1
  have HA : Hid (∀ s ∈ l, ldB s = true) := ha
  rw [← hn] at HV ⊢
  have n6 : n ≤ 24 := by omega
  have HN : Hid (n = l.length) := hn
  clear hn hl ha
  go_enter Tryz.func90, Tryz.ntmps90
  go_wp2_with fail
  go_loopw [5, 10] (fun x i wr => ∃ k : Nat, k ≤ n ∧ i = .int .i64 k ∧ x = .int .i64 (dlA (l.take k) t) ∧ Below w.heap.size w wr) (fun _ i _ => n - (intOf i).toNat)
  case atStart => exact ⟨0, Nat.zero_le _, rfl, rfl, Below.refl _ _⟩
  case round =>
    obtain ⟨k, hk, rfl, rfl, hB⟩ := hrel
    have B : Hid (Below w.heap.size w wr) := hB
    clear hB
    by_cases hlt : k < n
    · obtain ⟨⟨c, d, T⟩, hx⟩ : ∃ x, l[k]? = some x := ⟨_, List.getElem?_eq_getElem (by rw [← HN.out]; exact hlt)⟩
      obtain ⟨b, rfl, hb, hb', x1, x2, x3⟩ := secs_at' HV.out hx B.out
      have hs := ldB_iff.1 (HA.out _ (List.mem_of_getElem? hx))
      simp only at hs
      obtain ⟨⟨c1, c2⟩, ⟨T1, T2⟩, d1, d2⟩ := hs
      have HT : Hid (dlA (l.take (k + 1)) t = min (dlA (l.take k) t) (d + T * cntD d T t)) := dlA_take hx t
      clear hx
      obtain ⟨X, hX⟩ : ∃ X, dlA (l.take k) t = X := ⟨_, rfl⟩
      obtain ⟨p1, p2⟩ := HP.out k
      have d3 : d ≤ 200 := by omega
      obtain ⟨q1, q2⟩ := dl_one d1 T1 T2 h0 h1
      obtain ⟨q, hq⟩ : ∃ q, cntD d T t = q := ⟨_, rfl⟩
      have HQ : Hid (cntD d T t = q) := hq
      rw [hX] at p1 p2 HT
      rw [hq] at q1 q2 HT
      rw [hX]
      clear hX hq
      have W1 : Hid (IntKind.i64.wrap (T * q) = T * q) := IntWalk.i64_in _ (by omega)
      have W2 : Hid (IntKind.i64.wrap (d + T * q) = d + T * q) := IntWalk.i64_in _ (by omega)
      have P0 : Hid (Bx w wr.heap.size #[.int .i64 c, .int .i64 d, .int .i64 T] 55 (wr.alloc (.cells #[.int .i64 c, .int .i64 d, .int .i64 T] 55))) := Bx.alloc _ _ B.out
      go_wp2_with fail
      generalize hW : wr.alloc _ = W at P0 ⊢
      clear hW
      have e0 : W.cell? ⟨wr.heap.size, 0, none⟩ = some (.int .i64 c) := P0.out.blk.cell 0
      have e1 : W.cell? ⟨wr.heap.size, 1, none⟩ = some (.int .i64 d) := P0.out.blk.cell 1
      have e2 : W.cell? ⟨wr.heap.size, 2, none⟩ = some (.int .i64 T) := P0.out.blk.cell 2
      clear x1 x2 x3
      go_region_held3 (fun w' => w'.cell? ⟨wr.heap.size, 0, none⟩ = some (.int .i64 c) ∧ w'.cell? ⟨wr.heap.size, 1, none⟩ = some (.int .i64 d) ∧ w'.cell? ⟨wr.heap.size, 2, none⟩ = some (.int .i64 T)) (first | exact ⟨e0, e1, e2⟩ | go_keep | exact ⟨r0, r1, r2⟩) (first | (go_at_call 89; refine (ended_at _ _ _ _ q _ d1 d3 T1 T2 h0 h1 HQ.out).mono ?_; rintro e w3 ⟨rfl, g3⟩; have P3 : Hid (Bx w wr.heap.size #[.int .i64 c, .int .i64 d, .int .i64 T] 55 w3) := (by first | exact P0.out.below g3 | exact P0.out.drew.below g3); have r0 : w3.cell? ⟨wr.heap.size, 0, none⟩ = some (.int .i64 c) := P3.out.blk.cell 0; have r1 : w3.cell? ⟨wr.heap.size, 1, none⟩ = some (.int .i64 d) := P3.out.blk.cell 1; have r2 : w3.cell? ⟨wr.heap.size, 2, none⟩ = some (.int .i64 T) := P3.out.blk.cell 2; clear g3))
      go_wp2_with fail
      go_round
      case rel => exact ⟨k + 1, by omega, by go_num, by rw [HT.out, W1.out, W2.out], P3.out.bel⟩
      case measure => simp [intOf]; omega
    · have e := take_all HN.out hlt
      rw [e]
      clear e
      go_wp2_with fail
      go_ret
      exact ⟨rfl, B.out⟩
end Go.Proofs.YtakdliecjfeedaaGreatDoor

/- The contracts of package demand. -/
namespace Go.Proofs.YtakdliecjfeedaaGreatDoor
open Go Go.RowKit

def dueV (l : List Sec) (t : Int) : Int := if ldsB l = true ∧ 0 ≤ t ∧ t ≤ 20000 then dueL l t else 0
theorem dueV_is {l : List Sec} {t : Int} (h : ldsB l = true) (h0 : 0 ≤ t) (h1 : t ≤ 20000) : dueV l t = dueL l t := by unfold dueV; rw [if_pos ⟨h, h0, h1⟩]
theorem dueV_zero {l : List Sec} {t : Int} (h : askV l t = 0) : dueV l t = 0 := by
  unfold dueV
  unfold askV at h
  split
  · rename_i k
    rw [if_pos k] at h
    have := due_ask (ldsB_all k.1) k.2.1
    have := due_nonneg (ldsB_all k.1) t
    omega
  · rfl
theorem askV_may {l : List Sec} {t : Int} (h : ¬ askV l t = 0) : ldsB l = true ∧ 0 ≤ t ∧ t ≤ 20000 := by
  unfold askV at h
  split at h
  · assumption
  · exact absurd rfl h
set_option maxHeartbeats 4000000 in
theorem dbnd_any (v : Value) (l : List Sec) (t : Int) (w : World) (hv : Secs w v l) (hl : l.length ≤ 1000000) :
    Calls Tryz.prog 60 #[v, .int .i64 t] w fun e w' => e = .returned (.int .i64 (dueV l t)) ∧ Below w.heap.size w w' := by
  have HV : Hid (Secs w v l) := hv
  obtain ⟨a, cap, rfl⟩ := hv.form
  clear hv
  obtain ⟨q, hq⟩ : ∃ q, askV l t = q := ⟨_, rfl⟩
  have HQ : Hid (askV l t = q) := hq
  by_cases h : q = 0
  · have HR : Hid (dueV l t = 0) := dueV_zero (by rw [hq, h])
    subst h
    clear hq
    go_enter Tryz.func60, Tryz.ntmps60
    go_wp2_with (go_at_call 59; refine (basked_any _ l _ _ HV.out hl).mono ?_; rintro e w1 ⟨rfl, g1⟩; rw [HQ.out]; have G1 : Hid (Below w.heap.size w w1) := g1; clear g1)
    go_ret
    exact ⟨ret_int HR.out.symm, G1.out⟩
  · have HM : Hid (ldsB l = true ∧ 0 ≤ t ∧ t ≤ 20000) := askV_may (by rw [hq]; exact h)
    have HR : Hid (dueV l t = dueL l t) := dueV_is HM.out.1 HM.out.2.1 HM.out.2.2
    clear hq
    go_enter Tryz.func60, Tryz.ntmps60
    go_wp2_with (first | (go_at_call 59; refine (basked_any _ l _ _ HV.out hl).mono ?_; rintro e w1 ⟨rfl, g1⟩; rw [HQ.out]; have G1 : Hid (Below w.heap.size w w1) := g1; clear g1) | (go_at_call 73; refine (dbound_any _ l _ _ (HV.out.below G1.out) (ldsB_len HM.out.1) (ldsB_all HM.out.1) HM.out.2.1 HM.out.2.2).mono ?_; rintro e w2 ⟨rfl, g2⟩; have G2 : Hid (Below w.heap.size w w2) := btrans G1.out g2; clear g2))
    go_ret
    exact ⟨ret_int HR.out.symm, G2.out⟩

theorem over_lost {l : List Sec} (h : tOk l = false) : oOk l = false ∧ oN l = 0 := over_none (by rw [tN_no h]; intro s h1 h2; omega)
set_option maxHeartbeats 4000000 in
theorem dfirst_any (v : Value) (l : List Sec) (w : World) (hv : Secs w v l) (hl : l.length ≤ 1000000) :
    Calls Tryz.prog 74 #[v] w fun e w' => e = .returned (.tuple #[.int .i64 (oN l), .bool (oOk l)]) ∧ Below w.heap.size w w' := by
  have HV : Hid (Secs w v l) := hv
  obtain ⟨a, cap, rfl⟩ := hv.form
  clear hv
  obtain ⟨z, hz⟩ : ∃ z, tN l = z := ⟨_, rfl⟩
  have HZ : Hid (tN l = z) := hz
  have zb := tN_bd l
  rw [hz] at zb
  obtain ⟨z0, z1⟩ := zb
  clear hz
  cases h : tOk l
  · have HR : Hid (oOk l = false ∧ oN l = 0) := over_lost h
    have HO : Hid (tOk l = false) := h
    clear h
    go_enter Tryz.func74, Tryz.ntmps74
    go_wp2_with (go_at_call 57; refine (btime_any _ l _ HV.out hl).mono ?_; rintro e w1 ⟨rfl, g1⟩; rw [HZ.out, HO.out]; have G1 : Hid (Below w.heap.size w w1) := g1; clear g1)
    go_ret2
    exact ⟨ret_two HR.out.2.symm HR.out.1.symm, G1.out⟩
  · have HL : Hid (ldsB l = true) := tOk_lds h
    have HO : Hid (tOk l = true) := h
    clear h
    obtain ⟨t0, ht0⟩ : ∃ t0, dlA l 0 = t0 := ⟨_, rfl⟩
    have HT : Hid (dlA l 0 = t0) := ht0
    have hb0 := dlA_gt (ldsB_all HL.out) (t := 0) (by omega)
    have hb1 := dlA_le l 0
    have HF : Hid (Fine l t0) := by
      unfold Hid; rw [← ht0]
      exact fine_next (ldsB_all HL.out) (fun s h1 h2 => by omega) (by rw [due_zero (ldsB_all HL.out)]; omega)
    rw [ht0] at hb0 hb1
    clear ht0
    go_enter Tryz.func74, Tryz.ntmps74
    go_wp2_with (first | (go_at_call 57; refine (btime_any _ l _ HV.out hl).mono ?_; rintro e w1 ⟨rfl, g1⟩; rw [HZ.out, HO.out]; have G1 : Hid (Below w.heap.size w w1) := g1; clear g1) | (go_at_call 90; refine (after_any _ l _ _ (HV.out.below G1.out) (ldsB_len HL.out) (ldsB_all HL.out) (by omega) (by omega)).mono ?_; rintro e w2 ⟨rfl, g2⟩; rw [HT.out]; have G2 : Hid (Below w.heap.size w w2) := btrans G1.out g2; clear g2))
    go_loopw [6] (fun x wr => ∃ t : Int, 1 ≤ t ∧ t ≤ 20001 ∧ x = .int .i64 t ∧ Hid (Fine l t) ∧ Below w.heap.size w wr) (fun x _ => (20002 - intOf x).toNat)
    case atStart => exact ⟨t0, by omega, by omega, rfl, HF, G2.out⟩
    case round =>
      obtain ⟨t, t1, t2, rfl, HX, hB⟩ := hrel
      have B : Hid (Below w.heap.size w wr) := hB
      clear hB
      by_cases ht : t ≤ z
      · obtain ⟨q, hq⟩ : ∃ q, dueL l t = q := ⟨_, rfl⟩
        have HQ : Hid (dueL l t = q) := hq
        clear hq
        by_cases e : t < q
        · have HR : Hid (oOk l = true ∧ oN l = t) := over_found (by omega) (by rw [HZ.out]; exact ht) (by rw [HQ.out]; exact e) HX.out
          go_wp2_with (go_at_call 73; refine (dbound_any _ l _ _ (HV.out.below B.out) (ldsB_len HL.out) (ldsB_all HL.out) (by omega) (by omega)).mono ?_; rintro e w2 ⟨rfl, g2⟩; rw [HQ.out]; have G2 : Hid (Below w.heap.size w w2) := btrans B.out g2; clear g2)
          go_ret2
          exact ⟨ret_two HR.out.2.symm HR.out.1.symm, G2.out⟩
        · obtain ⟨u, hu⟩ : ∃ u, dlA l t = u := ⟨_, rfl⟩
          have HU : Hid (dlA l t = u) := hu
          have u0 := dlA_gt (ldsB_all HL.out) (t := t) (by omega)
          have u1 := dlA_le l t
          have HF2 : Hid (Fine l u) := by
            unfold Hid; rw [← hu]
            exact fine_next (ldsB_all HL.out) HX.out (by rw [HQ.out]; omega)
          rw [hu] at u0 u1
          clear hu
          go_wp2_with (first | (go_at_call 73; refine (dbound_any _ l _ _ (HV.out.below B.out) (ldsB_len HL.out) (ldsB_all HL.out) (by omega) (by omega)).mono ?_; rintro e w2 ⟨rfl, g2⟩; rw [HQ.out]; have G2 : Hid (Below w.heap.size w w2) := btrans B.out g2; clear g2) | (go_at_call 90; refine (after_any _ l _ _ (HV.out.below G2.out) (ldsB_len HL.out) (ldsB_all HL.out) (by omega) (by omega)).mono ?_; rintro e w3 ⟨rfl, g3⟩; rw [HU.out]; have G3 : Hid (Below w.heap.size w w3) := btrans G2.out g3; clear g3))
          go_round
          case rel => exact ⟨u, by omega, by omega, rfl, HF2, G3.out⟩
          case measure => simp [intOf]; omega
      · have HR : Hid (oOk l = false ∧ oN l = 0) := over_none (by rw [HZ.out]; intro s h1 h2; exact HX.out s h1 (by omega))
        go_wp2_with fail
        go_ret2
        exact ⟨ret_two HR.out.2.symm HR.out.1.symm, B.out⟩

set_option maxHeartbeats 4000000 in
theorem dfits_any (v : Value) (l : List Sec) (w : World) (hv : Secs w v l) (hl : l.length ≤ 1000000) :
    Calls Tryz.prog 61 #[v] w fun e w' => e = .returned (.bool (fitB l)) ∧ Below w.heap.size w w' := by
  have HV : Hid (Secs w v l) := hv
  obtain ⟨a, cap, rfl⟩ := hv.form
  clear hv
  have HF : Hid (fitB l = (tOk l && !oOk l)) := rfl
  cases h : tOk l
  · have HO : Hid (tOk l = false) := h
    clear h
    go_enter Tryz.func61, Tryz.ntmps61
    go_wp2_with (go_at_call 57; refine (btime_any _ l _ HV.out hl).mono ?_; rintro e w1 ⟨rfl, g1⟩; rw [HO.out]; have G1 : Hid (Below w.heap.size w w1) := g1; clear g1)
    go_ret
    exact ⟨ret_bool (by rw [HF.out, HO.out]; rfl), G1.out⟩
  · have HO : Hid (tOk l = true) := h
    clear h
    cases h2 : oOk l
    all_goals
      have HO2 : Hid (oOk l = _) := h2
      clear h2
      go_enter Tryz.func61, Tryz.ntmps61
      go_wp2_with (first | (go_at_call 57; refine (btime_any _ l _ HV.out hl).mono ?_; rintro e w1 ⟨rfl, g1⟩; rw [HO.out]; have G1 : Hid (Below w.heap.size w w1) := g1; clear g1) | (go_at_call 74; refine (dfirst_any _ l _ (HV.out.below G1.out) hl).mono ?_; rintro e w2 ⟨rfl, g2⟩; rw [HO2.out]; have G2 : Hid (Below w.heap.size w w2) := btrans G1.out g2; clear g2))
      go_ret
      exact ⟨ret_bool (by rw [HF.out, HO.out, HO2.out]; rfl), G2.out⟩
end Go.Proofs.YtakdliecjfeedaaGreatDoor
