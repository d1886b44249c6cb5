/- The contracts of package busy. -/
import Derived.Test.YtakdliecjfeedaaGreatDoorRule3
import Derived.Test.YtakdliecjfeedaaGreatDoorTBegun
import Derived.Test.YtakdliecjfeedaaGreatDoorBMath2
import Derived.Deep.QuietTactic
import Derived.BigQuiet
namespace Go.Proofs.YtakdliecjfeedaaGreatDoor
open Go Go.RowKit

theorem secs_at {w : World} {a : Option Addr} {n cap k : Nat} {l : List Sec} {s : Sec} (h : Secs w (.slice a n cap) l) (hk : l[k]? = some s) : ∃ b, a = some ⟨b, 0, none⟩ ∧ b < w.heap.size ∧ w.cell? ⟨b, k * 3, none⟩ = some (.int .i64 s.res) ∧ w.cell? ⟨b, k * 3 + 1, none⟩ = some (.int .i64 s.pos) ∧ w.cell? ⟨b, k * 3 + 2, none⟩ = some (.int .i64 s.len) := by
  rcases h with ⟨rfl, _⟩ | ⟨b, cap', e, hb, hc⟩
  · simp at hk
  · simp only [Value.slice.injEq] at e
    exact ⟨b, e.1, hb, hc k s hk⟩
/-- The same in a world that has grown. -/
theorem secs_at' {w wr : World} {a : Option Addr} {n cap k : Nat} {l : List Sec} {c d t : Int} (h : Secs w (.slice a n cap) l) (hk : l[k]? = some ⟨c, d, t⟩) (g : Below w.heap.size w wr) : ∃ b, a = some ⟨b, 0, none⟩ ∧ b < wr.heap.size ∧ ¬ b = wr.heap.size ∧ wr.cell? ⟨b, k * 3, none⟩ = some (.int .i64 c) ∧ wr.cell? ⟨b, k * 3 + 1, none⟩ = some (.int .i64 d) ∧ wr.cell? ⟨b, k * 3 + 2, none⟩ = some (.int .i64 t) := by
  obtain ⟨b, e, hb, x1, x2, x3⟩ := secs_at (h.below g) hk
  exact ⟨b, e, hb, by omega, x1, x2, x3⟩
theorem bdrewN (w : World) (n : Nat) : Below w.heap.size w (w.drewN n) := ⟨rfl, rfl, rfl, Nat.le_refl _, fun _ _ => rfl⟩
theorem bdrew (w : World) : Below w.heap.size w w.drew := ⟨rfl, rfl, rfl, Nat.le_refl _, fun _ _ => rfl⟩
theorem all_take {l : List Sec} {k : Nat} {s : Sec} (h : l[k]? = some s) (h1 : (l.take k).all ldB = true) (h2 : ldB s = true) : (l.take (k + 1)).all ldB = true := by
  obtain ⟨hk, rfl⟩ := List.getElem?_eq_some_iff.1 h
  rw [List.take_succ_eq_append_getElem hk, List.all_append, h1]
  simp [h2]
theorem lds_no {l : List Sec} {k : Nat} {s : Sec} (h : l[k]? = some s) (h2 : ldB s = false) : ldsB l = false := by
  cases e : ldsB l
  · rfl
  · rw [ldsB_all e s (List.mem_of_getElem? h)] at h2; cases h2
theorem lds_yes {l : List Sec} {k n : Nat} (hn : n = l.length) (h24 : ¬ 24 < n) (hk : ¬ k < n) (h : (l.take k).all ldB = true) : ldsB l = true := by
  rw [List.take_of_length_le (by omega)] at h
  unfold ldsB
  simp [h]; omega
theorem lds_long {l : List Sec} {n : Nat} (hn : n = l.length) (h24 : 24 < n) : ldsB l = false := by
  unfold ldsB
  rw [decide_eq_false (by omega)]; rfl
theorem take_all {l : List Sec} {k n : Nat} (hn : n = l.length) (hk : ¬ k < n) : l.take k = l := List.take_of_length_le (by omega)

set_option maxHeartbeats 4000000 in
theorem maybe_any (v : Value) (l : List Sec) (w : World) (hv : Secs w v l) (hl : l.length ≤ 1000000) :
    Calls Tryz.prog 70 #[v] w fun e w' => e = .returned (.bool (ldsB l)) ∧ Below w.heap.size w w' := by
  obtain ⟨a, cap, rfl⟩ := hv.form
  obtain ⟨n, hn⟩ : ∃ n, n = l.length := ⟨_, rfl⟩
  have HV : Hid (Secs w (.slice a l.length cap) l) := hv
  clear hv
  rw [← hn] at HV ⊢
  have n6 : n ≤ 1000000 := by omega
  have HN : Hid (n = l.length) := hn
  clear hn hl
  by_cases h24 : 24 < n
  · have HL : Hid (ldsB l = false) := lds_long HN.out h24
    go_enter Tryz.func70, Tryz.ntmps70
    go_wp2_with fail
    go_ret
    exact ⟨ret_bool HL.out.symm, Below.refl _ _⟩
  · go_enter Tryz.func70, Tryz.ntmps70
    go_wp2_with fail
    go_loopw [10] (fun i wr => ∃ k : Nat, k ≤ n ∧ i = .int .i64 k ∧ Hid ((l.take k).all ldB = true) ∧ Below w.heap.size w wr) (fun i _ => n - (intOf i).toNat)
    case atStart => exact ⟨0, Nat.zero_le _, rfl, rfl, Below.refl _ _⟩
    case round =>
      obtain ⟨k, hk, rfl, HA, hB⟩ := hrel
      have B : Hid (Below w.heap.size w wr) := hB
      clear hB
      by_cases hlt : k < n
      · obtain ⟨⟨c, d, t⟩, hx⟩ : ∃ x, l[k]? = some x := ⟨_, List.getElem?_eq_getElem (by rw [← HN.out]; exact hlt)⟩
        obtain ⟨b, rfl, hb, hb', x1, x2, x3⟩ := secs_at' HV.out hx B.out
        have HX : Hid (l[k]? = some ⟨c, d, t⟩) := hx
        clear hx
        cases h : loadB c d t
        · have HL : Hid (ldsB l = false) := lds_no HX.out h
          go_wp2_with (go_at_call 79; refine (load_any _ _ _ _).mono ?_; rintro e w2 ⟨rfl, g2⟩; have G2 : Hid (Below w.heap.size w w2) := btrans (btrans B.out (balloc _ _)) g2; clear g2)
          go_ret
          exact ⟨ret_bool HL.out.symm, G2.out⟩
        · go_wp2_with (go_at_call 79; refine (load_any _ _ _ _).mono ?_; rintro e w2 ⟨rfl, g2⟩; have G2 : Hid (Below w.heap.size w w2) := btrans (btrans B.out (balloc _ _)) g2; clear g2)
          go_round
          case rel => exact ⟨k + 1, by omega, by go_num, all_take HX.out HA.out h, G2.out⟩
          case measure => simp [intOf]; omega
      · have HL : Hid (ldsB l = true) := lds_yes HN.out h24 hlt HA.out
        go_wp2_with fail
        go_ret
        exact ⟨ret_bool HL.out.symm, B.out⟩

theorem up_at (t p q : Int) (w : World) (h0 : 0 ≤ t) (h1 : t ≤ 20000) (hT : 1 ≤ p) (hT2 : p ≤ 200) (hq : ceilD t p = q) :
    Calls Tryz.prog 80 #[.int .i64 t, .int .i64 p] w fun e w' => e = .returned (.int .i64 q) ∧ w' = w := by
  refine (T.up_any t p w (by omega) (by omega) (by omega)).mono ?_
  rintro e w' ⟨rfl, rfl⟩
  exact ⟨ret_int (by rw [← hq]; unfold T.upV ceilD; rw [if_neg (by omega)]), rfl⟩
theorem ask_part {l : List Sec} (ha : ∀ s ∈ l, ldB s = true) (hl : l.length ≤ 24) {t : Int} (h0 : 0 ≤ t) (h1 : t ≤ 20000) (k : Nat) : 0 ≤ askL (l.take k) t ∧ askL (l.take k) t ≤ 9600000000 := by
  have h : ∀ s ∈ l.take k, ldB s = true := fun s hs => ha s (List.mem_of_mem_take hs)
  have a := ask_nonneg h h0
  have b := ask_bd h h0 h1
  have c : (l.take k).length ≤ l.length := by rw [List.length_take]; omega
  omega
theorem ask_one {c T t : Int} (hc : 1 ≤ c) (hc2 : c ≤ 20000) (hT : 1 ≤ T) (h0 : 0 ≤ t) (h1 : t ≤ 20000) : 0 ≤ c * ceilD t T ∧ c * ceilD t T ≤ 400000000 := by
  have a := ceil_le hT h0
  have b := ceil_nonneg hT h0
  exact ⟨Int.mul_nonneg (by omega) b, (Int.mul_le_mul (show c ≤ 20000 by omega) (show ceilD t T ≤ 20000 by omega) b (by omega))⟩

set_option maxHeartbeats 4000000 in
theorem asked_any (v : Value) (l : List Sec) (t : Int) (w : World) (hv : Secs w v l) (hl : l.length ≤ 24) (ha : ∀ s ∈ l, ldB s = true) (h0 : 0 ≤ t) (h1 : t ≤ 20000) :
    Calls Tryz.prog 71 #[v, .int .i64 t] w fun e w' => e = .returned (.int .i64 (askL l t)) ∧ Below w.heap.size w w' := by
  obtain ⟨a, cap, rfl⟩ := hv.form
  obtain ⟨n, hn⟩ : ∃ n, n = l.length := ⟨_, rfl⟩
  have HV : Hid (Secs w (.slice a l.length cap) l) := hv
  clear hv
  have HP : Hid (∀ k, 0 ≤ askL (l.take k) t ∧ askL (l.take k) t ≤ 9600000000) := ask_part ha hl h0 h1
  have HA : Hid (∀ s ∈ l, ldB s = true) := ha
  rw [← hn] at HV ⊢
  have n6 : n ≤ 24 := by omega
  have HN : Hid (n = l.length) := hn
  clear hn hl ha
  go_enter Tryz.func71, Tryz.ntmps71
  go_wp2_with fail
  go_loopw [5, 10] (fun x i wr => ∃ k : Nat, k ≤ n ∧ i = .int .i64 k ∧ x = .int .i64 (askL (l.take k) t) ∧ Below w.heap.size w wr) (fun _ i _ => n - (intOf i).toNat)
  case atStart => exact ⟨0, Nat.zero_le _, rfl, rfl, Below.refl _ _⟩
  case round =>
    obtain ⟨k, hk, rfl, rfl, hB⟩ := hrel
    have B : Hid (Below w.heap.size w wr) := hB
    clear hB
    by_cases hlt : k < n
    · obtain ⟨⟨c, d, T⟩, hx⟩ : ∃ x, l[k]? = some x := ⟨_, List.getElem?_eq_getElem (by rw [← HN.out]; exact hlt)⟩
      obtain ⟨b, rfl, hb, hb', x1, x2, x3⟩ := secs_at' HV.out hx B.out
      have hs := ldB_iff.1 (HA.out _ (List.mem_of_getElem? hx))
      simp only at hs
      obtain ⟨⟨c1, c2⟩, ⟨T1, T2⟩, -⟩ := hs
      have HT : Hid (askL (l.take (k + 1)) t = askL (l.take k) t + c * ceilD t T) := askL_take hx t
      clear hx
      obtain ⟨X, hX⟩ : ∃ X, askL (l.take k) t = X := ⟨_, rfl⟩
      obtain ⟨p1, p2⟩ := HP.out k
      obtain ⟨q1, q2⟩ := ask_one c1 c2 T1 h0 h1
      obtain ⟨q, hq⟩ : ∃ q, ceilD t T = q := ⟨_, rfl⟩
      have HQ : Hid (ceilD t T = q) := hq
      rw [hX] at p1 p2 HT
      rw [hq] at q1 q2 HT
      rw [hX]
      clear hX hq
      go_wp2_with fail
      go_quiet ((go_at_call 80; exact Calls.quiet_of_same (up_at _ _ q _ h0 h1 T1 T2 HQ.out)))
      go_wp2_with fail
      go_round
      case rel => exact ⟨k + 1, by omega, by go_num, by rw [HT.out], btrans (btrans B.out (balloc _ _)) (bdrewN _ _)⟩
      case measure => simp [intOf]; omega
    · have e := take_all HN.out hlt
      rw [e]
      clear e
      go_wp2_with fail
      go_ret
      exact ⟨rfl, B.out⟩
end Go.Proofs.YtakdliecjfeedaaGreatDoor

/- The contracts of busy.Asked and busy.Time. -/
namespace Go.Proofs.YtakdliecjfeedaaGreatDoor
open Go Go.RowKit

def askV (l : List Sec) (t : Int) : Int := if ldsB l = true ∧ 0 ≤ t ∧ t ≤ 20000 then askL l t else 0
theorem askV_bad {l : List Sec} {t : Int} (h : ldsB l = false) : askV l t = 0 := by unfold askV; rw [h]; simp
theorem askV_low {l : List Sec} {t : Int} (h : t < 0) : askV l t = 0 := by unfold askV; rw [if_neg (by omega)]
theorem askV_high {l : List Sec} {t : Int} (h : 20000 < t) : askV l t = 0 := by unfold askV; rw [if_neg (by omega)]
theorem askV_is {l : List Sec} {t : Int} (h : ldsB l = true) (h0 : 0 ≤ t) (h1 : t ≤ 20000) : askV l t = askL l t := by unfold askV; rw [if_pos ⟨h, h0, h1⟩]
theorem ret_two {a b : Int} {c d : Bool} (h : a = b) (g : c = d) : Ending.returned (.tuple #[.int .i64 a, .bool c]) = .returned (.tuple #[.int .i64 b, .bool d]) := by rw [h, g]

set_option maxHeartbeats 4000000 in
theorem basked_any (v : Value) (l : List Sec) (t : Int) (w : World) (hv : Secs w v l) (hl : l.length ≤ 1000000) :
    Calls Tryz.prog 59 #[v, .int .i64 t] w fun e w' => e = .returned (.int .i64 (askV l t)) ∧ Below w.heap.size w w' := by
  have HV : Hid (Secs w v l) := hv
  obtain ⟨a, cap, rfl⟩ := hv.form
  clear hv
  cases h : ldsB l
  · have HR : Hid (askV l t = 0) := askV_bad h
    go_enter Tryz.func59, Tryz.ntmps59
    go_wp2_with (go_at_call 70; refine (maybe_any _ l _ HV.out hl).mono ?_; rintro e w1 ⟨rfl, g1⟩; have G1 : Hid (Below w.heap.size w w1) := g1; clear g1)
    go_ret
    exact ⟨ret_int HR.out.symm, G1.out⟩
  · by_cases h0 : t < 0
    · have HR : Hid (askV l t = 0) := askV_low h0
      go_enter Tryz.func59, Tryz.ntmps59
      go_wp2_with (go_at_call 70; refine (maybe_any _ l _ HV.out hl).mono ?_; rintro e w1 ⟨rfl, g1⟩; have G1 : Hid (Below w.heap.size w w1) := g1; clear g1)
      go_ret
      exact ⟨ret_int HR.out.symm, G1.out⟩
    · by_cases h1 : 20000 < t
      · have HR : Hid (askV l t = 0) := askV_high h1
        go_enter Tryz.func59, Tryz.ntmps59
        go_wp2_with (go_at_call 70; refine (maybe_any _ l _ HV.out hl).mono ?_; rintro e w1 ⟨rfl, g1⟩; have G1 : Hid (Below w.heap.size w w1) := g1; clear g1)
        go_ret
        exact ⟨ret_int HR.out.symm, G1.out⟩
      · have HR : Hid (askV l t = askL l t) := askV_is h (by omega) (by omega)
        have HL : Hid (ldsB l = true) := h
        go_enter Tryz.func59, Tryz.ntmps59
        go_wp2_with (first | (go_at_call 70; refine (maybe_any _ l _ HV.out hl).mono ?_; rintro e w1 ⟨rfl, g1⟩; have G1 : Hid (Below w.heap.size w w1) := g1; clear g1) | (go_at_call 71; refine (asked_any _ l _ _ (HV.out.below G1.out) (ldsB_len HL.out) (ldsB_all HL.out) (by omega) (by omega)).mono ?_; rintro e w2 ⟨rfl, g2⟩; have G2 : Hid (Below w.heap.size w w2) := btrans G1.out g2; clear g2))
        go_ret
        exact ⟨ret_int HR.out.symm, G2.out⟩

theorem Up.cap {l : List Sec} {t : Int} (h : Up l t) (ht : 20001 ≤ t) : Up l 20001 := fun s h1 h2 => h s h1 (by omega)
set_option maxHeartbeats 4000000 in
theorem btime_any (v : Value) (l : List Sec) (w : World) (hv : Secs w v l) (hl : l.length ≤ 1000000) :
    Calls Tryz.prog 57 #[v] w fun e w' => e = .returned (.tuple #[.int .i64 (tN l), .bool (tOk l)]) ∧ Below w.heap.size w w' := by
  have HV : Hid (Secs w v l) := hv
  obtain ⟨a, cap, rfl⟩ := hv.form
  obtain ⟨n, hn⟩ : ∃ n, n = l.length := ⟨_, rfl⟩
  clear hv
  rw [← hn] at HV ⊢
  have HN : Hid (n = l.length) := hn
  have n6 : n ≤ 1000000 := by omega
  clear hn
  cases h : ldsB l
  · have HR : Hid (tOk l = false ∧ tN l = 0) := time_bad h
    go_enter Tryz.func57, Tryz.ntmps57
    go_wp2_with (go_at_call 70; refine (maybe_any _ l _ HV.out hl).mono ?_; rintro e w1 ⟨rfl, g1⟩; have G1 : Hid (Below w.heap.size w w1) := g1; clear g1)
    go_ret2
    exact ⟨ret_two HR.out.2.symm HR.out.1.symm, G1.out⟩
  · by_cases hz : n = 0
    · subst hz
      have HR : Hid (tOk l = true ∧ tN l = 0) := by
        have := List.length_eq_zero_iff.1 HN.out.symm
        rw [this]; exact time_nil
      go_enter Tryz.func57, Tryz.ntmps57
      go_wp2_with (go_at_call 70; refine (maybe_any _ l _ HV.out hl).mono ?_; rintro e w1 ⟨rfl, g1⟩; have G1 : Hid (Below w.heap.size w w1) := g1; clear g1)
      go_ret2
      exact ⟨ret_two HR.out.2.symm HR.out.1.symm, G1.out⟩
    · have HL : Hid (ldsB l = true) := h
      have HE : Hid (l ≠ []) := by rintro rfl; exact hz HN.out
      have hz' : ((n : Int) == 0) = false := by simp; omega
      clear hz
      go_enter Tryz.func57, Tryz.ntmps57
      go_wp2_with (go_at_call 70; refine (maybe_any _ l _ HV.out hl).mono ?_; rintro e w1 ⟨rfl, g1⟩; have G1 : Hid (Below w.heap.size w w1) := g1; clear g1)
      go_loopw [4] (fun x wr => ∃ t : Int, 1 ≤ t ∧ t ≤ 9600000000 ∧ x = .int .i64 t ∧ Hid (Up l t) ∧ Below w.heap.size w wr) (fun x _ => (20001 - intOf x).toNat)
      case atStart => exact ⟨1, by omega, by omega, rfl, Up.one _, G1.out⟩
      case round =>
        obtain ⟨t, t1, t2, rfl, HU, hB⟩ := hrel
        have B : Hid (Below w.heap.size w wr) := hB
        clear hB
        by_cases ht : t ≤ 20000
        · obtain ⟨q, hq⟩ : ∃ q, askL l t = q := ⟨_, rfl⟩
          have HQ : Hid (askL l t = q) := hq
          have q2 : q ≤ 9600000000 := by
            rw [← hq]
            have := ask_bd (ldsB_all HL.out) (t := t) (by omega) ht
            have := ldsB_len HL.out
            omega
          by_cases e : q = t
          · subst e
            have HR : Hid (tOk l = true ∧ tN l = q) := time_found HL.out HE.out (by omega) ht hq HU.out
            clear hq
            go_wp2_with (go_at_call 71; refine (asked_any _ l _ _ (HV.out.below B.out) (ldsB_len HL.out) (ldsB_all HL.out) (by omega) (by omega)).mono ?_; rintro e w2 ⟨rfl, g2⟩; rw [HQ.out]; have G2 : Hid (Below w.heap.size w w2) := btrans B.out g2; clear g2)
            go_ret2
            exact ⟨ret_two HR.out.2.symm HR.out.1.symm, G2.out⟩
          · have HX : Hid (t < q ∧ Up l q) := by
              have := HU.out.next HL.out HE.out t1 (by rw [hq]; exact e)
              rw [hq] at this; exact this
            clear hq
            have q1 := HX.out.1
            go_wp2_with (go_at_call 71; refine (asked_any _ l _ _ (HV.out.below B.out) (ldsB_len HL.out) (ldsB_all HL.out) (by omega) (by omega)).mono ?_; rintro e w2 ⟨rfl, g2⟩; rw [HQ.out]; have G2 : Hid (Below w.heap.size w w2) := btrans B.out g2; clear g2)
            go_round
            case rel => exact ⟨q, by omega, by omega, rfl, HX.out.2, G2.out⟩
            case measure => simp [intOf]; omega
        · have HR : Hid (tOk l = false ∧ tN l = 0) := time_lost HL.out HE.out (HU.out.cap (by omega))
          go_wp2_with fail
          go_ret2
          exact ⟨ret_two HR.out.2.symm HR.out.1.symm, B.out⟩
end Go.Proofs.YtakdliecjfeedaaGreatDoor
