/- The contracts of the document's own loads: Load, Loads, Asked, Bound. -/
import Derived.Test.YtpbjodbcmaaheaaGreatDoorDem2
namespace Go.Proofs.YtpbjodbcmaaheaaGreatDoor
open Go Go.RowKit

theorem rin_at (v lo hi : Int) (w : World) :
    Calls Tryz.prog 44 #[.int .i64 v, .int .i64 lo, .int .i64 hi] w fun e w' => e = .returned (.bool (inB v lo hi)) ∧ w' = w := by
  by_cases h1 : lo ≤ v
  · by_cases h2 : v ≤ hi
    · rw [inB_iff.2 ⟨h1, h2⟩]
      go_enter Tryz.func44, Tryz.ntmps44
      go_wp2
      go_ret
      exact ⟨rfl, rfl⟩
    · rw [inB_no.2 (fun h => h2 h.2)]
      go_enter Tryz.func44, Tryz.ntmps44
      go_wp2
      go_ret
      exact ⟨rfl, rfl⟩
  · rw [inB_no.2 (fun h => h1 h.1)]
    go_enter Tryz.func44, Tryz.ntmps44
    go_wp2
    go_ret
    exact ⟨rfl, rfl⟩
theorem loadB_not {c d t : Int} (h : ¬ ((1 ≤ c ∧ c ≤ 20000) ∧ 1 ≤ d ∧ d ≤ t ∧ t ≤ 200)) : loadB c d t = false := by
  rw [← Bool.not_eq_true]
  simp only [loadB, Bool.and_eq_true, inB_iff]
  omega
theorem loadB_yes {c d t : Int} (h : 1 ≤ c ∧ c ≤ 20000) (h1 : 1 ≤ d) (h2 : d ≤ t) (h3 : t ≤ 200) : loadB c d t = true := by
  simp only [loadB, Bool.and_eq_true, inB_iff]
  omega
set_option maxHeartbeats 1000000 in
theorem rload_any (c d t : Int) (w : World) :
    Calls Tryz.prog 35 #[.agg #[.int .i64 c, .int .i64 d, .int .i64 t]] w fun e w' => e = .returned (.bool (loadB c d t)) ∧ Below w.heap.size w w' := by
  cases h1 : inB c 1 20000
  · have HR : Hid (loadB c d t = false) := loadB_not (fun h => inB_no.1 h1 h.1)
    go_enter Tryz.func35, Tryz.ntmps35
    go_wp2_with (go_at_call 44; refine (rin_at _ _ _ _).mono ?_; rintro e w' ⟨rfl, rfl⟩)
    go_ret
    exact ⟨ret_bool HR.out.symm, balloc _ _⟩
  have k1 := inB_iff.1 h1
  by_cases h2 : 1 ≤ d
  · by_cases h3 : d ≤ t
    · by_cases h4 : t ≤ 200
      · have HR : Hid (loadB c d t = true) := loadB_yes k1 h2 h3 h4
        clear k1
        go_enter Tryz.func35, Tryz.ntmps35
        go_wp2_with (go_at_call 44; refine (rin_at _ _ _ _).mono ?_; rintro e w' ⟨rfl, rfl⟩)
        go_ret
        exact ⟨ret_bool HR.out.symm, balloc _ _⟩
      · have HR : Hid (loadB c d t = false) := loadB_not (fun h => h4 h.2.2.2)
        clear k1
        go_enter Tryz.func35, Tryz.ntmps35
        go_wp2_with (go_at_call 44; refine (rin_at _ _ _ _).mono ?_; rintro e w' ⟨rfl, rfl⟩)
        go_ret
        exact ⟨ret_bool (by rw [HR.out]; simp; omega), balloc _ _⟩
    · have HR : Hid (loadB c d t = false) := loadB_not (fun h => h3 h.2.2.1)
      clear k1
      go_enter Tryz.func35, Tryz.ntmps35
      go_wp2_with (go_at_call 44; refine (rin_at _ _ _ _).mono ?_; rintro e w' ⟨rfl, rfl⟩)
      go_ret
      exact ⟨ret_bool HR.out.symm, balloc _ _⟩
  · have HR : Hid (loadB c d t = false) := loadB_not (fun h => h2 h.2.1)
    clear k1
    go_enter Tryz.func35, Tryz.ntmps35
    go_wp2_with (go_at_call 44; refine (rin_at _ _ _ _).mono ?_; rintro e w' ⟨rfl, rfl⟩)
    go_ret
    exact ⟨ret_bool HR.out.symm, balloc _ _⟩

theorem lds_end {l : List Sec} {k n : Nat} (hn : n = l.length) (hk : ¬ k < n) (h : (l.take k).all ldB = true) : ldsB l = decide ((n : Int) ≤ 24) := by
  rw [List.take_of_length_le (by omega)] at h
  unfold ldsB
  rw [h, Bool.and_true, decide_eq_decide]
  omega
set_option maxHeartbeats 4000000 in
theorem rloads_any (v : Value) (l : List Sec) (w : World) (hv : Secs w v l) (hl : l.length ≤ 1000000) :
    Calls Tryz.prog 29 #[v] w fun e w' => e = .returned (.bool (ldsB l)) ∧ Below w.heap.size w w' := by
  obtain ⟨a, cap, rfl⟩ := hv.form
  obtain ⟨n, hn⟩ : ∃ n, n = l.length := ⟨_, rfl⟩
  have HV : Hid (Secs w (.slice a l.length cap) l) := hv
  clear hv
  rw [← hn] at HV ⊢
  have n6 : n ≤ 1000000 := by omega
  have HN : Hid (n = l.length) := hn
  clear hn hl
  go_enter Tryz.func29, Tryz.ntmps29
  go_wp2_with fail
  go_loopw [3] (fun i wr => ∃ k : Nat, k ≤ n ∧ i = .int .i64 k ∧ Hid ((l.take k).all ldB = true) ∧ Below w.heap.size w wr) (fun i _ => n - (intOf i).toNat)
  case atStart => exact ⟨0, Nat.zero_le _, rfl, rfl, Below.refl _ _⟩
  case round =>
    obtain ⟨k, hk, rfl, HA, hB⟩ := hrel
    have B : Hid (Below w.heap.size w wr) := hB
    clear hB
    by_cases hlt : k < n
    · obtain ⟨⟨c, d, t⟩, hx⟩ : ∃ x, l[k]? = some x := ⟨_, List.getElem?_eq_getElem (by rw [← HN.out]; exact hlt)⟩
      obtain ⟨b, rfl, hb, hb', x1, x2, x3⟩ := secs_at' HV.out hx B.out
      have HX : Hid (l[k]? = some ⟨c, d, t⟩) := hx
      clear hx
      cases h : loadB c d t
      · have HL : Hid (ldsB l = false) := lds_no HX.out h
        go_wp2_with (go_at_call 35; refine (rload_any _ _ _ _).mono ?_; rintro e w2 ⟨rfl, g2⟩; have G2 : Hid (Below w.heap.size w w2) := btrans B.out g2; clear g2)
        go_ret
        exact ⟨ret_bool HL.out.symm, G2.out⟩
      · go_wp2_with (go_at_call 35; refine (rload_any _ _ _ _).mono ?_; rintro e w2 ⟨rfl, g2⟩; have G2 : Hid (Below w.heap.size w w2) := btrans B.out g2; clear g2)
        go_round
        case rel => exact ⟨k + 1, by omega, by go_num, all_take HX.out HA.out h, G2.out⟩
        case measure => simp [intOf]; omega
    · have HL : Hid (ldsB l = decide ((n : Int) ≤ 24)) := lds_end HN.out hlt HA.out
      go_wp2_with fail
      go_ret
      exact ⟨ret_bool HL.out.symm, B.out⟩

theorem job_ask {t T u j : Int} (hT : 1 ≤ T) (hu : u = j * T) (h1 : ¬ u < t) (h2 : (j - 1) * T < t) : ceilD t T = j := ceil_eq hT (by omega) h2
theorem job_due {D t T u j : Int} (hT : 1 ≤ T) (h0 : 0 ≤ j) (hu : u = j * T) (h1 : ¬ u + D ≤ t) (h2 : j = 0 ∨ (j - 1) * T + D ≤ t) : cntD D T t = j := cnt_eq hT h0 (by omega) h2
theorem job_next {T u j : Int} (hu : u = j * T) : u + T = (j + 1) * T := by rw [Int.add_mul]; omega
theorem job_sum {X c j y : Int} (hy : y = X + c * j) : y + c = X + c * (j + 1) := by rw [Int.mul_add]; omega
theorem job_bd {T u j : Int} (hT : 1 ≤ T) (h0 : 0 ≤ j) (hu : u = j * T) : j ≤ u := by
  have := Int.mul_le_mul_of_nonneg_left hT h0
  omega
theorem job_y {X c j y : Int} (hc : 1 ≤ c) (hc2 : c ≤ 20000) (h0 : 0 ≤ j) (hj : j ≤ 20200) (hX : 0 ≤ X) (hX2 : X ≤ 9600000000) (hy : y = X + c * j) : 0 ≤ y ∧ y ≤ 10100000000 := by
  have a := Int.mul_nonneg (show 0 ≤ c by omega) h0
  have b : c * j ≤ 20000 * 20200 := Int.mul_le_mul hc2 hj h0 (by omega)
  omega
set_option maxHeartbeats 8000000 in
theorem rasked_any (v : Value) (l : List Sec) (t : Int) (w : World) (hv : Secs w v l) (hl : l.length ≤ 1000000) :
    Calls Tryz.prog 28 #[v, .int .i64 t] w fun e w' => e = .returned (.int .i64 (askV l t)) ∧ Below w.heap.size w w' := by
  obtain ⟨a, cap, rfl⟩ := hv.form
  obtain ⟨n, hn⟩ : ∃ n, n = l.length := ⟨_, rfl⟩
  have HV : Hid (Secs w (.slice a l.length cap) l) := hv
  clear hv
  rw [← hn] at HV ⊢
  have n6 : n ≤ 1000000 := by omega
  have HN : Hid (n = l.length) := hn
  have HLL : Hid (l.length ≤ 1000000) := hl
  clear hn hl
  by_cases hm : ldsB l = true ∧ 0 ≤ t ∧ t ≤ 20000
  · obtain ⟨hl, h0, h1⟩ := hm
    have HL : Hid (ldsB l = true) := hl
    have HI : Hid (inB t 0 20000 = true) := inB_iff.2 ⟨h0, h1⟩
    have HR : Hid (askV l t = askL l t) := askV_is hl h0 h1
    have HP : Hid (∀ k, 0 ≤ askL (l.take k) t ∧ askL (l.take k) t ≤ 9600000000) := ask_part (ldsB_all hl) (ldsB_len hl) h0 h1
    clear hl
    go_enter Tryz.func28, Tryz.ntmps28
    go_wp2_with fail
    go_loopw [5, 6] (fun x i wr => ∃ k : Nat, k ≤ n ∧ i = .int .i64 k ∧ x = .int .i64 (askL (l.take k) t) ∧ Below w.heap.size w wr) (fun _ i _ => n - (intOf i).toNat)
    case atStart => exact ⟨0, Nat.zero_le _, rfl, rfl, Below.refl _ _⟩
    case round =>
      obtain ⟨k, hk, rfl, rfl, hB⟩ := hrel
      have B : Hid (Below w.heap.size w wr) := hB
      clear hB
      by_cases hlt : k < n
      · obtain ⟨⟨c, d, T⟩, hx⟩ : ∃ x, l[k]? = some x := ⟨_, List.getElem?_eq_getElem (by rw [← HN.out]; exact hlt)⟩
        obtain ⟨b, e, -⟩ := secs_at' HV.out hx B.out
        subst e
        have hs := ldB_iff.1 (ldsB_all HL.out _ (List.mem_of_getElem? hx))
        simp only at hs
        obtain ⟨⟨c1, c2⟩, ⟨T1, T2⟩, -⟩ := hs
        have HT : Hid (askL (l.take (k + 1)) t = askL (l.take k) t + c * ceilD t T) := askL_take hx t
        have HX : Hid (l[k]? = some ⟨c, d, T⟩) := hx
        clear hx
        obtain ⟨X, hX⟩ : ∃ X, askL (l.take k) t = X := ⟨_, rfl⟩
        obtain ⟨p1, p2⟩ := HP.out k
        rw [hX] at p1 p2 HT
        rw [hX]
        clear hX
        go_wp2_with (first | (go_at_call 29; refine (rloads_any _ l _ (HV.out.below B.out) HLL.out).mono ?_; rintro e w2 ⟨rfl, g2⟩; rw [HL.out]; have G2 : Hid (Below w.heap.size w w2) := btrans B.out g2; clear g2) | (go_at_call 44; refine (rin_at _ _ _ _).mono ?_; rintro e w' ⟨rfl, rfl⟩; rw [HI.out]))
        obtain ⟨b', e, hb, hb', x1, x2, x3⟩ := secs_at' HV.out HX.out G2.out
        simp only [Option.some.injEq, Addr.mk.injEq, and_true] at e
        subst e
        go_loop [5, 7] (fun y u => ∃ j u' y' : Int, 0 ≤ j ∧ u = .int .i64 u' ∧ y = .int .i64 y' ∧ 0 ≤ u' ∧ u' ≤ 20200 ∧ j ≤ u' ∧ Hid (u' = j * T) ∧ Hid (y' = X + c * j) ∧ Hid ((j - 1) * T < t)) (fun _ u => (20400 - intOf u).toNat)
        case atStart => exact ⟨0, 0, X, by omega, rfl, rfl, by omega, by omega, by omega, show _ = _ by simp, show _ = _ by simp, show _ < _ by omega⟩
        case round =>
          obtain ⟨j, u, y, j0, rfl, rfl, u0, u1, ju, HU, HY, HJ⟩ := hrel
          obtain ⟨y1, y2⟩ := job_y c1 c2 j0 (by omega) p1 p2 HY.out
          by_cases hut : u < t
          · go_wp2_with fail
            go_round
            case rel => exact ⟨j + 1, u + T, y + c, by omega, rfl, rfl, by omega, by omega, by omega, job_next HU.out, job_sum HY.out, by rw [show j + 1 - 1 = j by omega]; have := HU.out; show _ < _; omega⟩
            case measure => simp [intOf]; omega
          · have HC : Hid (y = askL (l.take (k + 1)) t) := by unfold Hid; rw [HT.out, job_ask T1 HU.out hut HJ.out]; exact HY.out
            go_wp2_with fail
            go_round
            case rel => exact ⟨k + 1, by omega, by go_num, by rw [HC.out], G2.out⟩
            case measure => simp [intOf]; omega
      · have e := take_all HN.out hlt
        rw [e]
        clear e
        go_wp2_with fail
        go_ret
        exact ⟨ret_int HR.out.symm, B.out⟩
  · have HR : Hid (askV l t = 0) := by unfold Hid askV; rw [if_neg hm]
    have HM : Hid (ldsB l = true → inB t 0 20000 = false) := fun h => inB_no.2 (fun h2 => hm ⟨h, h2.1, h2.2⟩)
    clear hm
    go_enter Tryz.func28, Tryz.ntmps28
    go_wp2_with fail
    go_loopw [5, 6] (fun x i wr => i = .int .i64 0 ∧ x = .int .i64 0 ∧ Below w.heap.size w wr) (fun _ _ _ => 0)
    case atStart => exact ⟨rfl, rfl, Below.refl _ _⟩
    case round =>
      obtain ⟨rfl, rfl, hB⟩ := hrel
      have B : Hid (Below w.heap.size w wr) := hB
      clear hB
      by_cases hz : n = 0
      · subst hz
        go_wp2_with fail
        go_ret
        exact ⟨ret_int HR.out.symm, B.out⟩
      · have hp : 0 < (n : Int) := by omega
        cases hl : ldsB l
        · have HL : Hid (ldsB l = false) := hl
          go_wp2_with (go_at_call 29; refine (rloads_any _ l _ (HV.out.below B.out) HLL.out).mono ?_; rintro e w2 ⟨rfl, g2⟩; rw [HL.out]; have G2 : Hid (Below w.heap.size w w2) := btrans B.out g2; clear g2)
          go_ret
          exact ⟨ret_int HR.out.symm, G2.out⟩
        · have HL : Hid (ldsB l = true) := hl
          have HI : Hid (inB t 0 20000 = false) := HM.out hl
          go_wp2_with (first | (go_at_call 29; refine (rloads_any _ l _ (HV.out.below B.out) HLL.out).mono ?_; rintro e w2 ⟨rfl, g2⟩; rw [HL.out]; have G2 : Hid (Below w.heap.size w w2) := btrans B.out g2; clear g2) | (go_at_call 44; refine (rin_at _ _ _ _).mono ?_; rintro e w' ⟨rfl, rfl⟩; rw [HI.out]))
          go_ret
          exact ⟨ret_int HR.out.symm, G2.out⟩
end Go.Proofs.YtpbjodbcmaaheaaGreatDoor
