/- The contracts of the document's own Bound and Time. -/
import Derived.Test.YtpbjodbcmaaheaaGreatDoorRBusy
namespace Go.Proofs.YtpbjodbcmaaheaaGreatDoor
open Go Go.RowKit

theorem dueV_no {l : List Sec} {t : Int} (h : ¬ (ldsB l = true ∧ 0 ≤ t ∧ t ≤ 20000)) : dueV l t = 0 := by unfold dueV; rw [if_neg h]
set_option maxHeartbeats 8000000 in
theorem rbound_any (v : Value) (l : List Sec) (t : Int) (w : World) (hv : Secs w v l) (hl : l.length ≤ 1000000) :
    Calls Tryz.prog 33 #[v, .int .i64 t] w fun e w' => e = .returned (.int .i64 (dueV l t)) ∧ Below w.heap.size w w' := by
  obtain ⟨a, cap, rfl⟩ := hv.form
  obtain ⟨n, hn⟩ : ∃ n, n = l.length := ⟨_, rfl⟩
  have HV : Hid (Secs w (.slice a l.length cap) l) := hv
  clear hv
  rw [← hn] at HV ⊢
  have n6 : n ≤ 1000000 := by omega
  have HN : Hid (n = l.length) := hn
  have HLL : Hid (l.length ≤ 1000000) := hl
  clear hn hl
  by_cases hm : ldsB l = true ∧ 0 ≤ t ∧ t ≤ 20000
  · obtain ⟨hl, h0, h1⟩ := hm
    have HL : Hid (ldsB l = true) := hl
    have HI : Hid (inB t 0 20000 = true) := inB_iff.2 ⟨h0, h1⟩
    have HR : Hid (dueV l t = dueL l t) := dueV_is hl h0 h1
    have HP : Hid (∀ k, 0 ≤ dueL (l.take k) t ∧ dueL (l.take k) t ≤ 9600000000) := due_part (ldsB_all hl) (ldsB_len hl) h0 h1
    clear hl
    go_enter Tryz.func33, Tryz.ntmps33
    go_wp2_with fail
    go_loopw [5, 6] (fun x i wr => ∃ k : Nat, k ≤ n ∧ i = .int .i64 k ∧ x = .int .i64 (dueL (l.take k) t) ∧ Below w.heap.size w wr) (fun _ i _ => n - (intOf i).toNat)
    case atStart => exact ⟨0, Nat.zero_le _, rfl, rfl, Below.refl _ _⟩
    case round =>
      obtain ⟨k, hk, rfl, rfl, hB⟩ := hrel
      have B : Hid (Below w.heap.size w wr) := hB
      clear hB
      by_cases hlt : k < n
      · obtain ⟨⟨c, d, T⟩, hx⟩ : ∃ x, l[k]? = some x := ⟨_, List.getElem?_eq_getElem (by rw [← HN.out]; exact hlt)⟩
        obtain ⟨b, e, -⟩ := secs_at' HV.out hx B.out
        subst e
        have hs := ldB_iff.1 (ldsB_all HL.out _ (List.mem_of_getElem? hx))
        simp only at hs
        obtain ⟨⟨c1, c2⟩, ⟨T1, T2⟩, d1, d2⟩ := hs
        have d3 : d ≤ 200 := by omega
        have HT : Hid (dueL (l.take (k + 1)) t = dueL (l.take k) t + c * cntD d T t) := dueL_take hx t
        have HX : Hid (l[k]? = some ⟨c, d, T⟩) := hx
        clear hx
        obtain ⟨X, hX⟩ : ∃ X, dueL (l.take k) t = X := ⟨_, rfl⟩
        obtain ⟨p1, p2⟩ := HP.out k
        rw [hX] at p1 p2 HT
        rw [hX]
        clear hX
        go_wp2_with (first | (go_at_call 29; refine (rloads_any _ l _ (HV.out.below B.out) HLL.out).mono ?_; rintro e w2 ⟨rfl, g2⟩; rw [HL.out]; have G2 : Hid (Below w.heap.size w w2) := btrans B.out g2; clear g2) | (go_at_call 44; refine (rin_at _ _ _ _).mono ?_; rintro e w' ⟨rfl, rfl⟩; rw [HI.out]))
        obtain ⟨b', e, hb, hb', x1, x2, x3⟩ := secs_at' HV.out HX.out G2.out
        simp only [Option.some.injEq, Addr.mk.injEq, and_true] at e
        subst e
        go_loop [5, 7] (fun y u => ∃ j u' y' : Int, 0 ≤ j ∧ u = .int .i64 u' ∧ y = .int .i64 y' ∧ 0 ≤ u' ∧ u' ≤ 20200 ∧ j ≤ u' ∧ Hid (u' = j * T) ∧ Hid (y' = X + c * j) ∧ Hid (j = 0 ∨ (j - 1) * T + d ≤ t)) (fun _ u => (20400 - intOf u).toNat)
        case atStart => exact ⟨0, 0, X, by omega, rfl, rfl, by omega, by omega, by omega, show _ = _ by simp, show _ = _ by simp, .inl rfl⟩
        case round =>
          obtain ⟨j, u, y, j0, rfl, rfl, u0, u1, ju, HU, HY, HJ⟩ := hrel
          obtain ⟨y1, y2⟩ := job_y c1 c2 j0 (by omega) p1 p2 HY.out
          by_cases hut : u + d ≤ t
          · go_wp2_with fail
            go_round
            case rel => exact ⟨j + 1, u + T, y + c, by omega, rfl, rfl, by omega, by omega, by omega, job_next HU.out, job_sum HY.out, .inr (by rw [show j + 1 - 1 = j by omega]; have := HU.out; show _ ≤ _; omega)⟩
            case measure => simp [intOf]; omega
          · have HC : Hid (y = dueL (l.take (k + 1)) t) := by unfold Hid; rw [HT.out, job_due T1 j0 HU.out hut HJ.out]; exact HY.out
            go_wp2_with fail
            go_round
            case rel => exact ⟨k + 1, by omega, by go_num, by rw [HC.out], G2.out⟩
            case measure => simp [intOf]; omega
      · have e := take_all HN.out hlt
        rw [e]
        clear e
        go_wp2_with fail
        go_ret
        exact ⟨ret_int HR.out.symm, B.out⟩
  · have HR : Hid (dueV l t = 0) := dueV_no hm
    have HM : Hid (ldsB l = true → inB t 0 20000 = false) := fun h => inB_no.2 (fun h2 => hm ⟨h, h2.1, h2.2⟩)
    clear hm
    go_enter Tryz.func33, Tryz.ntmps33
    go_wp2_with fail
    go_loopw [5, 6] (fun x i wr => i = .int .i64 0 ∧ x = .int .i64 0 ∧ Below w.heap.size w wr) (fun _ _ _ => 0)
    case atStart => exact ⟨rfl, rfl, Below.refl _ _⟩
    case round =>
      obtain ⟨rfl, rfl, hB⟩ := hrel
      have B : Hid (Below w.heap.size w wr) := hB
      clear hB
      by_cases hz : n = 0
      · subst hz
        go_wp2_with fail
        go_ret
        exact ⟨ret_int HR.out.symm, B.out⟩
      · have hp : 0 < (n : Int) := by omega
        cases hl : ldsB l
        · have HL : Hid (ldsB l = false) := hl
          go_wp2_with (go_at_call 29; refine (rloads_any _ l _ (HV.out.below B.out) HLL.out).mono ?_; rintro e w2 ⟨rfl, g2⟩; rw [HL.out]; have G2 : Hid (Below w.heap.size w w2) := btrans B.out g2; clear g2)
          go_ret
          exact ⟨ret_int HR.out.symm, G2.out⟩
        · have HL : Hid (ldsB l = true) := hl
          have HI : Hid (inB t 0 20000 = false) := HM.out hl
          go_wp2_with (first | (go_at_call 29; refine (rloads_any _ l _ (HV.out.below B.out) HLL.out).mono ?_; rintro e w2 ⟨rfl, g2⟩; rw [HL.out]; have G2 : Hid (Below w.heap.size w w2) := btrans B.out g2; clear g2) | (go_at_call 44; refine (rin_at _ _ _ _).mono ?_; rintro e w' ⟨rfl, rfl⟩; rw [HI.out]))
          go_ret
          exact ⟨ret_int HR.out.symm, G2.out⟩

theorem alt_bd {c T t : Int} (hc : 1 ≤ c) (hc2 : c ≤ 20000) (hT : 1 ≤ T) (h0 : 1 ≤ t) (h1 : t ≤ 20000) : (0 ≤ (t - 1) / T ∧ (t - 1) / T ≤ 20000) ∧ 0 ≤ c * ((t - 1) / T + 1) ∧ c * ((t - 1) / T + 1) ≤ 400000000 := by
  have e := ceil_alt (t := t) hT
  have a := ceil_le hT (show 0 ≤ t by omega)
  have b := ceil_pos hT h0
  obtain ⟨x, y⟩ := ask_one hc hc2 hT (show 0 ≤ t by omega) h1
  rw [e]
  omega
set_option maxHeartbeats 8000000 in
theorem rtime_any (v : Value) (l : List Sec) (w : World) (hv : Secs w v l) (hl : l.length ≤ 1000000) :
    Calls Tryz.prog 26 #[v] w fun e w' => e = .returned (.tuple #[.int .i64 (tN l), .bool (tOk l)]) ∧ Below w.heap.size w w' := by
  have HV : Hid (Secs w v l) := hv
  obtain ⟨a, cap, rfl⟩ := hv.form
  obtain ⟨n, hn⟩ : ∃ n, n = l.length := ⟨_, rfl⟩
  clear hv
  rw [← hn] at HV ⊢
  have HN : Hid (n = l.length) := hn
  have n6 : n ≤ 1000000 := by omega
  clear hn
  cases h : ldsB l
  · have HR : Hid (tOk l = false ∧ tN l = 0) := time_bad h
    have HL : Hid (ldsB l = false) := h
    clear h
    go_enter Tryz.func26, Tryz.ntmps26
    go_wp2_with (first | (go_at_call 29; refine (rloads_any _ l w HV.out hl).mono ?_; rintro e w1 ⟨rfl, g1⟩; rw [HL.out]; have G1 : Hid (Below w.heap.size w w1) := g1; clear g1) | (go_at_call 29; refine (rloads_any _ l _ (HV.out.below G1.out) hl).mono ?_; rintro e w2 ⟨rfl, g2⟩; rw [HL.out]; have G2 : Hid (Below w.heap.size w w2) := btrans G1.out g2; clear g2))
    go_ret2
    exact ⟨ret_two HR.out.2.symm HR.out.1.symm, G2.out⟩
  · have HL : Hid (ldsB l = true) := h
    clear h
    by_cases hz : n = 0
    · subst hz
      have HR : Hid (tOk l = true ∧ tN l = 0) := by
        have := List.length_eq_zero_iff.1 HN.out.symm
        rw [this]; exact time_nil
      go_enter Tryz.func26, Tryz.ntmps26
      go_wp2_with (first | (go_at_call 29; refine (rloads_any _ l w HV.out hl).mono ?_; rintro e w1 ⟨rfl, g1⟩; rw [HL.out]; have G1 : Hid (Below w.heap.size w w1) := g1; clear g1) | (go_at_call 29; refine (rloads_any _ l _ (HV.out.below G1.out) hl).mono ?_; rintro e w2 ⟨rfl, g2⟩; rw [HL.out]; have G2 : Hid (Below w.heap.size w w2) := btrans G1.out g2; clear g2))
      go_ret2
      exact ⟨ret_two HR.out.2.symm HR.out.1.symm, G2.out⟩
    · have HE : Hid (l ≠ []) := by rintro rfl; exact hz HN.out
      have HP : Hid (∀ k t, 0 ≤ t → t ≤ 20000 → 0 ≤ askL (l.take k) t ∧ askL (l.take k) t ≤ 9600000000) := fun k t h0 h1 => ask_part (ldsB_all HL.out) (ldsB_len HL.out) h0 h1 k
      have hz' : ((n : Int) == 0) = false := by simp; omega
      clear hz
      go_enter Tryz.func26, Tryz.ntmps26
      go_wp2_with (go_at_call 29; refine (rloads_any _ l w HV.out hl).mono ?_; rintro e w1 ⟨rfl, g1⟩; rw [HL.out]; have G1 : Hid (Below w.heap.size w w1) := g1; clear g1)
      go_loopw [4] (fun x wr => ∃ t : Int, 1 ≤ t ∧ t ≤ 9600000000 ∧ x = .int .i64 t ∧ Hid (Up l t) ∧ Below w.heap.size w wr) (fun x _ => (20001 - intOf x).toNat)
      case atStart => exact ⟨1, by omega, by omega, rfl, Up.one _, G1.out⟩
      case round =>
        obtain ⟨t, t1, t2, rfl, HU, hB⟩ := hrel
        have B : Hid (Below w.heap.size w wr) := hB
        clear hB
        by_cases ht : t ≤ 20000
        · go_wp2_with fail
          go_loopw [5, 6] (fun x i wr => ∃ k : Nat, k ≤ n ∧ i = .int .i64 k ∧ x = .int .i64 (askL (l.take k) t) ∧ Below w.heap.size w wr) (fun _ i _ => n - (intOf i).toNat)
          case atStart => exact ⟨0, Nat.zero_le _, rfl, rfl, B.out⟩
          case round =>
            obtain ⟨k, hk, rfl, rfl, hC⟩ := hrel
            have C : Hid (Below w.heap.size w wr) := hC
            clear hC
            by_cases hlt : k < n
            · obtain ⟨⟨c, d, T⟩, hx⟩ : ∃ x, l[k]? = some x := ⟨_, List.getElem?_eq_getElem (by rw [← HN.out]; exact hlt)⟩
              obtain ⟨b, e, hb, hb', x1, x2, x3⟩ := secs_at' HV.out hx C.out
              subst e
              have hs := ldB_iff.1 (ldsB_all HL.out _ (List.mem_of_getElem? hx))
              simp only at hs
              obtain ⟨⟨c1, c2⟩, ⟨T1, T2⟩, -⟩ := hs
              have HT : Hid (askL (l.take (k + 1)) t = askL (l.take k) t + c * ((t - 1) / T + 1)) := by unfold Hid; rw [ceil_alt T1]; exact askL_take hx t
              clear hx
              obtain ⟨X, hX⟩ : ∃ X, askL (l.take k) t = X := ⟨_, rfl⟩
              obtain ⟨p1, p2⟩ := HP.out k t (by omega) ht
              rw [hX] at p1 p2 HT
              rw [hX]
              clear hX
              obtain ⟨⟨q1, q2⟩, q3, q4⟩ := alt_bd c1 c2 T1 t1 ht
              go_wp2_with fail
              go_quiet (fail)
              go_wp2_with fail
              go_round
              case rel => exact ⟨k + 1, by omega, by go_num, by rw [HT.out], btrans C.out (bdrewN _ _)⟩
              case measure => simp [intOf]; omega
            · have e := take_all HN.out hlt
              rw [e]
              clear e
              obtain ⟨q, hq⟩ : ∃ q, askL l t = q := ⟨_, rfl⟩
              rw [hq]
              have q2 : q ≤ 9600000000 := by
                rw [← hq]
                have := ask_bd (ldsB_all HL.out) (t := t) (by omega) ht
                have := ldsB_len HL.out
                omega
              by_cases e : q = t
              · subst e
                have HR : Hid (tOk l = true ∧ tN l = q) := time_found HL.out HE.out (by omega) ht hq HU.out
                clear hq
                go_wp2_with fail
                go_ret2
                exact ⟨ret_two HR.out.2.symm HR.out.1.symm, C.out⟩
              · have HX : Hid (t < q ∧ Up l q) := by
                  have := HU.out.next HL.out HE.out t1 (by rw [hq]; exact e)
                  rw [hq] at this; exact this
                clear hq
                have q1 := HX.out.1
                go_wp2_with fail
                go_round
                case rel => exact ⟨q, by omega, by omega, rfl, HX.out.2, C.out⟩
                case measure => simp [intOf]; omega
        · have HR : Hid (tOk l = false ∧ tN l = 0) := time_lost HL.out HE.out (HU.out.cap (by omega))
          go_wp2_with fail
          go_ret2
          exact ⟨ret_two HR.out.2.symm HR.out.1.symm, B.out⟩
end Go.Proofs.YtpbjodbcmaaheaaGreatDoor
