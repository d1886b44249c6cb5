/- The document's own load: hortatorref7.Load. -/
import Derived.Test.YtakdliecjfeedaaGreatDoorDem2
namespace Go.Proofs.YtakdliecjfeedaaGreatDoor
open Go Go.RowKit

theorem rin_at (v lo hi : Int) (w : World) :
    Calls Tryz.prog 41 #[.int .i64 v, .int .i64 lo, .int .i64 hi] w fun e w' => e = .returned (.bool (inB v lo hi)) ∧ w' = w := by
  by_cases h1 : lo ≤ v
  · by_cases h2 : v ≤ hi
    · rw [inB_iff.2 ⟨h1, h2⟩]
      go_enter Tryz.func41, Tryz.ntmps41
      go_wp2
      go_ret
      exact ⟨rfl, rfl⟩
    · rw [inB_no.2 (fun h => h2 h.2)]
      go_enter Tryz.func41, Tryz.ntmps41
      go_wp2
      go_ret
      exact ⟨rfl, rfl⟩
  · rw [inB_no.2 (fun h => h1 h.1)]
    go_enter Tryz.func41, Tryz.ntmps41
    go_wp2
    go_ret
    exact ⟨rfl, rfl⟩
theorem loadB_not {c d t : Int} (h : ¬ ((1 ≤ c ∧ c ≤ 20000) ∧ 1 ≤ d ∧ d ≤ t ∧ t ≤ 200)) : loadB c d t = false := by
  rw [← Bool.not_eq_true]
  simp only [loadB, Bool.and_eq_true, inB_iff]
  omega
theorem loadB_yes {c d t : Int} (h : 1 ≤ c ∧ c ≤ 20000) (h1 : 1 ≤ d) (h2 : d ≤ t) (h3 : t ≤ 200) : loadB c d t = true := by
  simp only [loadB, Bool.and_eq_true, inB_iff]
  omega
set_option maxHeartbeats 1000000 in
theorem rload_any (c d t : Int) (w : World) :
    Calls Tryz.prog 45 #[.agg #[.int .i64 c, .int .i64 d, .int .i64 t]] w fun e w' => e = .returned (.bool (loadB c d t)) ∧ Below w.heap.size w w' := by
  cases h1 : inB c 1 20000
  · have HR : Hid (loadB c d t = false) := loadB_not (fun h => inB_no.1 h1 h.1)
    go_enter Tryz.func45, Tryz.ntmps45
    go_wp2_with (go_at_call 41; refine (rin_at _ _ _ _).mono ?_; rintro e w' ⟨rfl, rfl⟩)
    go_ret
    exact ⟨ret_bool HR.out.symm, balloc _ _⟩
  have k1 := inB_iff.1 h1
  by_cases h2 : 1 ≤ d
  · by_cases h3 : d ≤ t
    · by_cases h4 : t ≤ 200
      · have HR : Hid (loadB c d t = true) := loadB_yes k1 h2 h3 h4
        clear k1
        go_enter Tryz.func45, Tryz.ntmps45
        go_wp2_with (go_at_call 41; refine (rin_at _ _ _ _).mono ?_; rintro e w' ⟨rfl, rfl⟩)
        go_ret
        exact ⟨ret_bool HR.out.symm, balloc _ _⟩
      · have HR : Hid (loadB c d t = false) := loadB_not (fun h => h4 h.2.2.2)
        clear k1
        go_enter Tryz.func45, Tryz.ntmps45
        go_wp2_with (go_at_call 41; refine (rin_at _ _ _ _).mono ?_; rintro e w' ⟨rfl, rfl⟩)
        go_ret
        exact ⟨ret_bool (by rw [HR.out]; simp; omega), balloc _ _⟩
    · have HR : Hid (loadB c d t = false) := loadB_not (fun h => h3 h.2.2.1)
      clear k1
      go_enter Tryz.func45, Tryz.ntmps45
      go_wp2_with (go_at_call 41; refine (rin_at _ _ _ _).mono ?_; rintro e w' ⟨rfl, rfl⟩)
      go_ret
      exact ⟨ret_bool HR.out.symm, balloc _ _⟩
  · have HR : Hid (loadB c d t = false) := loadB_not (fun h => h2 h.2.1)
    clear k1
    go_enter Tryz.func45, Tryz.ntmps45
    go_wp2_with (go_at_call 41; refine (rin_at _ _ _ _).mono ?_; rintro e w' ⟨rfl, rfl⟩)
    go_ret
    exact ⟨ret_bool HR.out.symm, balloc _ _⟩
theorem lds_end {l : List Sec} {k n : Nat} (hn : n = l.length) (hk : ¬ k < n) (h : (l.take k).all ldB = true) : ldsB l = decide ((n : Int) ≤ 24) := by
  rw [List.take_of_length_le (by omega)] at h
  unfold ldsB
  rw [h, Bool.and_true, decide_eq_decide]
  omega
set_option maxHeartbeats 4000000 in
theorem rloads_any (v : Value) (l : List Sec) (w : World) (hv : Secs w v l) (hl : l.length ≤ 1000000) :
    Calls Tryz.prog 29 #[v] w fun e w' => e = .returned (.bool (ldsB l)) ∧ Below w.heap.size w w' := by
  obtain ⟨a, cap, rfl⟩ := hv.form
  obtain ⟨n, hn⟩ : ∃ n, n = l.length := ⟨_, rfl⟩
  have HV : Hid (Secs w (.slice a l.length cap) l) := hv
  clear hv
  rw [← hn] at HV ⊢
  have n6 : n ≤ 1000000 := by omega
  have HN : Hid (n = l.length) := hn
  clear hn hl
  go_enter Tryz.func29, Tryz.ntmps29
  go_wp2_with fail
  go_loopw [3] (fun i wr => ∃ k : Nat, k ≤ n ∧ i = .int .i64 k ∧ Hid ((l.take k).all ldB = true) ∧ Below w.heap.size w wr) (fun i _ => n - (intOf i).toNat)
  case atStart => exact ⟨0, Nat.zero_le _, rfl, rfl, Below.refl _ _⟩
  case round =>
    obtain ⟨k, hk, rfl, HA, hB⟩ := hrel
    have B : Hid (Below w.heap.size w wr) := hB
    clear hB
    by_cases hlt : k < n
    · obtain ⟨⟨c, d, t⟩, hx⟩ : ∃ x, l[k]? = some x := ⟨_, List.getElem?_eq_getElem (by rw [← HN.out]; exact hlt)⟩
      obtain ⟨b, rfl, hb, hb', x1, x2, x3⟩ := secs_at' HV.out hx B.out
      have HX : Hid (l[k]? = some ⟨c, d, t⟩) := hx
      clear hx
      cases h : loadB c d t
      · have HL : Hid (ldsB l = false) := lds_no HX.out h
        go_wp2_with (go_at_call 45; refine (rload_any _ _ _ _).mono ?_; rintro e w2 ⟨rfl, g2⟩; have G2 : Hid (Below w.heap.size w w2) := btrans B.out g2; clear g2)
        go_ret
        exact ⟨ret_bool HL.out.symm, G2.out⟩
      · go_wp2_with (go_at_call 45; refine (rload_any _ _ _ _).mono ?_; rintro e w2 ⟨rfl, g2⟩; have G2 : Hid (Below w.heap.size w w2) := btrans B.out g2; clear g2)
        go_round
        case rel => exact ⟨k + 1, by omega, by go_num, all_take HX.out HA.out h, G2.out⟩
        case measure => simp [intOf]; omega
    · have HL : Hid (ldsB l = decide ((n : Int) ≤ 24)) := lds_end HN.out hlt HA.out
      go_wp2_with fail
      go_ret
      exact ⟨ret_bool HL.out.symm, B.out⟩
end Go.Proofs.YtakdliecjfeedaaGreatDoor

/- The contract of the document's own Time. -/
namespace Go.Proofs.YtakdliecjfeedaaGreatDoor
open Go Go.RowKit

theorem alt_bd {c T t : Int} (hc : 1 ≤ c) (hc2 : c ≤ 20000) (hT : 1 ≤ T) (h0 : 1 ≤ t) (h1 : t ≤ 20000) : (0 ≤ (t - 1) / T ∧ (t - 1) / T ≤ 20000) ∧ 0 ≤ c * ((t - 1) / T + 1) ∧ c * ((t - 1) / T + 1) ≤ 400000000 := by
  have e := ceil_alt (t := t) hT
  have a := ceil_le hT (show 0 ≤ t by omega)
  have b := ceil_pos hT h0
  obtain ⟨x, y⟩ := ask_one hc hc2 hT (show 0 ≤ t by omega) h1
  rw [e]
  omega
set_option maxHeartbeats 8000000 in
theorem rtime_any (v : Value) (l : List Sec) (w : World) (hv : Secs w v l) (hl : l.length ≤ 1000000) :
    Calls Tryz.prog 56 #[v] w fun e w' => e = .returned (.tuple #[.int .i64 (tN l), .bool (tOk l)]) ∧ Below w.heap.size w w' := by
  have HV : Hid (Secs w v l) := hv
  obtain ⟨a, cap, rfl⟩ := hv.form
  obtain ⟨n, hn⟩ : ∃ n, n = l.length := ⟨_, rfl⟩
  clear hv
  rw [← hn] at HV ⊢
  have HN : Hid (n = l.length) := hn
  have n6 : n ≤ 1000000 := by omega
  clear hn
  cases h : ldsB l
  · have HR : Hid (tOk l = false ∧ tN l = 0) := time_bad h
    have HL : Hid (ldsB l = false) := h
    clear h
    go_enter Tryz.func56, Tryz.ntmps56
    go_wp2_with (first | (go_at_call 29; refine (rloads_any _ l w HV.out hl).mono ?_; rintro e w1 ⟨rfl, g1⟩; rw [HL.out]; have G1 : Hid (Below w.heap.size w w1) := g1; clear g1) | (go_at_call 29; refine (rloads_any _ l _ (HV.out.below G1.out) hl).mono ?_; rintro e w2 ⟨rfl, g2⟩; rw [HL.out]; have G2 : Hid (Below w.heap.size w w2) := btrans G1.out g2; clear g2))
    go_ret2
    exact ⟨ret_two HR.out.2.symm HR.out.1.symm, G2.out⟩
  · have HL : Hid (ldsB l = true) := h
    clear h
    by_cases hz : n = 0
    · subst hz
      have HR : Hid (tOk l = true ∧ tN l = 0) := by
        have := List.length_eq_zero_iff.1 HN.out.symm
        rw [this]; exact time_nil
      go_enter Tryz.func56, Tryz.ntmps56
      go_wp2_with (first | (go_at_call 29; refine (rloads_any _ l w HV.out hl).mono ?_; rintro e w1 ⟨rfl, g1⟩; rw [HL.out]; have G1 : Hid (Below w.heap.size w w1) := g1; clear g1) | (go_at_call 29; refine (rloads_any _ l _ (HV.out.below G1.out) hl).mono ?_; rintro e w2 ⟨rfl, g2⟩; rw [HL.out]; have G2 : Hid (Below w.heap.size w w2) := btrans G1.out g2; clear g2))
      go_ret2
      exact ⟨ret_two HR.out.2.symm HR.out.1.symm, G2.out⟩
    · have HE : Hid (l ≠ []) := by rintro rfl; exact hz HN.out
      have HP : Hid (∀ k t, 0 ≤ t → t ≤ 20000 → 0 ≤ askL (l.take k) t ∧ askL (l.take k) t ≤ 9600000000) := fun k t h0 h1 => ask_part (ldsB_all HL.out) (ldsB_len HL.out) h0 h1 k
      have hz' : ((n : Int) == 0) = false := by simp; omega
      clear hz
      go_enter Tryz.func56, Tryz.ntmps56
      go_wp2_with (go_at_call 29; refine (rloads_any _ l w HV.out hl).mono ?_; rintro e w1 ⟨rfl, g1⟩; rw [HL.out]; have G1 : Hid (Below w.heap.size w w1) := g1; clear g1)
      go_loopw [4] (fun x wr => ∃ t : Int, 1 ≤ t ∧ t ≤ 9600000000 ∧ x = .int .i64 t ∧ Hid (Up l t) ∧ Below w.heap.size w wr) (fun x _ => (20001 - intOf x).toNat)
      case atStart => exact ⟨1, by omega, by omega, rfl, Up.one _, G1.out⟩
      case round =>
        obtain ⟨t, t1, t2, rfl, HU, hB⟩ := hrel
        have B : Hid (Below w.heap.size w wr) := hB
        clear hB
        by_cases ht : t ≤ 20000
        · go_wp2_with fail
          go_loopw [5, 6] (fun x i wr => ∃ k : Nat, k ≤ n ∧ i = .int .i64 k ∧ x = .int .i64 (askL (l.take k) t) ∧ Below w.heap.size w wr) (fun _ i _ => n - (intOf i).toNat)
          case atStart => exact ⟨0, Nat.zero_le _, rfl, rfl, B.out⟩
          case round =>
            obtain ⟨k, hk, rfl, rfl, hC⟩ := hrel
            have C : Hid (Below w.heap.size w wr) := hC
            clear hC
            by_cases hlt : k < n
            · obtain ⟨⟨c, d, T⟩, hx⟩ : ∃ x, l[k]? = some x := ⟨_, List.getElem?_eq_getElem (by rw [← HN.out]; exact hlt)⟩
              obtain ⟨b, e, hb, hb', x1, x2, x3⟩ := secs_at' HV.out hx C.out
              subst e
              have hs := ldB_iff.1 (ldsB_all HL.out _ (List.mem_of_getElem? hx))
              simp only at hs
              obtain ⟨⟨c1, c2⟩, ⟨T1, T2⟩, -⟩ := hs
              have HT : Hid (askL (l.take (k + 1)) t = askL (l.take k) t + c * ((t - 1) / T + 1)) := by unfold Hid; rw [ceil_alt T1]; exact askL_take hx t
              clear hx
              obtain ⟨X, hX⟩ : ∃ X, askL (l.take k) t = X := ⟨_, rfl⟩
              obtain ⟨p1, p2⟩ := HP.out k t (by omega) ht
              rw [hX] at p1 p2 HT
              rw [hX]
              clear hX
              obtain ⟨⟨q1, q2⟩, q3, q4⟩ := alt_bd c1 c2 T1 t1 ht
              go_wp2_with fail
              go_quiet (fail)
              go_wp2_with fail
              go_round
              case rel => exact ⟨k + 1, by omega, by go_num, by rw [HT.out], btrans C.out (bdrewN _ _)⟩
              case measure => simp [intOf]; omega
            · have e := take_all HN.out hlt
              rw [e]
              clear e
              obtain ⟨q, hq⟩ : ∃ q, askL l t = q := ⟨_, rfl⟩
              rw [hq]
              have q2 : q ≤ 9600000000 := by
                rw [← hq]
                have := ask_bd (ldsB_all HL.out) (t := t) (by omega) ht
                have := ldsB_len HL.out
                omega
              by_cases e : q = t
              · subst e
                have HR : Hid (tOk l = true ∧ tN l = q) := time_found HL.out HE.out (by omega) ht hq HU.out
                clear hq
                go_wp2_with fail
                go_ret2
                exact ⟨ret_two HR.out.2.symm HR.out.1.symm, C.out⟩
              · have HX : Hid (t < q ∧ Up l q) := by
                  have := HU.out.next HL.out HE.out t1 (by rw [hq]; exact e)
                  rw [hq] at this; exact this
                clear hq
                have q1 := HX.out.1
                go_wp2_with fail
                go_round
                case rel => exact ⟨q, by omega, by omega, rfl, HX.out.2, C.out⟩
                case measure => simp [intOf]; omega
        · have HR : Hid (tOk l = false ∧ tN l = 0) := time_lost HL.out HE.out (HU.out.cap (by omega))
          go_wp2_with fail
          go_ret2
          exact ⟨ret_two HR.out.2.symm HR.out.1.symm, B.out⟩
end Go.Proofs.YtakdliecjfeedaaGreatDoor
