/- The contracts of package demand. -/
import Derived.Test.YtcgmbfpmcldfdaaGreatDoorDem
namespace Go.Proofs.YtcgmbfpmcldfdaaGreatDoor
open Go Go.RowKit

def dueV (l : List Sec) (t : Int) : Int := if ldsB l = true ∧ 0 ≤ t ∧ t ≤ 20000 then dueL l t else 0
theorem dueV_is {l : List Sec} {t : Int} (h : ldsB l = true) (h0 : 0 ≤ t) (h1 : t ≤ 20000) : dueV l t = dueL l t := by unfold dueV; rw [if_pos ⟨h, h0, h1⟩]
theorem dueV_zero {l : List Sec} {t : Int} (h : askV l t = 0) : dueV l t = 0 := by
  unfold dueV
  unfold askV at h
  split
  · rename_i k
    rw [if_pos k] at h
    have := due_ask (ldsB_all k.1) k.2.1
    have := due_nonneg (ldsB_all k.1) t
    omega
  · rfl
theorem askV_may {l : List Sec} {t : Int} (h : ¬ askV l t = 0) : ldsB l = true ∧ 0 ≤ t ∧ t ≤ 20000 := by
  unfold askV at h
  split at h
  · assumption
  · exact absurd rfl h
set_option maxHeartbeats 4000000 in
theorem dbnd_any (v : Value) (l : List Sec) (t : Int) (w : World) (hv : Secs w v l) (hl : l.length ≤ 1000000) :
    Calls Tryz.prog 12 #[v, .int .i64 t] w fun e w' => e = .returned (.int .i64 (dueV l t)) ∧ Below w.heap.size w w' := by
  have HV : Hid (Secs w v l) := hv
  obtain ⟨a, cap, rfl⟩ := hv.form
  clear hv
  obtain ⟨q, hq⟩ : ∃ q, askV l t = q := ⟨_, rfl⟩
  have HQ : Hid (askV l t = q) := hq
  by_cases h : q = 0
  · have HR : Hid (dueV l t = 0) := dueV_zero (by rw [hq, h])
    subst h
    clear hq
    go_enter Tryz.func12, Tryz.ntmps12
    go_wp2_with (go_at_call 11; refine (basked_any _ l _ _ HV.out hl).mono ?_; rintro e w1 ⟨rfl, g1⟩; rw [HQ.out]; have G1 : Hid (Below w.heap.size w w1) := g1; clear g1)
    go_ret
    exact ⟨ret_int HR.out.symm, G1.out⟩
  · have HM : Hid (ldsB l = true ∧ 0 ≤ t ∧ t ≤ 20000) := askV_may (by rw [hq]; exact h)
    have HR : Hid (dueV l t = dueL l t) := dueV_is HM.out.1 HM.out.2.1 HM.out.2.2
    clear hq
    go_enter Tryz.func12, Tryz.ntmps12
    go_wp2_with (first | (go_at_call 11; refine (basked_any _ l _ _ HV.out hl).mono ?_; rintro e w1 ⟨rfl, g1⟩; rw [HQ.out]; have G1 : Hid (Below w.heap.size w w1) := g1; clear g1) | (go_at_call 20; refine (dbound_any _ l _ _ (HV.out.below G1.out) (ldsB_len HM.out.1) (ldsB_all HM.out.1) HM.out.2.1 HM.out.2.2).mono ?_; rintro e w2 ⟨rfl, g2⟩; have G2 : Hid (Below w.heap.size w w2) := btrans G1.out g2; clear g2))
    go_ret
    exact ⟨ret_int HR.out.symm, G2.out⟩

theorem over_lost {l : List Sec} (h : tOk l = false) : oOk l = false ∧ oN l = 0 := over_none (by rw [tN_no h]; intro s h1 h2; omega)
set_option maxHeartbeats 4000000 in
theorem dfirst_any (v : Value) (l : List Sec) (w : World) (hv : Secs w v l) (hl : l.length ≤ 1000000) :
    Calls Tryz.prog 15 #[v] w fun e w' => e = .returned (.tuple #[.int .i64 (oN l), .bool (oOk l)]) ∧ Below w.heap.size w w' := by
  have HV : Hid (Secs w v l) := hv
  obtain ⟨a, cap, rfl⟩ := hv.form
  clear hv
  obtain ⟨z, hz⟩ : ∃ z, tN l = z := ⟨_, rfl⟩
  have HZ : Hid (tN l = z) := hz
  have zb := tN_bd l
  rw [hz] at zb
  obtain ⟨z0, z1⟩ := zb
  clear hz
  cases h : tOk l
  · have HR : Hid (oOk l = false ∧ oN l = 0) := over_lost h
    have HO : Hid (tOk l = false) := h
    clear h
    go_enter Tryz.func15, Tryz.ntmps15
    go_wp2_with (go_at_call 9; refine (btime_any _ l _ HV.out hl).mono ?_; rintro e w1 ⟨rfl, g1⟩; rw [HZ.out, HO.out]; have G1 : Hid (Below w.heap.size w w1) := g1; clear g1)
    go_ret2
    exact ⟨ret_two HR.out.2.symm HR.out.1.symm, G1.out⟩
  · have HL : Hid (ldsB l = true) := tOk_lds h
    have HO : Hid (tOk l = true) := h
    clear h
    obtain ⟨t0, ht0⟩ : ∃ t0, dlA l 0 = t0 := ⟨_, rfl⟩
    have HT : Hid (dlA l 0 = t0) := ht0
    have hb0 := dlA_gt (ldsB_all HL.out) (t := 0) (by omega)
    have hb1 := dlA_le l 0
    have HF : Hid (Fine l t0) := by
      unfold Hid; rw [← ht0]
      exact fine_next (ldsB_all HL.out) (fun s h1 h2 => by omega) (by rw [due_zero (ldsB_all HL.out)]; omega)
    rw [ht0] at hb0 hb1
    clear ht0
    go_enter Tryz.func15, Tryz.ntmps15
    go_wp2_with (first | (go_at_call 9; refine (btime_any _ l _ HV.out hl).mono ?_; rintro e w1 ⟨rfl, g1⟩; rw [HZ.out, HO.out]; have G1 : Hid (Below w.heap.size w w1) := g1; clear g1) | (go_at_call 24; refine (after_any _ l _ _ (HV.out.below G1.out) (ldsB_len HL.out) (ldsB_all HL.out) (by omega) (by omega)).mono ?_; rintro e w2 ⟨rfl, g2⟩; rw [HT.out]; have G2 : Hid (Below w.heap.size w w2) := btrans G1.out g2; clear g2))
    go_loopw [6] (fun x wr => ∃ t : Int, 1 ≤ t ∧ t ≤ 20001 ∧ x = .int .i64 t ∧ Hid (Fine l t) ∧ Below w.heap.size w wr) (fun x _ => (20002 - intOf x).toNat)
    case atStart => exact ⟨t0, by omega, by omega, rfl, HF, G2.out⟩
    case round =>
      obtain ⟨t, t1, t2, rfl, HX, hB⟩ := hrel
      have B : Hid (Below w.heap.size w wr) := hB
      clear hB
      by_cases ht : t ≤ z
      · obtain ⟨q, hq⟩ : ∃ q, dueL l t = q := ⟨_, rfl⟩
        have HQ : Hid (dueL l t = q) := hq
        clear hq
        by_cases e : t < q
        · have HR : Hid (oOk l = true ∧ oN l = t) := over_found (by omega) (by rw [HZ.out]; exact ht) (by rw [HQ.out]; exact e) HX.out
          go_wp2_with (go_at_call 20; refine (dbound_any _ l _ _ (HV.out.below B.out) (ldsB_len HL.out) (ldsB_all HL.out) (by omega) (by omega)).mono ?_; rintro e w2 ⟨rfl, g2⟩; rw [HQ.out]; have G2 : Hid (Below w.heap.size w w2) := btrans B.out g2; clear g2)
          go_ret2
          exact ⟨ret_two HR.out.2.symm HR.out.1.symm, G2.out⟩
        · obtain ⟨u, hu⟩ : ∃ u, dlA l t = u := ⟨_, rfl⟩
          have HU : Hid (dlA l t = u) := hu
          have u0 := dlA_gt (ldsB_all HL.out) (t := t) (by omega)
          have u1 := dlA_le l t
          have HF2 : Hid (Fine l u) := by
            unfold Hid; rw [← hu]
            exact fine_next (ldsB_all HL.out) HX.out (by rw [HQ.out]; omega)
          rw [hu] at u0 u1
          clear hu
          go_wp2_with (first | (go_at_call 20; refine (dbound_any _ l _ _ (HV.out.below B.out) (ldsB_len HL.out) (ldsB_all HL.out) (by omega) (by omega)).mono ?_; rintro e w2 ⟨rfl, g2⟩; rw [HQ.out]; have G2 : Hid (Below w.heap.size w w2) := btrans B.out g2; clear g2) | (go_at_call 24; refine (after_any _ l _ _ (HV.out.below G2.out) (ldsB_len HL.out) (ldsB_all HL.out) (by omega) (by omega)).mono ?_; rintro e w3 ⟨rfl, g3⟩; rw [HU.out]; have G3 : Hid (Below w.heap.size w w3) := btrans G2.out g3; clear g3))
          go_round
          case rel => exact ⟨u, by omega, by omega, rfl, HF2, G3.out⟩
          case measure => simp [intOf]; omega
      · have HR : Hid (oOk l = false ∧ oN l = 0) := over_none (by rw [HZ.out]; intro s h1 h2; exact HX.out s h1 (by omega))
        go_wp2_with fail
        go_ret2
        exact ⟨ret_two HR.out.2.symm HR.out.1.symm, B.out⟩

set_option maxHeartbeats 4000000 in
theorem dfits_any (v : Value) (l : List Sec) (w : World) (hv : Secs w v l) (hl : l.length ≤ 1000000) :
    Calls Tryz.prog 7 #[v] w fun e w' => e = .returned (.bool (fitB l)) ∧ Below w.heap.size w w' := by
  have HV : Hid (Secs w v l) := hv
  obtain ⟨a, cap, rfl⟩ := hv.form
  clear hv
  have HF : Hid (fitB l = (tOk l && !oOk l)) := rfl
  cases h : tOk l
  · have HO : Hid (tOk l = false) := h
    clear h
    go_enter Tryz.func7, Tryz.ntmps7
    go_wp2_with (go_at_call 9; refine (btime_any _ l _ HV.out hl).mono ?_; rintro e w1 ⟨rfl, g1⟩; rw [HO.out]; have G1 : Hid (Below w.heap.size w w1) := g1; clear g1)
    go_ret
    exact ⟨ret_bool (by rw [HF.out, HO.out]; rfl), G1.out⟩
  · have HO : Hid (tOk l = true) := h
    clear h
    cases h2 : oOk l
    all_goals
      have HO2 : Hid (oOk l = _) := h2
      clear h2
      go_enter Tryz.func7, Tryz.ntmps7
      go_wp2_with (first | (go_at_call 9; refine (btime_any _ l _ HV.out hl).mono ?_; rintro e w1 ⟨rfl, g1⟩; rw [HO.out]; have G1 : Hid (Below w.heap.size w w1) := g1; clear g1) | (go_at_call 15; refine (dfirst_any _ l _ (HV.out.below G1.out) hl).mono ?_; rintro e w2 ⟨rfl, g2⟩; rw [HO2.out]; have G2 : Hid (Below w.heap.size w w2) := btrans G1.out g2; clear g2))
      go_ret
      exact ⟨ret_bool (by rw [HF.out, HO.out, HO2.out]; rfl), G2.out⟩
end Go.Proofs.YtcgmbfpmcldfdaaGreatDoor
