/- The contracts of busy.Asked and busy.Time. -/
import Derived.Test.YtcgmbfpmcldfdaaGreatDoorBusy
namespace Go.Proofs.YtcgmbfpmcldfdaaGreatDoor
open Go Go.RowKit

def askV (l : List Sec) (t : Int) : Int := if ldsB l = true ∧ 0 ≤ t ∧ t ≤ 20000 then askL l t else 0
theorem askV_bad {l : List Sec} {t : Int} (h : ldsB l = false) : askV l t = 0 := by unfold askV; rw [h]; simp
theorem askV_low {l : List Sec} {t : Int} (h : t < 0) : askV l t = 0 := by unfold askV; rw [if_neg (by omega)]
theorem askV_high {l : List Sec} {t : Int} (h : 20000 < t) : askV l t = 0 := by unfold askV; rw [if_neg (by omega)]
theorem askV_is {l : List Sec} {t : Int} (h : ldsB l = true) (h0 : 0 ≤ t) (h1 : t ≤ 20000) : askV l t = askL l t := by unfold askV; rw [if_pos ⟨h, h0, h1⟩]
theorem ret_two {a b : Int} {c d : Bool} (h : a = b) (g : c = d) : Ending.returned (.tuple #[.int .i64 a, .bool c]) = .returned (.tuple #[.int .i64 b, .bool d]) := by rw [h, g]

set_option maxHeartbeats 4000000 in
theorem basked_any (v : Value) (l : List Sec) (t : Int) (w : World) (hv : Secs w v l) (hl : l.length ≤ 1000000) :
    Calls Tryz.prog 11 #[v, .int .i64 t] w fun e w' => e = .returned (.int .i64 (askV l t)) ∧ Below w.heap.size w w' := by
  have HV : Hid (Secs w v l) := hv
  obtain ⟨a, cap, rfl⟩ := hv.form
  clear hv
  cases h : ldsB l
  · have HR : Hid (askV l t = 0) := askV_bad h
    go_enter Tryz.func11, Tryz.ntmps11
    go_wp2_with (go_at_call 17; refine (maybe_any _ l _ HV.out hl).mono ?_; rintro e w1 ⟨rfl, g1⟩; have G1 : Hid (Below w.heap.size w w1) := g1; clear g1)
    go_ret
    exact ⟨ret_int HR.out.symm, G1.out⟩
  · by_cases h0 : t < 0
    · have HR : Hid (askV l t = 0) := askV_low h0
      go_enter Tryz.func11, Tryz.ntmps11
      go_wp2_with (go_at_call 17; refine (maybe_any _ l _ HV.out hl).mono ?_; rintro e w1 ⟨rfl, g1⟩; have G1 : Hid (Below w.heap.size w w1) := g1; clear g1)
      go_ret
      exact ⟨ret_int HR.out.symm, G1.out⟩
    · by_cases h1 : 20000 < t
      · have HR : Hid (askV l t = 0) := askV_high h1
        go_enter Tryz.func11, Tryz.ntmps11
        go_wp2_with (go_at_call 17; refine (maybe_any _ l _ HV.out hl).mono ?_; rintro e w1 ⟨rfl, g1⟩; have G1 : Hid (Below w.heap.size w w1) := g1; clear g1)
        go_ret
        exact ⟨ret_int HR.out.symm, G1.out⟩
      · have HR : Hid (askV l t = askL l t) := askV_is h (by omega) (by omega)
        have HL : Hid (ldsB l = true) := h
        go_enter Tryz.func11, Tryz.ntmps11
        go_wp2_with (first | (go_at_call 17; refine (maybe_any _ l _ HV.out hl).mono ?_; rintro e w1 ⟨rfl, g1⟩; have G1 : Hid (Below w.heap.size w w1) := g1; clear g1) | (go_at_call 18; refine (asked_any _ l _ _ (HV.out.below G1.out) (ldsB_len HL.out) (ldsB_all HL.out) (by omega) (by omega)).mono ?_; rintro e w2 ⟨rfl, g2⟩; have G2 : Hid (Below w.heap.size w w2) := btrans G1.out g2; clear g2))
        go_ret
        exact ⟨ret_int HR.out.symm, G2.out⟩

theorem Up.cap {l : List Sec} {t : Int} (h : Up l t) (ht : 20001 ≤ t) : Up l 20001 := fun s h1 h2 => h s h1 (by omega)
set_option maxHeartbeats 4000000 in
theorem btime_any (v : Value) (l : List Sec) (w : World) (hv : Secs w v l) (hl : l.length ≤ 1000000) :
    Calls Tryz.prog 9 #[v] w fun e w' => e = .returned (.tuple #[.int .i64 (tN l), .bool (tOk l)]) ∧ Below w.heap.size w w' := by
  have HV : Hid (Secs w v l) := hv
  obtain ⟨a, cap, rfl⟩ := hv.form
  obtain ⟨n, hn⟩ : ∃ n, n = l.length := ⟨_, rfl⟩
  clear hv
  rw [← hn] at HV ⊢
  have HN : Hid (n = l.length) := hn
  have n6 : n ≤ 1000000 := by omega
  clear hn
  cases h : ldsB l
  · have HR : Hid (tOk l = false ∧ tN l = 0) := time_bad h
    go_enter Tryz.func9, Tryz.ntmps9
    go_wp2_with (go_at_call 17; refine (maybe_any _ l _ HV.out hl).mono ?_; rintro e w1 ⟨rfl, g1⟩; have G1 : Hid (Below w.heap.size w w1) := g1; clear g1)
    go_ret2
    exact ⟨ret_two HR.out.2.symm HR.out.1.symm, G1.out⟩
  · by_cases hz : n = 0
    · subst hz
      have HR : Hid (tOk l = true ∧ tN l = 0) := by
        have := List.length_eq_zero_iff.1 HN.out.symm
        rw [this]; exact time_nil
      go_enter Tryz.func9, Tryz.ntmps9
      go_wp2_with (go_at_call 17; refine (maybe_any _ l _ HV.out hl).mono ?_; rintro e w1 ⟨rfl, g1⟩; have G1 : Hid (Below w.heap.size w w1) := g1; clear g1)
      go_ret2
      exact ⟨ret_two HR.out.2.symm HR.out.1.symm, G1.out⟩
    · have HL : Hid (ldsB l = true) := h
      have HE : Hid (l ≠ []) := by rintro rfl; exact hz HN.out
      have hz' : ((n : Int) == 0) = false := by simp; omega
      clear hz
      go_enter Tryz.func9, Tryz.ntmps9
      go_wp2_with (go_at_call 17; refine (maybe_any _ l _ HV.out hl).mono ?_; rintro e w1 ⟨rfl, g1⟩; have G1 : Hid (Below w.heap.size w w1) := g1; clear g1)
      go_loopw [4] (fun x wr => ∃ t : Int, 1 ≤ t ∧ t ≤ 9600000000 ∧ x = .int .i64 t ∧ Hid (Up l t) ∧ Below w.heap.size w wr) (fun x _ => (20001 - intOf x).toNat)
      case atStart => exact ⟨1, by omega, by omega, rfl, Up.one _, G1.out⟩
      case round =>
        obtain ⟨t, t1, t2, rfl, HU, hB⟩ := hrel
        have B : Hid (Below w.heap.size w wr) := hB
        clear hB
        by_cases ht : t ≤ 20000
        · obtain ⟨q, hq⟩ : ∃ q, askL l t = q := ⟨_, rfl⟩
          have HQ : Hid (askL l t = q) := hq
          have q2 : q ≤ 9600000000 := by
            rw [← hq]
            have := ask_bd (ldsB_all HL.out) (t := t) (by omega) ht
            have := ldsB_len HL.out
            omega
          by_cases e : q = t
          · subst e
            have HR : Hid (tOk l = true ∧ tN l = q) := time_found HL.out HE.out (by omega) ht hq HU.out
            clear hq
            go_wp2_with (go_at_call 18; refine (asked_any _ l _ _ (HV.out.below B.out) (ldsB_len HL.out) (ldsB_all HL.out) (by omega) (by omega)).mono ?_; rintro e w2 ⟨rfl, g2⟩; rw [HQ.out]; have G2 : Hid (Below w.heap.size w w2) := btrans B.out g2; clear g2)
            go_ret2
            exact ⟨ret_two HR.out.2.symm HR.out.1.symm, G2.out⟩
          · have HX : Hid (t < q ∧ Up l q) := by
              have := HU.out.next HL.out HE.out t1 (by rw [hq]; exact e)
              rw [hq] at this; exact this
            clear hq
            have q1 := HX.out.1
            go_wp2_with (go_at_call 18; refine (asked_any _ l _ _ (HV.out.below B.out) (ldsB_len HL.out) (ldsB_all HL.out) (by omega) (by omega)).mono ?_; rintro e w2 ⟨rfl, g2⟩; rw [HQ.out]; have G2 : Hid (Below w.heap.size w w2) := btrans B.out g2; clear g2)
            go_round
            case rel => exact ⟨q, by omega, by omega, rfl, HX.out.2, G2.out⟩
            case measure => simp [intOf]; omega
        · have HR : Hid (tOk l = false ∧ tN l = 0) := time_lost HL.out HE.out (HU.out.cap (by omega))
          go_wp2_with fail
          go_ret2
          exact ⟨ret_two HR.out.2.symm HR.out.1.symm, B.out⟩
end Go.Proofs.YtcgmbfpmcldfdaaGreatDoor
