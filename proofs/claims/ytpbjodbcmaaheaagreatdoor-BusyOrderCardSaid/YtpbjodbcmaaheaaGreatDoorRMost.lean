/- The contracts of the document's own Most and Tight. -/
import Derived.Test.YtpbjodbcmaaheaaGreatDoorWith
namespace Go.Proofs.YtpbjodbcmaaheaaGreatDoor
open Go Go.RowKit

theorem with_at (v : Value) (l : List Sec) (c d t : Int) (w w0 : World) (g0 : Below w0.heap.size w0 w) (hv : Secs w0 v l) (hl : l.length ≤ 1000) :
    Calls Tryz.prog 50 #[v, .agg #[.int .i64 c, .int .i64 d, .int .i64 t]] w fun e w' => ∃ a cap, e = .returned (.slice a (l.length + 1) cap) ∧ Secs w' (.slice a (l.length + 1) cap) (l ++ [⟨c, d, t⟩]) ∧ Below w0.heap.size w0 w' := by
  refine (with_any v l c d t w (hv.below g0) hl).mono ?_
  rintro e w' ⟨u, rfl, ou, g⟩
  obtain ⟨a, cap, rfl⟩ := ou.form
  rw [show (l ++ [(⟨c, d, t⟩ : Sec)]).length = l.length + 1 by simp] at ou ⊢
  exact ⟨a, cap, rfl, ou.secs, btrans g0 g⟩
theorem rfits_at (v : Value) (l : List Sec) (w w0 : World) (g0 : Below w0.heap.size w0 w) (hv : Secs w v l) (hl : l.length ≤ 1000) {b : Bool} (hb : fitB l = b) :
    Calls Tryz.prog 49 #[v] w fun e w' => e = .returned (.bool b) ∧ Below w0.heap.size w0 w' := by
  refine (rfits_any v l w hv (by omega)).mono ?_
  rintro e w' ⟨rfl, g⟩
  exact ⟨by rw [hb], btrans g0 g⟩
theorem most_no {l : List Sec} {d t top : Int} (h : mayFit l d t = false) : mostV l d t top = 0 := by unfold mostV; rw [h]; rfl
theorem tight_no {l : List Sec} {t top : Int} (h : mayFit l 1 t = false) : tightV l t top = 0 := by unfold tightV; rw [h]; rfl
theorem most_low {l : List Sec} {d t top : Int} (h : min top d < 1) : mostV l d t top = 0 := by
  unfold mostV
  split
  · rw [show (min top d).toNat = 0 by omega]; rfl
  · rfl
theorem tight_low {l : List Sec} {t top : Int} (h : min top t < 1) : tightV l t top = 0 := by
  unfold tightV
  split
  · rw [show (min top t).toNat = 0 by omega]; rfl
  · rfl
theorem may_no {l : List Sec} {d t : Int} (h : 23 < l.length ∨ d < 1 ∨ t < d ∨ 200 < t) : mayFit l d t = false := by
  unfold mayFit
  rw [← Bool.not_eq_true]
  simp only [Bool.and_eq_true, decide_eq_true_eq]
  omega
theorem may_yes {l : List Sec} {d t : Int} (h : l.length ≤ 23) (h1 : 1 ≤ d) (h2 : d ≤ t) (h3 : t ≤ 200) : mayFit l d t = true := by
  unfold mayFit
  simp only [Bool.and_eq_true, decide_eq_true_eq]
  omega
theorem most_is {l : List Sec} {d t top : Int} {m : Nat} (h : mayFit l d t = true) (hm : min top d = m) : mostV l d t top = (grN (pFit l d t) m : Nat) := by
  unfold mostV
  rw [h, hm]; rfl
theorem tight_is {l : List Sec} {t top : Int} {m : Nat} (h : mayFit l 1 t = true) (hm : min top t = m) : tightV l t top = (grN (pTight l t) m : Nat) := by
  unfold tightV
  rw [h, hm]; rfl

set_option maxHeartbeats 8000000 in
theorem rmost_any (v : Value) (l : List Sec) (d t top : Int) (w : World) (hv : Secs w v l) (hl : l.length ≤ 1000) :
    Calls Tryz.prog 37 #[v, .int .i64 d, .int .i64 t, .int .i64 top] w fun e w' => e = .returned (.int .i64 (mostV l d t top)) ∧ Below w.heap.size w w' := by
  have HV : Hid (Secs w v l) := hv
  obtain ⟨a, cap, rfl⟩ := hv.form
  obtain ⟨n, hn⟩ : ∃ n, n = l.length := ⟨_, rfl⟩
  clear hv
  rw [← hn] at HV ⊢
  have HN : Hid (n = l.length) := hn
  have n6 : n ≤ 1000 := by omega
  clear hn
  have HLL : Hid (l.length ≤ 1000) := hl
  clear hl
  by_cases h23 : 23 < n
  · have HR : Hid (mostV l d t top = 0) := most_no (may_no (.inl (by rw [← HN.out]; exact h23)))
    go_enter Tryz.func37, Tryz.ntmps37
    go_wp2_with fail
    go_ret
    exact ⟨ret_int HR.out.symm, Below.refl _ _⟩
  cases hf : fitB l
  · have HR : Hid (mostV l d t top = 0) := most_unfit hf d t top
    have HF : Hid (fitB l = false) := hf
    clear hf
    go_enter Tryz.func37, Tryz.ntmps37
    go_wp2_with (go_at_call 49; refine (rfits_at _ l _ w (Below.refl _ _) HV.out HLL.out HF.out).mono ?_; rintro e w1 ⟨rfl, g1⟩; have G1 : Hid (Below w.heap.size w w1) := g1; clear g1)
    go_ret
    exact ⟨ret_int HR.out.symm, G1.out⟩
  have HF : Hid (fitB l = true) := hf
  clear hf
  by_cases h1 : d < 1
  · have HR : Hid (mostV l d t top = 0) := most_no (may_no (by omega))
    go_enter Tryz.func37, Tryz.ntmps37
    go_wp2_with (go_at_call 49; refine (rfits_at _ l _ w (Below.refl _ _) HV.out HLL.out HF.out).mono ?_; rintro e w1 ⟨rfl, g1⟩; have G1 : Hid (Below w.heap.size w w1) := g1; clear g1)
    go_ret
    exact ⟨ret_int HR.out.symm, G1.out⟩
  by_cases h2 : t < d
  · have HR : Hid (mostV l d t top = 0) := most_no (may_no (by omega))
    go_enter Tryz.func37, Tryz.ntmps37
    go_wp2_with (go_at_call 49; refine (rfits_at _ l _ w (Below.refl _ _) HV.out HLL.out HF.out).mono ?_; rintro e w1 ⟨rfl, g1⟩; have G1 : Hid (Below w.heap.size w w1) := g1; clear g1)
    go_ret
    exact ⟨ret_int HR.out.symm, G1.out⟩
  by_cases h3 : 200 < t
  · have HR : Hid (mostV l d t top = 0) := most_no (may_no (by omega))
    go_enter Tryz.func37, Tryz.ntmps37
    go_wp2_with (go_at_call 49; refine (rfits_at _ l _ w (Below.refl _ _) HV.out HLL.out HF.out).mono ?_; rintro e w1 ⟨rfl, g1⟩; have G1 : Hid (Below w.heap.size w w1) := g1; clear g1)
    go_ret
    exact ⟨ret_int HR.out.symm, G1.out⟩
  by_cases hm : min top d < 1
  · have HR : Hid (mostV l d t top = 0) := most_low hm
    obtain ⟨z, hz⟩ : ∃ z, min top d = z := ⟨_, rfl⟩
    have z1 : z < 1 := by omega
    clear hm
    go_enter Tryz.func37, Tryz.ntmps37
    go_wp2_with (go_at_call 49; refine (rfits_at _ l _ w (Below.refl _ _) HV.out HLL.out HF.out).mono ?_; rintro e w1 ⟨rfl, g1⟩; have G1 : Hid (Below w.heap.size w w1) := g1; clear g1)
    go_loop [9] (fun x => x = .int .i64 z) (fun _ => 0)
    case atStart => first | rfl | (rw [hz])
    case round =>
      subst hrel
      go_wp2_with fail
      go_ret
      exact ⟨ret_int HR.out.symm, G1.out⟩
  · obtain ⟨m, hz⟩ : ∃ m : Nat, min top d = m := ⟨(min top d).toNat, by omega⟩
    have m1 : 1 ≤ m := by omega
    have m2 : m ≤ 200 := by omega
    have HM : Hid (mostV l d t top = (grN (pFit l d t) m : Nat)) := most_is (may_yes (by rw [← HN.out]; omega) (by omega) (by omega) (by omega)) hz
    clear hm
    go_enter Tryz.func37, Tryz.ntmps37
    go_wp2_with (go_at_call 49; refine (rfits_at _ l _ w (Below.refl _ _) HV.out HLL.out HF.out).mono ?_; rintro e w1 ⟨rfl, g1⟩; have G1 : Hid (Below w.heap.size w w1) := g1; clear g1)
    go_loopw [9] (fun x wr => ∃ c : Nat, c ≤ m ∧ x = .int .i64 c ∧ Hid (∀ c', c < c' → c' ≤ m → pFit l d t c' = false) ∧ Below w.heap.size w wr) (fun x _ => (intOf x).toNat)
    case atStart => exact ⟨m, Nat.le_refl _, by first | rfl | rw [hz], fun c' a b => by omega, G1.out⟩
    case round =>
      obtain ⟨c, hc, rfl, HG, hB⟩ := hrel
      have B : Hid (Below w.heap.size w wr) := hB
      clear hB
      by_cases hc0 : c = 0
      · subst hc0
        have HR : Hid (mostV l d t top = 0) := by unfold Hid; rw [HM.out, gr_eq (by omega) (.inl rfl) HG.out]; rfl
        go_wp2_with fail
        go_ret
        exact ⟨ret_int HR.out.symm, B.out⟩
      · have c1 : 1 ≤ (c : Int) := by omega
        cases hp : pFit l d t c
        · have HPF : Hid (fitB (l ++ [⟨(c : Int), d, t⟩]) = false) := hp
          have HG' : Hid (∀ c', c - 1 < c' → c' ≤ m → pFit l d t c' = false) := fun c' a b => by
            by_cases e : c' = c
            · rw [e]; exact hp
            · exact HG.out c' (by omega) b
          clear hp
          go_wp2_with (first | (go_at_call 50; refine (with_at _ l _ _ _ _ w B.out HV.out HLL.out).mono ?_; rintro e w2 ⟨a2, cap2, rfl, s2, g2⟩; have S2 : Hid (Secs w2 (.slice a2 (l.length + 1) cap2) (l ++ [⟨(c : Int), d, t⟩])) := s2; have G2 : Hid (Below w.heap.size w w2) := g2; clear s2 g2) | (go_at_call 49; refine (rfits_at _ (l ++ [⟨(c : Int), d, t⟩]) _ w G2.out S2.out (by rw [List.length_append]; have := HN.out; simp; omega) HPF.out).mono ?_; rintro e w3 ⟨rfl, g3⟩; have G3 : Hid (Below w.heap.size w w3) := g3; clear g3))
          go_round
          case rel => exact ⟨c - 1, by omega, by go_num, HG'.out, G3.out⟩
          case measure => simp [intOf]; omega
        · have HPF : Hid (fitB (l ++ [⟨(c : Int), d, t⟩]) = true) := hp
          have HR : Hid (mostV l d t top = c) := by unfold Hid; rw [HM.out, gr_eq hc (.inr hp) HG.out]
          clear hp
          go_wp2_with (first | (go_at_call 50; refine (with_at _ l _ _ _ _ w B.out HV.out HLL.out).mono ?_; rintro e w2 ⟨a2, cap2, rfl, s2, g2⟩; have S2 : Hid (Secs w2 (.slice a2 (l.length + 1) cap2) (l ++ [⟨(c : Int), d, t⟩])) := s2; have G2 : Hid (Below w.heap.size w w2) := g2; clear s2 g2) | (go_at_call 49; refine (rfits_at _ (l ++ [⟨(c : Int), d, t⟩]) _ w G2.out S2.out (by rw [List.length_append]; have := HN.out; simp; omega) HPF.out).mono ?_; rintro e w3 ⟨rfl, g3⟩; have G3 : Hid (Below w.heap.size w w3) := g3; clear g3))
          go_ret
          exact ⟨ret_int HR.out.symm, G3.out⟩

set_option maxHeartbeats 8000000 in
theorem rtight_any (v : Value) (l : List Sec) (t top : Int) (w : World) (hv : Secs w v l) (hl : l.length ≤ 1000) :
    Calls Tryz.prog 39 #[v, .int .i64 t, .int .i64 top] w fun e w' => e = .returned (.int .i64 (tightV l t top)) ∧ Below w.heap.size w w' := by
  have HV : Hid (Secs w v l) := hv
  obtain ⟨a, cap, rfl⟩ := hv.form
  obtain ⟨n, hn⟩ : ∃ n, n = l.length := ⟨_, rfl⟩
  clear hv
  rw [← hn] at HV ⊢
  have HN : Hid (n = l.length) := hn
  have n6 : n ≤ 1000 := by omega
  clear hn
  have HLL : Hid (l.length ≤ 1000) := hl
  clear hl
  by_cases h23 : 23 < n
  · have HR : Hid (tightV l t top = 0) := tight_no (may_no (.inl (by rw [← HN.out]; exact h23)))
    go_enter Tryz.func39, Tryz.ntmps39
    go_wp2_with fail
    go_ret
    exact ⟨ret_int HR.out.symm, Below.refl _ _⟩
  cases hf : fitB l
  · have HR : Hid (tightV l t top = 0) := tight_unfit hf t top
    have HF : Hid (fitB l = false) := hf
    clear hf
    go_enter Tryz.func39, Tryz.ntmps39
    go_wp2_with (go_at_call 49; refine (rfits_at _ l _ w (Below.refl _ _) HV.out HLL.out HF.out).mono ?_; rintro e w1 ⟨rfl, g1⟩; have G1 : Hid (Below w.heap.size w w1) := g1; clear g1)
    go_ret
    exact ⟨ret_int HR.out.symm, G1.out⟩
  have HF : Hid (fitB l = true) := hf
  clear hf
  by_cases h1 : t < 1
  · have HR : Hid (tightV l t top = 0) := tight_no (may_no (by omega))
    go_enter Tryz.func39, Tryz.ntmps39
    go_wp2_with (go_at_call 49; refine (rfits_at _ l _ w (Below.refl _ _) HV.out HLL.out HF.out).mono ?_; rintro e w1 ⟨rfl, g1⟩; have G1 : Hid (Below w.heap.size w w1) := g1; clear g1)
    go_ret
    exact ⟨ret_int HR.out.symm, G1.out⟩
  by_cases h3 : 200 < t
  · have HR : Hid (tightV l t top = 0) := tight_no (may_no (by omega))
    go_enter Tryz.func39, Tryz.ntmps39
    go_wp2_with (go_at_call 49; refine (rfits_at _ l _ w (Below.refl _ _) HV.out HLL.out HF.out).mono ?_; rintro e w1 ⟨rfl, g1⟩; have G1 : Hid (Below w.heap.size w w1) := g1; clear g1)
    go_ret
    exact ⟨ret_int HR.out.symm, G1.out⟩
  by_cases hm : min top t < 1
  · have HR : Hid (tightV l t top = 0) := tight_low hm
    obtain ⟨z, hz⟩ : ∃ z, min top t = z := ⟨_, rfl⟩
    have z1 : z < 1 := by omega
    have z2 : ¬ (0 : Int) < z := by omega
    clear hm
    go_enter Tryz.func39, Tryz.ntmps39
    go_wp2_with (go_at_call 49; refine (rfits_at _ l _ w (Below.refl _ _) HV.out HLL.out HF.out).mono ?_; rintro e w1 ⟨rfl, g1⟩; have G1 : Hid (Below w.heap.size w w1) := g1; clear g1)
    go_loop [7] (fun x => x = .int .i64 0) (fun _ => 0)
    case atStart => rfl
    case round =>
      subst hrel
      go_wp2_with fail
      go_ret
      exact ⟨ret_int HR.out.symm, G1.out⟩
  · obtain ⟨m, hz⟩ : ∃ m : Nat, min top t = m := ⟨(min top t).toNat, by omega⟩
    have m1 : 1 ≤ m := by omega
    have m2 : m ≤ 200 := by omega
    have HM : Hid (tightV l t top = (grN (pTight l t) m : Nat)) := tight_is (may_yes (by rw [← HN.out]; omega) (by omega) (by omega) (by omega)) hz
    clear hm
    go_enter Tryz.func39, Tryz.ntmps39
    go_wp2_with (go_at_call 49; refine (rfits_at _ l _ w (Below.refl _ _) HV.out HLL.out HF.out).mono ?_; rintro e w1 ⟨rfl, g1⟩; have G1 : Hid (Below w.heap.size w w1) := g1; clear g1)
    go_loopw [7] (fun x wr => ∃ c : Nat, c ≤ m ∧ x = .int .i64 c ∧ Hid (c = 0 ∨ pTight l t c = true) ∧ Below w.heap.size w wr) (fun x _ => m - (intOf x).toNat)
    case atStart => exact ⟨0, Nat.zero_le _, rfl, .inl rfl, G1.out⟩
    case round =>
      obtain ⟨c, hc, rfl, HG, hB⟩ := hrel
      have B : Hid (Below w.heap.size w wr) := hB
      clear hB
      by_cases hc0 : c < m
      · cases hp : pTight l t (c + 1)
        · have HPF : Hid (fitB (l ++ [⟨(c : Int) + 1, (c : Int) + 1, t⟩]) = false) := hp
          have HR : Hid (tightV l t top = c) := by unfold Hid; rw [HM.out, gr_search (pTight_falls _ _) hc HG.out (.inr hp)]
          clear hp
          go_wp2_with (first | (go_at_call 50; refine (with_at _ l _ _ _ _ w B.out HV.out HLL.out).mono ?_; rintro e w2 ⟨a2, cap2, rfl, s2, g2⟩; have S2 : Hid (Secs w2 (.slice a2 (l.length + 1) cap2) (l ++ [⟨(c : Int) + 1, (c : Int) + 1, t⟩])) := s2; have G2 : Hid (Below w.heap.size w w2) := g2; clear s2 g2) | (go_at_call 49; refine (rfits_at _ (l ++ [⟨(c : Int) + 1, (c : Int) + 1, t⟩]) _ w G2.out S2.out (by rw [List.length_append]; have := HN.out; simp; omega) HPF.out).mono ?_; rintro e w3 ⟨rfl, g3⟩; have G3 : Hid (Below w.heap.size w w3) := g3; clear g3))
          go_ret
          exact ⟨ret_int HR.out.symm, G3.out⟩
        · have HPF : Hid (fitB (l ++ [⟨(c : Int) + 1, (c : Int) + 1, t⟩]) = true) := hp
          have HG' : Hid (c + 1 = 0 ∨ pTight l t (c + 1) = true) := .inr hp
          clear hp
          go_wp2_with (first | (go_at_call 50; refine (with_at _ l _ _ _ _ w B.out HV.out HLL.out).mono ?_; rintro e w2 ⟨a2, cap2, rfl, s2, g2⟩; have S2 : Hid (Secs w2 (.slice a2 (l.length + 1) cap2) (l ++ [⟨(c : Int) + 1, (c : Int) + 1, t⟩])) := s2; have G2 : Hid (Below w.heap.size w w2) := g2; clear s2 g2) | (go_at_call 49; refine (rfits_at _ (l ++ [⟨(c : Int) + 1, (c : Int) + 1, t⟩]) _ w G2.out S2.out (by rw [List.length_append]; have := HN.out; simp; omega) HPF.out).mono ?_; rintro e w3 ⟨rfl, g3⟩; have G3 : Hid (Below w.heap.size w w3) := g3; clear g3))
          go_round
          case rel => exact ⟨c + 1, by omega, by go_num, HG'.out, G3.out⟩
          case measure => simp [intOf]; omega
      · have HR : Hid (tightV l t top = c) := by unfold Hid; rw [HM.out, gr_search (pTight_falls _ _) hc HG.out (.inl (by omega))]
        go_wp2_with fail
        go_ret
        exact ⟨ret_int HR.out.symm, B.out⟩
end Go.Proofs.YtpbjodbcmaaheaaGreatDoor
