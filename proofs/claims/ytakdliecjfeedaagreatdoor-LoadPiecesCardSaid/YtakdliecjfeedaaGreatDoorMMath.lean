/- Plain mathematics of what is the most that fits. -/
import Derived.Test.YtakdliecjfeedaaGreatDoorBMath2
namespace Go.Proofs.YtakdliecjfeedaaGreatDoor
open Go Go.RowKit

theorem most_no {l : List Sec} {d t top : Int} (h : mayFit l d t = false) : mostV l d t top = 0 := by unfold mostV; rw [h]; rfl
theorem tight_no {l : List Sec} {t top : Int} (h : mayFit l 1 t = false) : tightV l t top = 0 := by unfold tightV; rw [h]; rfl
theorem most_low {l : List Sec} {d t top : Int} (h : min top d < 1) : mostV l d t top = 0 := by
  unfold mostV
  split
  · rw [show (min top d).toNat = 0 by omega]; rfl
  · rfl
theorem tight_low {l : List Sec} {t top : Int} (h : min top t < 1) : tightV l t top = 0 := by
  unfold tightV
  split
  · rw [show (min top t).toNat = 0 by omega]; rfl
  · rfl
theorem may_no {l : List Sec} {d t : Int} (h : 23 < l.length ∨ d < 1 ∨ t < d ∨ 200 < t) : mayFit l d t = false := by
  unfold mayFit
  rw [← Bool.not_eq_true]
  simp only [Bool.and_eq_true, decide_eq_true_eq]
  omega
theorem may_yes {l : List Sec} {d t : Int} (h : l.length ≤ 23) (h1 : 1 ≤ d) (h2 : d ≤ t) (h3 : t ≤ 200) : mayFit l d t = true := by
  unfold mayFit
  simp only [Bool.and_eq_true, decide_eq_true_eq]
  omega
theorem most_is {l : List Sec} {d t top : Int} {m : Nat} (h : mayFit l d t = true) (hm : min top d = m) : mostV l d t top = (grN (pFit l d t) m : Nat) := by
  unfold mostV
  rw [h, hm]; rfl
theorem tight_is {l : List Sec} {t top : Int} {m : Nat} (h : mayFit l 1 t = true) (hm : min top t = m) : tightV l t top = (grN (pTight l t) m : Nat) := by
  unfold tightV
  rw [h, hm]; rfl
end Go.Proofs.YtakdliecjfeedaaGreatDoor
