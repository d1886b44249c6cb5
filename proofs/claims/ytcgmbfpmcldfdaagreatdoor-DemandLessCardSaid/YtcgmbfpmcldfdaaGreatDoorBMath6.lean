/- Plain mathematics for the laws themselves, further. -/
import Derived.Test.YtcgmbfpmcldfdaaGreatDoorBMath5
namespace Go.Proofs.YtcgmbfpmcldfdaaGreatDoor
open Go Go.RowKit
-- BODY

theorem stepL_all {l : List Sec} (h : ∀ s ∈ l, ldB s = true) (t : Int) : 0 ≤ stepL l t ∧ stepL l t ≤ 20000 * l.length := by
  induction l with
  | nil => simp [stepL]
  | cons x r ih =>
    have hx := ldB_iff.1 (h x (by simp))
    have := ih (fun y hy => h y (by simp [hy]))
    simp only [stepL, List.length_cons]
    split <;> omega
theorem stepL_bd {l : List Sec} {t : Int} (h : ∀ s ∈ l, ldB s = true) (k : Nat) {n : Nat} (hn : l.length = n) (h10 : n ≤ 10) : 0 ≤ stepL (l.take k) t ∧ stepL (l.take k) t ≤ 200000 := by
  have a := stepL_all (l := l.take k) (fun s hs => h s (List.mem_of_mem_take hs)) t
  have b : (l.take k).length ≤ l.length := by rw [List.length_take]; omega
  omega
-- END
end Go.Proofs.YtcgmbfpmcldfdaaGreatDoor
