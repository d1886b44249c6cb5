/- Plain mathematics for the laws themselves. -/
import Derived.Test.YtcgmbfpmcldfdaaGreatDoorBMath4
namespace Go.Proofs.YtcgmbfpmcldfdaaGreatDoor
open Go Go.RowKit
-- BODY

theorem lds_one {c t : Int} (h0 : 1 ≤ c) (h1 : c ≤ 20000) (h2 : 1 ≤ t) (h3 : t ≤ 200) : ldsB [⟨c, t, t⟩] = true :=
  ldsB_mk (by simp) (fun s hs => by simp at hs; subst hs; exact ldB_iff.2 ⟨by simp only; omega, by simp only; omega, by simp only; omega⟩)
theorem one_busy {c t : Int} (h0 : 1 ≤ c) (h1 : c ≤ 20000) (h2 : 1 ≤ t) (h3 : t ≤ 200) (h : c ≤ t) : tOk [⟨c, t, t⟩] = true ∧ tN [⟨c, t, t⟩] = c := by
  have := one_time (lds_one h0 h1 h2 h3) (by simp) (T := t) (fun s hs => by simp at hs; subst hs; rfl) (by simp only [sumC]; omega)
  simpa [sumC] using this
theorem one_lost {c t : Int} (h0 : 1 ≤ c) (h1 : c ≤ 20000) (h2 : 1 ≤ t) (h3 : t ≤ 200) (h : t < c) : tOk [⟨c, t, t⟩] = false ∧ tN [⟨c, t, t⟩] = 0 :=
  one_never (lds_one h0 h1 h2 h3) (by simp) (T := t) (fun s hs => by simp at hs; subst hs; rfl) (by simp only [sumC]; omega)
theorem sumC_all {l : List Sec} (h : ∀ s ∈ l, ldB s = true) : 0 ≤ sumC l ∧ sumC l ≤ 20000 * l.length := by
  induction l with
  | nil => simp [sumC]
  | cons x r ih =>
    have hx := ldB_iff.1 (h x (by simp))
    have := ih (fun y hy => h y (by simp [hy]))
    simp only [sumC, List.length_cons]; omega
theorem sumC_bd {l : List Sec} (h : ∀ s ∈ l, ldB s = true) (k : Nat) {n : Nat} (hn : l.length = n) (h10 : n ≤ 10) : 0 ≤ sumC (l.take k) ∧ sumC (l.take k) ≤ 200000 := by
  have a := sumC_all (l := l.take k) (fun s hs => h s (List.mem_of_mem_take hs))
  have b : (l.take k).length ≤ l.length := by rw [List.length_take]; omega
  omega
-- END
end Go.Proofs.YtcgmbfpmcldfdaaGreatDoor
