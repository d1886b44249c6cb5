/- Loads that ask for all of a core. -/
import Derived.Test.YtpbjodbcmaaheaaGreatDoorApp93
namespace Go.Proofs.YtpbjodbcmaaheaaGreatDoor
open Go Go.RowKit

/-- Loads of one distance, each within it, so many that left is left of it. -/
structure Full (ls : List Sec) (t left : Int) (k : Nat) : Prop where
  len : ls.length = k
  all : ∀ s ∈ ls, s.len = t ∧ s.pos = t ∧ 1 ≤ s.res ∧ s.res ≤ 100
  sum : sumC ls = t - left
theorem Full.nil (t : Int) : Full [] t t 0 := ⟨rfl, fun s hs => by simp at hs, by simp [sumC]⟩
theorem Full.snoc {ls : List Sec} {t left c : Int} {k : Nat} (h : Full ls t left k) (h1 : 1 ≤ c) (h2 : c ≤ 100) : Full (ls ++ [⟨c, t, t⟩]) t (left - c) (k + 1) := by
  refine ⟨by rw [List.length_append, h.len]; rfl, fun s hs => ?_, ?_⟩
  · rcases List.mem_append.1 hs with hs | hs
    · exact h.all s hs
    · simp at hs; subst hs; exact ⟨rfl, rfl, h1, h2⟩
  · rw [sumC_append, h.sum]; simp [sumC]; omega
theorem Full.lds {ls : List Sec} {t left : Int} {k : Nat} (h : Full ls t left k) (hk : k ≤ 24) (h1 : 1 ≤ t) (h2 : t ≤ 100) : ldsB ls = true :=
  ldsB_mk (by rw [h.len]; exact hk) (fun s hs => by obtain ⟨a, b, c, d⟩ := h.all s hs; exact ldB_iff.2 ⟨by omega, by omega, by omega⟩)
theorem Full.fits {ls : List Sec} {t : Int} {k : Nat} (h : Full ls t 0 k) (hk : k ≤ 10) (h1 : 2 ≤ t) (h2 : t ≤ 66) : fitB ls = true ∧ tOk ls = true ∧ tN ls = t ∧ dueV ls t = t := by
  have hl := h.lds (by omega) (by omega) (by omega)
  have hne : ls ≠ [] := by rintro rfl; have := h.sum; simp [sumC] at this; omega
  obtain ⟨a, b, c, d⟩ := full_fit hl hne (fun s hs => ⟨(h.all s hs).1, (h.all s hs).2.1⟩) (by have := h.sum; omega)
  exact ⟨a, b, c, by rw [dueV_is hl (by omega) (by omega)]; exact d⟩
theorem Full.over {ls : List Sec} {t : Int} {k : Nat} (h : Full ls t 0 k) (hk : k ≤ 10) (h1 : 2 ≤ t) (h2 : t ≤ 66) : fitB (ls ++ [⟨1, t, t⟩]) = false := by
  have g := h.snoc (c := 1) (by omega) (by omega)
  exact full_over (g.lds (by omega) (by omega) (by omega)) (fun s hs => (g.all s hs).1) (by simp) (by have := g.sum; omega)
theorem Cop9.ofOwn {w : World} {B n cap : Nat} {a : Option Addr} {l : List Sec} (h : OwnL w B (.slice a n cap) l) (hn : l.length = n) : Cop9 w B a n cap l := by
  obtain ⟨a', cap', e, k⟩ := Cop9.of h
  simp only [Value.slice.injEq] at e
  obtain ⟨rfl, rfl, rfl⟩ := e
  exact k
end Go.Proofs.YtpbjodbcmaaheaaGreatDoor
