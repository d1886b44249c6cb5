/- Texts in blocks of their own, as the things of a ring. -/
import Derived.Test.YtbfbijfedamgaaaRingMoreR
import Derived.Test.YtbfbijfedamgaaaStrArgs
import Derived.BigQuiet
import Derived.Deep.CutBlock
namespace Go.Proofs.Ytbfbijfedamgaaa
open Go.RowKit
/-- Each block holds its text. -/
def Texts (ps : List (Nat × ByteArray)) (w : World) : Prop := ∀ p ∈ ps, w.heap[p.1]? = some (.cells #[.string p.2] 9 (0, 0))
theorem Texts.nil (w : World) : Texts [] w := fun p hp => by simp at hp
theorem Texts.keeps {ps : List (Nat × ByteArray)} : Stays (ps.map (·.1)) (Texts ps) := by
  intro w w' S h g hS p hp
  have e := h p hp
  rw [g.block p.1 (Array.getElem?_eq_some_iff.1 e).1 (hS p.1 (List.mem_map.2 ⟨p, hp, rfl⟩))]
  exact e
theorem Texts.cell {ps : List (Nat × ByteArray)} {w : World} (h : Texts ps w) {j : Nat} {p : Nat × ByteArray} (hp : ps[j]? = some p) : w.cell? ⟨p.1, 0, none⟩ = some (.string p.2) := by
  simp [World.cell?, h p (List.mem_of_getElem? hp)]
theorem few_text {W w : World} {ps : List (Nat × ByteArray)} {fs : List Thing} (m : Few W fs w) (i : Nat) (hi : fs[i]? = some (ps.map (·.1), Texts ps)) (s : ByteArray) : Few W (fs.set i ((ps ++ [(w.heap.size, s)]).map (·.1), Texts (ps ++ [(w.heap.size, s)]))) (w.alloc (.cells #[.string s] 9)) := by
  have e : (fs.getD i nothing).1 = ps.map (·.1) := by simp [List.getD, hi]
  have hh : Texts ps w := by have := m.holds i; simp only [List.getD, hi] at this; exact this
  have lt := m.lt i
  simp only [e] at lt
  refine m.turn i (List.getElem?_eq_some_iff.1 hi).1 ((Only.refl _ w).alloc _) ?_ ?_ ?_ Texts.keeps
  · intro p hp
    rcases List.mem_append.1 hp with hp | hp
    · rw [Below.heap_alloc _ _ _ (lt p.1 (List.mem_map.2 ⟨p, hp, rfl⟩))]
      exact hh p hp
    · simp at hp; subst hp; exact heap_alloc_new _ _
  · intro k hk
    simp only [List.map_append, List.mem_append, List.map_cons, List.map_nil, List.mem_singleton] at hk
    rcases hk with hk | rfl
    · have := lt k hk; simp; omega
    · simp
  · rw [e]
    intro k hk
    simp only [List.map_append, List.mem_append, List.map_cons, List.map_nil, List.mem_singleton] at hk
    rcases hk with hk | rfl
    · exact .inl hk
    · exact .inr (Nat.le_refl _)
/-- The things so far are the first ones that came in. -/
def Firsts (zs : List ByteArray) (ps : List (Nat × ByteArray)) : Prop := ∀ (j : Nat) (p : Nat × ByteArray), ps[j]? = some p → zs[j]? = some p.2
theorem Firsts.snoc {zs : List ByteArray} {ps : List (Nat × ByteArray)} (h : Firsts zs ps) {b : Nat} {s : ByteArray} (hs : zs[ps.length]? = some s) : Firsts zs (ps ++ [(b, s)]) := by
  intro j p hp
  rcases Nat.lt_or_ge j ps.length with hj | hj
  · rw [List.getElem?_append_left hj] at hp; exact h j p hp
  · rw [List.getElem?_append_right hj] at hp
    have : j = ps.length := by
      have := (List.getElem?_eq_some_iff.1 hp).1
      simp at this
      omega
    subst this
    simp at hp
    subst hp
    exact hs
end Go.Proofs.Ytbfbijfedamgaaa
