/- A few things in memory, told by a list: each with its blocks. -/
import Derived.Test.YtbfbijfedamgaaaMany2
namespace Go.Proofs.Ytbfbijfedamgaaa
open Go.RowKit

abbrev Thing := List Nat × (World → Prop)
def nothing : Thing := ([], fun _ => True)
/-- The things of l are there, no two on one block, all of them made since W. -/
def Few (W : World) (l : List Thing) (w : World) : Prop := Many W (fun i => (l.getD i nothing).1) (fun i => (l.getD i nothing).2) w

/-- That p stays as long as none of the blocks f turns. -/
def Stays (f : List Nat) (p : World → Prop) : Prop := ∀ w w' S, p w → Only S w w' → (∀ k ∈ f, k ∉ S) → p w'

theorem updF_few {l : List Thing} {i : Nat} {f : List Nat} {p : World → Prop} (hi : i < l.length) : updF (fun i => (l.getD i nothing).1) i f = fun j => ((l.set i (f, p)).getD j nothing).1 := by
  funext j
  unfold updF
  split
  · rename_i e; subst e; simp [List.getD, hi]
  · rename_i e; simp [List.getD, List.getElem?_set_ne (Ne.symm e)]
theorem updP_few {l : List Thing} {i : Nat} {f : List Nat} {p : World → Prop} (hi : i < l.length) : updP (fun i => (l.getD i nothing).2) i p = fun j => ((l.set i (f, p)).getD j nothing).2 := by
  funext j
  unfold updP
  split
  · rename_i e; subst e; simp [List.getD, hi]
  · rename_i e; simp [List.getD, List.getElem?_set_ne (Ne.symm e)]
theorem updF_more {l : List Thing} {f : List Nat} {p : World → Prop} : updF (fun i => (l.getD i nothing).1) l.length f = fun j => ((l ++ [(f, p)]).getD j nothing).1 := by
  funext j
  unfold updF
  split
  · rename_i e; subst e; simp [List.getD]
  · rename_i e
    rcases Nat.lt_or_ge j l.length with h | h
    · simp [List.getD, List.getElem?_append_left h]
    · have h2 : (l ++ [(f, p)])[j]? = none := List.getElem?_eq_none (by simp; omega)
      simp [List.getD, List.getElem?_eq_none h, h2]
theorem updP_more {l : List Thing} {f : List Nat} {p : World → Prop} : updP (fun i => (l.getD i nothing).2) l.length p = fun j => ((l ++ [(f, p)]).getD j nothing).2 := by
  funext j
  unfold updP
  split
  · rename_i e; subst e; simp [List.getD]
  · rename_i e
    rcases Nat.lt_or_ge j l.length with h | h
    · simp [List.getD, List.getElem?_append_left h]
    · have h2 : (l ++ [(f, p)])[j]? = none := List.getElem?_eq_none (by simp; omega)
      simp [List.getD, List.getElem?_eq_none h, h2]

variable {W w w' : World} {l : List Thing} {f : List Nat} {p : World → Prop}
theorem Few.start (w : World) : Few w [] w := by
  have := Many.start w
  exact this
theorem Few.below (m : Few W l w) (g : Below w.heap.size w w') : Few W l w' := Many.below m g
theorem Few.turn (m : Few W l w) (i : Nat) (hi : i < l.length) (o : Only (l.getD i nothing).1 w w') (hp : p w') (lt : ∀ k ∈ f, k < w'.heap.size) (new : ∀ k ∈ f, k ∈ (l.getD i nothing).1 ∨ w.heap.size ≤ k) (st : Stays f p) : Few W (l.set i (f, p)) w' := by
  have := Many.turn m i (f := f) (p := p) o hp lt new st
  rw [updF_few (p := p) hi, updP_few (f := f) hi] at this
  exact this
theorem Few.add (m : Few W l w) (g : Below w.heap.size w w') (hp : p w') (lt : ∀ k ∈ f, k < w'.heap.size) (new : ∀ k ∈ f, w.heap.size ≤ k) (st : Stays f p) : Few W (l ++ [(f, p)]) w' := by
  have := Many.add m l.length (f := f) (p := p) g hp lt new st
  rw [updF_more (p := p), updP_more (f := f)] at this
  exact this
/-- Thing i has turned within its own blocks, and there is one more. -/
theorem Few.both {f2 : List Nat} {q : World → Prop} (m : Few W l w) (i : Nat) (hi : i < l.length) (o : Only (l.getD i nothing).1 w w') (hp : p w') (old : ∀ k ∈ f, k ∈ (l.getD i nothing).1) (st : Stays f p) (hq : q w') (new : ∀ k ∈ f2, w.heap.size ≤ k ∧ k < w'.heap.size) (st2 : Stays f2 q) : Few W (l.set i (f, p) ++ [(f2, q)]) w' := by
  have := Many.both m i l.length (f := f) (p := p) (f2 := f2) (q := q) o hp old st hq new st2
  rw [updF_few (p := p) hi, updP_few (f := f) hi, show l.length = (l.set i (f, p)).length by simp, updF_more (p := q), updP_more (f := f2)] at this
  exact this
/-- The last one is let go. -/
theorem Few.less (m : Few W (l ++ [(f, p)]) w) : Few W l w := by
  have key : ∀ j, (l.getD j nothing).1 = ((l ++ [(f, p)]).getD j nothing).1 ∧ (l.getD j nothing).2 = ((l ++ [(f, p)]).getD j nothing).2 ∨ (l.getD j nothing) = nothing := by
    intro j
    rcases Nat.lt_or_ge j l.length with h | h
    · exact .inl (by simp [List.getD, List.getElem?_append_left h])
    · exact .inr (by simp [List.getD, List.getElem?_eq_none h])
  refine ⟨m.bel, fun j k hk => ?_, fun j => ?_, fun j k hk => ?_, fun i j hne k hk hl => ?_, fun j => ?_⟩
  · rcases key j with ⟨e, _⟩ | e
    · exact m.low j k (e ▸ hk)
    · simp only [e] at hk; simp [nothing] at hk
  · rcases key j with ⟨_, e⟩ | e
    · show (l.getD j nothing).2 w
      rw [e]; exact m.holds j
    · show (l.getD j nothing).2 w
      rw [e]; trivial
  · rcases key j with ⟨e, _⟩ | e
    · exact m.lt j k (e ▸ hk)
    · simp only [e] at hk; simp [nothing] at hk
  · rcases key i with ⟨e, _⟩ | e
    · rcases key j with ⟨e2, _⟩ | e2
      · exact m.dis i j hne k (e ▸ hk) (e2 ▸ hl)
      · simp only [e2] at hl; simp [nothing] at hl
    · simp only [e] at hk; simp [nothing] at hk
  · rcases key j with ⟨e, e'⟩ | e
    · have := m.stable j
      simp only [e, e']
      exact this
    · simp only [e]
      exact fun _ _ _ _ _ _ => trivial
end Go.Proofs.Ytbfbijfedamgaaa
