/- Many things in memory: one turns, and leaves another that is new. -/
import Derived.Test.YtbfbijfedamgaaaMany
namespace Go.Proofs.Ytbfbijfedamgaaa
open Go.RowKit
/-- Thing number j is laid down anew, on blocks that are no other's. -/
theorem Many.lay {F : Nat → List Nat} {P : Nat → World → Prop} {W w : World} (m : Many W F P w) (j : Nat) {f : List Nat} {p : World → Prop} (hp : p w) (low : ∀ k ∈ f, W.heap.size ≤ k) (lt : ∀ k ∈ f, k < w.heap.size) (dis : ∀ i, i ≠ j → ∀ k ∈ F i, k ∉ f)
    (st : ∀ w w' S, p w → Only S w w' → (∀ k ∈ f, k ∉ S) → p w') : Many W (updF F j f) (updP P j p) w := by
  refine ⟨m.bel, fun i k hk => ?_, fun i => ?_, fun i k hk => ?_, fun i l hne k hk hl => ?_, fun i => ?_⟩
  · unfold updF at hk
    split at hk
    · exact low k hk
    · exact m.low i k hk
  · unfold updP
    split
    · exact hp
    · exact m.holds i
  · unfold updF at hk
    split at hk
    · exact lt k hk
    · exact m.lt i k hk
  · unfold updF at hk hl
    split at hk
    · split at hl
      · omega
      · rename_i h1 h2
        exact dis l h2 k hl hk
    · split at hl
      · rename_i h1 h2
        exact dis i h1 k hk hl
      · exact m.dis i l hne k hk hl
  · unfold updP updF
    split
    · exact st
    · exact m.stable i
/-- Thing number i has turned within its own blocks, and thing number j is new. -/
theorem Many.both {F : Nat → List Nat} {P : Nat → World → Prop} {W w w' : World} (m : Many W F P w) (i j : Nat) {f f2 : List Nat} {p q : World → Prop} (o : Only (F i) w w') (hp : p w') (old : ∀ k ∈ f, k ∈ F i)
    (st : ∀ w w' S, p w → Only S w w' → (∀ k ∈ f, k ∉ S) → p w') (hq : q w') (new : ∀ k ∈ f2, w.heap.size ≤ k ∧ k < w'.heap.size) (st2 : ∀ w w' S, q w → Only S w w' → (∀ k ∈ f2, k ∉ S) → q w') :
    Many W (updF (updF F i f) j f2) (updP (updP P i p) j q) w' := by
  refine (m.turn i o hp (fun k hk => Nat.lt_of_lt_of_le (m.lt i k (old k hk)) o.size) (fun k hk => .inl (old k hk)) st).lay j hq (fun k hk => Nat.le_trans m.bel.size (new k hk).1) (fun k hk => (new k hk).2) (fun l _ k hk h2 => ?_) st2
  have := (new k h2).1
  unfold updF at hk
  split at hk
  · have := m.lt i k (old k hk); omega
  · have := m.lt l k hk; omega
theorem rows_keep {base n : Nat} {e : TypeId} {v : Value} {xs : List Value} (w w' : World) (S : List Nat) (h : w.ownsRow base e 1 v n xs) (g : Only S w w') (hS : ∀ k ∈ v.ownBlock.toList, k ∉ S) : w'.ownsRow base e 1 v n xs := by
  obtain ⟨h1, h2⟩ := h
  refine ⟨h1, ?_⟩
  rcases h2 with h2 | ⟨gb, cap, cur, rfl, hb, hh, r⟩
  · exact .inl h2
  · exact .inr ⟨gb, cap, cur, rfl, hb, by rw [g.block gb (Array.getElem?_eq_some_iff.1 hh).1 (hS gb (by simp [Value.ownBlock]))]; exact hh, r⟩
end Go.Proofs.Ytbfbijfedamgaaa
