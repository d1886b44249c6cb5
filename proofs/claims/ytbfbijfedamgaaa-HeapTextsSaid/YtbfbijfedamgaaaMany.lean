/- Many things in memory, no two of which share a block. -/
import Derived.Test.YtbfbijfedamgaaaOwn
namespace Go.Proofs.Ytbfbijfedamgaaa
open Go.RowKit

/-- Thing number i is P i, its blocks are F i. -/
structure Many (W : World) (F : Nat → List Nat) (P : Nat → World → Prop) (w : World) : Prop where
  bel : Below W.heap.size W w
  low : ∀ i, ∀ k ∈ F i, W.heap.size ≤ k
  holds : ∀ i, P i w
  lt : ∀ i, ∀ k ∈ F i, k < w.heap.size
  dis : ∀ i j, i ≠ j → ∀ k ∈ F i, k ∉ F j
  stable : ∀ i w w' S, P i w → Only S w w' → (∀ k ∈ F i, k ∉ S) → P i w'

def updF (F : Nat → List Nat) (i : Nat) (f : List Nat) : Nat → List Nat := fun j => if j = i then f else F j
def updP (P : Nat → World → Prop) (i : Nat) (p : World → Prop) : Nat → World → Prop := fun j => if j = i then p else P j

theorem Many.start (w : World) : Many w (fun _ => []) (fun _ _ => True) w := ⟨Below.refl _ _, fun _ _ h => by simp at h, fun _ => trivial, fun _ _ h => by simp at h, fun _ _ _ _ h => by simp at h, fun _ _ _ _ _ _ _ => trivial⟩
/-- Thing number i has turned; its blocks are old ones of its own, or new. -/
theorem Many.turn {F : Nat → List Nat} {P : Nat → World → Prop} {W w w' : World} (m : Many W F P w) (i : Nat) {f : List Nat} {p : World → Prop} (o : Only (F i) w w') (hp : p w') (lt : ∀ k ∈ f, k < w'.heap.size) (new : ∀ k ∈ f, k ∈ F i ∨ w.heap.size ≤ k)
    (st : ∀ w w' S, p w → Only S w w' → (∀ k ∈ f, k ∉ S) → p w') : Many W (updF F i f) (updP P i p) w' := by
  refine ⟨m.bel.trans (o.below m.bel.size (m.low i)), fun j k hk => ?_, fun j => ?_, fun j k hk => ?_, fun j l hne k hk hl => ?_, fun j => ?_⟩
  · unfold updF at hk
    split at hk
    · rcases new k hk with q | q
      · exact m.low i k q
      · exact Nat.le_trans m.bel.size q
    · exact m.low j k hk
  · unfold updP
    split
    · exact hp
    · rename_i h
      exact m.stable j w w' _ (m.holds j) o (fun k hk => m.dis j i h k hk)
  · unfold updF at hk
    split at hk
    · exact lt k hk
    · exact Nat.lt_of_lt_of_le (m.lt j k hk) o.size
  · unfold updF at hk hl
    split at hk
    · split at hl
      · omega
      · rename_i h1 h2
        rcases new k hk with q | q
        · exact m.dis i l (fun e => h2 e.symm) k q hl
        · have := m.lt l k hl; omega
    · split at hl
      · rename_i h1 h2
        rcases new k hl with q | q
        · exact m.dis j i h1 k hk q
        · have := m.lt j k hk; omega
      · exact m.dis j l hne k hk hl
  · unfold updP updF
    split
    · exact st
    · exact m.stable j
theorem Many.below {F : Nat → List Nat} {P : Nat → World → Prop} {W w w' : World} (m : Many W F P w) (g : Below w.heap.size w w') : Many W F P w' :=
  ⟨m.bel.trans (g.mono m.bel.size), m.low, fun j => m.stable j w w' [] (m.holds j) (Below.only g []) (by simp), fun j k hk => Nat.lt_of_lt_of_le (m.lt j k hk) g.size, m.dis, m.stable⟩
/-- A new thing. -/
theorem Many.add {F : Nat → List Nat} {P : Nat → World → Prop} {W w w' : World} (m : Many W F P w) (i : Nat) {f : List Nat} {p : World → Prop} (g : Below w.heap.size w w') (hp : p w') (lt : ∀ k ∈ f, k < w'.heap.size) (new : ∀ k ∈ f, w.heap.size ≤ k)
    (st : ∀ w w' S, p w → Only S w w' → (∀ k ∈ f, k ∉ S) → p w') : Many W (updF F i f) (updP P i p) w' :=
  m.turn i (Below.only g _) hp lt (fun k hk => .inr (new k hk)) st
end Go.Proofs.Ytbfbijfedamgaaa
