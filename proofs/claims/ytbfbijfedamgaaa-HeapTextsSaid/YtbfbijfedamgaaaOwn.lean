/- Memory of the program's own making: blocks of cells; what stays, what may have turned. -/
import Derived.Test.YtbfbijfedamgaaaCmp
namespace Go.Proofs.Ytbfbijfedamgaaa
open Go.RowKit

/-- A block of cells lies there. -/
def IsCells (w : World) (b : Nat) : Prop := ∃ c t, w.heap[b]? = some (.cells c t (0, 0))
theorem IsCells.lt {w : World} {b : Nat} (h : IsCells w b) : b < w.heap.size := by
  obtain ⟨c, t, h⟩ := h
  exact (Array.getElem?_eq_some_iff.1 h).1
theorem IsCells.alloc {w : World} {b : Nat} (h : IsCells w b) (o : Obj) : IsCells (w.alloc o) b := by
  have l := h.lt
  obtain ⟨c, t, h⟩ := h
  exact ⟨c, t, by rw [Below.heap_alloc _ _ _ l]; exact h⟩

/-- But for the blocks in S nothing that was there has turned. -/
structure Only (S : List Nat) (w w' : World) : Prop where
  os : w'.os = w.os
  tape : w'.tape = w.tape
  output : w'.output = w.output
  size : w.heap.size ≤ w'.heap.size
  block : ∀ k, k < w.heap.size → k ∉ S → w'.heap[k]? = w.heap[k]?
theorem Only.refl (S : List Nat) (w : World) : Only S w w := ⟨rfl, rfl, rfl, Nat.le_refl _, fun _ _ _ => rfl⟩
theorem Below.only {w w' : World} (h : Below w.heap.size w w') (S : List Nat) : Only S w w' := ⟨h.os, h.tape, h.output, h.size, fun k hk _ => h.block k hk⟩
theorem Only.trans {S T : List Nat} {a b c : World} (h : Only S a b) (k : Only T b c) (hT : ∀ x ∈ T, x ∈ S ∨ a.heap.size ≤ x) : Only S a c :=
  ⟨k.os.trans h.os, k.tape.trans h.tape, k.output.trans h.output, Nat.le_trans h.size k.size, fun i hi hs => (k.block i (Nat.lt_of_lt_of_le hi h.size) (fun m => by rcases hT i m with q | q; exact hs q; omega)).trans (h.block i hi hs)⟩
theorem Only.drew {S : List Nat} {a w : World} (h : Only S a w) : Only S a w.drew := ⟨h.os, h.tape, h.output, h.size, h.block⟩
theorem Only.setCell {S : List Nat} {a w : World} (h : Only S a w) {p : Addr} (hp : p.block ∈ S) (u : Value) : Only S a (w.setCell p u) :=
  ⟨h.os, h.tape, h.output, by simpa [World.setCell] using h.size, fun k hk hs => (Below.heap_setCell _ _ _ k (fun e => hs (by rw [e]; exact hp))).trans (h.block k hk hs)⟩
theorem Only.mono {S T : List Nat} {a b : World} (h : Only S a b) (hs : ∀ x ∈ S, x ∈ T) : Only T a b := ⟨h.os, h.tape, h.output, h.size, fun k hk ht => h.block k hk (fun m => ht (hs k m))⟩
theorem Only.grown {S : List Nat} {a w w' : World} {row : Option Nat} (h : Only S a w) (g : w.grownBy w' row) (hr : ∀ k, row = some k → k ∈ S ∨ a.heap.size ≤ k) : Only S a w' :=
  ⟨g.os.trans h.os, g.tape.trans h.tape, g.output.trans h.output, Nat.le_trans h.size g.size, fun k hk hs => (g.block k (Nat.lt_of_lt_of_le hk h.size) (fun e => by rcases hr k e.symm with q | q; exact hs q; omega)).trans (h.block k hk hs)⟩
theorem Only.alloc {S : List Nat} {a w : World} (h : Only S a w) (o : Obj) : Only S a (w.alloc o) :=
  ⟨h.os, h.tape, h.output, by have := h.size; simp; omega, fun k hk hs => (Below.heap_alloc _ _ _ (Nat.lt_of_lt_of_le hk h.size)).trans (h.block k hk hs)⟩
theorem Only.below {S : List Nat} {B : Nat} {a b : World} (h : Only S a b) (hB : B ≤ a.heap.size) (hS : ∀ x ∈ S, B ≤ x) : Below B a b := ⟨h.os, h.tape, h.output, h.size, fun k hk => h.block k (by omega) (fun m => by have := hS k m; omega)⟩

theorem below_drewN (w : World) (n : Nat) : Below w.heap.size w (w.drewN n) := ⟨rfl, rfl, rfl, Nat.le_refl _, fun _ _ => rfl⟩

/-- The blocks of a thing that has one of its own and a slice. -/
def foot (b : Nat) (v : Value) : List Nat := b :: v.ownBlock.toList
theorem mem_foot_slice {b g n cap : Nat} : g ∈ foot b (.slice (some ⟨g, 0, none⟩) n cap) := by simp [foot, Value.ownBlock]
theorem mem_foot {b : Nat} {v : Value} : b ∈ foot b v := by simp [foot]

/-- A pointer's block: cells, none of the blocks F. -/
def Fits (w : World) (F : List Nat) (x : Nat) : Prop := IsCells w x ∧ x ∉ F
theorem Fits.only {w w' : World} {F F' : List Nat} {x : Nat} (h : Fits w F x) (g : Only F w w') (hF : ∀ k ∈ F', k ∈ F ∨ w.heap.size ≤ k) : Fits w' F' x := by
  have l := h.1.lt
  obtain ⟨⟨c, t, e⟩, n⟩ := h
  exact ⟨⟨c, t, by rw [g.block x l n]; exact e⟩, fun m => by rcases hF x m with q | q; exact n q; omega⟩
end Go.Proofs.Ytbfbijfedamgaaa
