/- What an append leaves: other blocks, other rows. -/
import Derived.Test.YtcgmbfpmcldfdaaGreatDoorGetT
namespace Go.Proofs.YtcgmbfpmcldfdaaGreatDoor
open Go Go.RowKit

variable {w w7 : World} {cs : Array Value} {t : TypeId} {o : Obj} {row : Option Nat}
theorem gkeep (gr : ((w.alloc (.cells cs t)).alloc o).grownBy w7 row) {k : Nat} {ob : Obj} (h : w.heap[k]? = some ob) (hr : row ≠ some k) : w7.heap[k]? = some ob := by
  have hk := (Array.getElem?_eq_some_iff.1 h).1
  rw [gr.block k (by simp; omega) (fun e => hr e.symm), Below.heap_alloc _ _ _ (by simp; omega), Below.heap_alloc _ _ _ hk]
  exact h
theorem gnew (gr : ((w.alloc (.cells cs t)).alloc o).grownBy w7 row) (hr : row ≠ some w.heap.size) : Blk w7 w.heap.size cs t := by
  unfold Blk
  rw [gr.block w.heap.size (by simp; omega) (fun e => hr e.symm), Below.heap_alloc _ _ _ (by simp)]
  exact heap_alloc_new _ _
theorem own_keep {base e n z : Nat} {v : Value} {xs : List Value} (gr : ((w.alloc (.cells cs t)).alloc o).grownBy w7 row) (h : w.ownsRow base e z v n xs) (hne : ∀ k, v.ownBlock = some k → row ≠ some k) : w7.ownsRow base e z v n xs := by
  obtain ⟨h1, h2⟩ := h
  refine ⟨h1, ?_⟩
  rcases h2 with h2 | ⟨g, cap, cur, rfl, hb', hh, r⟩
  · exact .inl h2
  · exact .inr ⟨g, cap, cur, rfl, hb', gkeep gr hh (hne g rfl), r⟩
theorem gbelow {B : Nat} (gr : ((w.alloc (.cells cs t)).alloc o).grownBy w7 row) (hB : B ≤ w.heap.size) (hr : ∀ k, row = some k → B ≤ k) : Below B w w7 :=
  ⟨gr.os, gr.tape, gr.output, by have := gr.size; simp at this; omega, fun k hk =>
    (gr.block k (by simp; omega) (fun e => by have := hr k e.symm; omega)).trans ((Below.heap_alloc _ _ _ (by simp; omega)).trans (Below.heap_alloc _ _ _ (by omega)))⟩
end Go.Proofs.YtcgmbfpmcldfdaaGreatDoor
