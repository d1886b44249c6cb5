/- Operations that lie in blocks of their own, among a few things. -/
import Derived.Test.YtbfbijfedamgaaaArgs
import Derived.Test.YtbfbijfedamgaaaTail
import Derived.Deep.CutBlock
namespace Go.Proofs.Ytbfbijfedamgaaa
open Go.RowKit
theorem OpAt.keeps {P : Nat} {o : Op4} : Stays [P] (OpAt P o) := by
  intro w w' S h g hS
  have hl := (Array.getElem?_eq_some_iff.1 h).1
  unfold OpAt at h ⊢
  rw [g.block P hl (hS P (by simp))]
  exact h
/-- Number i of the operations that came in, as it lies now. -/
theorem op_cells {W w : World} {x : Addr} {i : Nat} {o : Op4} (h : IsOp W x i o) (hb : x.block < W.heap.size) (g : Below W.heap.size W w) : IsOp w x i o := by
  obtain ⟨h0, h1, h2, h3, r⟩ := h
  exact ⟨(g.cell (by rw [add_block]; exact hb)).trans h0, (g.cell (by rw [add_block]; exact hb)).trans h1, (g.cell (by rw [add_block]; exact hb)).trans h2, (g.cell (by rw [add_block]; exact hb)).trans h3, r⟩
theorem add_more (x : Addr) (n j : Nat) (hj : 0 < j) : x.add (n + j) = ⟨(x.add n).block, (x.add n).off + j, none⟩ := by
  unfold Addr.add
  rw [if_neg (by omega)]
  split
  · rename_i e; subst e; simp
  · simp; omega
/-- The same, at the addresses as the walk reckons them. -/
theorem op_here {W w : World} {x : Addr} {i : Nat} {o : Op4} (h : IsOp W x i o) (hb : x.block < W.heap.size) (g : Below W.heap.size W w) :
    ∃ y, x.add (i * 4) = y ∧ w.cell? y = some (.int .i64 o.kind) ∧ w.cell? ⟨y.block, y.off + 1, none⟩ = some (.int .i64 o.v) ∧ w.cell? ⟨y.block, y.off + 2, none⟩ = some (.int .i64 o.a) ∧ w.cell? ⟨y.block, y.off + 3, none⟩ = some (.int .i64 o.b) ∧ inI64 o.v ∧ inI64 o.a ∧ inI64 o.b := by
  obtain ⟨h0, h1, h2, h3, r⟩ := op_cells h hb g
  rw [add_more _ _ _ (by omega)] at h1 h2 h3
  exact ⟨_, rfl, h0, h1, h2, h3, r⟩
end Go.Proofs.Ytbfbijfedamgaaa
