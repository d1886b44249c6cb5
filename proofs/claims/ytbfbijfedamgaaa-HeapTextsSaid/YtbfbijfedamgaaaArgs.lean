/- What comes in: slices of operations, of texts. -/
import Derived.Test.YtbfbijfedamgaaaRows
import Derived.WalkKit
import Derived.ProofKit
import Derived.Deep.Slices
import Derived.ChangeSame
import Derived.ChangeOld
import Derived.OpenShut
namespace Go.Proofs.Ytbfbijfedamgaaa
open Go.ChangeShapes Go.WideShapes Go.ChangeAt Go.RowKit

structure Op4 where
  kind : Int
  v : Int
  a : Int
  b : Int
  deriving Inhabited
def inI64 (x : Int) : Prop := -9223372036854775808 ≤ x ∧ x ≤ 9223372036854775807

def IsOp (w : World) (x : Addr) (i : Nat) (o : Op4) : Prop :=
  w.cell? (x.add (i * 4)) = some (.int .i64 o.kind) ∧ w.cell? (x.add (i * 4 + 1)) = some (.int .i64 o.v) ∧ w.cell? (x.add (i * 4 + 2)) = some (.int .i64 o.a) ∧ w.cell? (x.add (i * 4 + 3)) = some (.int .i64 o.b) ∧ inI64 o.v ∧ inI64 o.a ∧ inI64 o.b
/-- The slice holds these operations. -/
def IsOps (w : World) (a : Option Addr) (len : Nat) (ops : List Op4) : Prop :=
  ops.length = len ∧ len ≤ 9223372036854775807 ∧ ∀ i o, ops[i]? = some o → ∃ x, a = some x ∧ x.block < w.heap.size ∧ IsOp w x i o
theorem add_block (x : Addr) (j : Nat) : (x.add j).block = x.block := by unfold Addr.add; split <;> rfl

theorem inI64_of {x : Int} (h : (Lit.int .i64 x).wf = true) : inI64 x := bounds_i64 h
set_option maxRecDepth 100000 in
theorem open_ops {H : Type} {enc : TypeId × Value → H} {w : World} {base fuel : Nat} {spare : Nat → Bool} {held : Bool} {x : DataW H × List MemPlace} {a : Option Addr} {len cap : Nat}
    (h : DataW.trod enc Try.prog w base spare held fuel 22 [.slice a len cap] = some x) : ∃ ops, IsOps w a len ops := by
  rcases Go.Deep.open_slice Try.underlying22 h with ⟨hcs, _⟩ | ⟨y, l, c, m, n, D, Pl, hcs, _, hl, hm, hmm, _, hx⟩
  · simp at hcs
    obtain ⟨rfl, rfl, rfl⟩ := hcs
    exact ⟨[], rfl, by omega, fun i o hi => by simp at hi⟩
  · simp at hcs
    obtain ⟨rfl, rfl, rfl⟩ := hcs
    have hlm : len ≤ m := by rw [hmm]; split <;> omega
    have ce : Try.prog.cellsOf 29 = 4 := by kernel_rfl
    have c3 : Try.prog.cellsOf 3 = 1 := by kernel_rfl
    have c2 : Try.prog.cellsOf 2 = 1 := by kernel_rfl
    have each : ∀ i, i < len → ∃ o : Op4, y.block < w.heap.size ∧ IsOp w y i o := by
      intro i hi
      obtain ⟨cs', h1, h2⟩ := hx i (by omega)
      rw [ce] at h1
      have hblk := World.cells?_block h1 (by omega)
      rw [add_block] at hblk
      obtain ⟨_, hlen, hcell⟩ := World.cells?_some h1
      obtain ⟨xs, k, _, _, _, hxl, hf⟩ := DataW.trod_struct Try.underlying29 h2
      match cs', hlen with
      | [v0, v1, v2, v3], _ =>
        have g0 : DataW.trod enc Try.prog w base spare held k 3 (([v0, v1, v2, v3].drop 0).take (Try.prog.cellsOf 3)) = xs[0]? := hf 0 _ rfl
        have g1 : DataW.trod enc Try.prog w base spare held k 3 (([v0, v1, v2, v3].drop 1).take (Try.prog.cellsOf 3)) = xs[1]? := hf 1 _ rfl
        have g2 : DataW.trod enc Try.prog w base spare held k 2 (([v0, v1, v2, v3].drop 2).take (Try.prog.cellsOf 2)) = xs[2]? := hf 2 _ rfl
        have g3 : DataW.trod enc Try.prog w base spare held k 2 (([v0, v1, v2, v3].drop 3).take (Try.prog.cellsOf 2)) = xs[3]? := hf 3 _ rfl
        rw [c3] at g0 g1
        rw [c2] at g2 g3
        have k0 : DataW.trod enc Try.prog w base spare held k 3 [v0] = xs[0]? := g0
        have k1 : DataW.trod enc Try.prog w base spare held k 3 [v1] = xs[1]? := g1
        have k2 : DataW.trod enc Try.prog w base spare held k 2 [v2] = xs[2]? := g2
        have k3 : DataW.trod enc Try.prog w base spare held k 2 [v3] = xs[3]? := g3
        match xs, hxl with
        | [y0, y1, y2, y3], _ =>
          obtain ⟨n0, e0, _, q0⟩ := DataW.trod_int Try.underlying3 k0
          obtain ⟨n1, e1, _, q1⟩ := DataW.trod_int Try.underlying3 k1
          obtain ⟨n2, e2, _, q2⟩ := DataW.trod_int Try.underlying2 k2
          obtain ⟨n3, e3, _, q3⟩ := DataW.trod_int Try.underlying2 k3
          simp only [List.cons.injEq, and_true] at e0 e1 e2 e3
          subst e0 e1 e2 e3
          have d0 := hcell 0 (by omega)
          have d1 := hcell 1 (by omega)
          have d2 := hcell 2 (by omega)
          have d3 := hcell 3 (by omega)
          rw [Go.Deep.add_add] at d0 d1 d2 d3
          exact ⟨⟨n0, n1, n2, n3⟩, hblk, by simpa using d0, by simpa using d1, by simpa using d2, by simpa using d3, inI64_of q1, inI64_of q2, inI64_of q3⟩
    obtain ⟨f, hf⟩ := Go.Deep.choose_lt each
    refine ⟨(List.range len).map f, by simp, by unfold maxLen at hm; omega, fun i o hi => ?_⟩
    obtain ⟨hi1, hi2⟩ := List.getElem?_eq_some_iff.1 hi
    simp at hi1 hi2
    subst hi2
    exact ⟨y, rfl, hf i hi1⟩
/-- An operation lies in a block of its own. -/
def OpAt (P : Nat) (o : Op4) (w : World) : Prop := w.heap[P]? = some (.cells #[.int .i64 o.kind, .int .i64 o.v, .int .i64 o.a, .int .i64 o.b] 29 (0, 0))
theorem OpAt.cells {P : Nat} {o : Op4} {w : World} (h : OpAt P o w) : w.cell? ⟨P, 0, none⟩ = some (.int .i64 o.kind) ∧ w.cell? ⟨P, 1, none⟩ = some (.int .i64 o.v) ∧ w.cell? ⟨P, 2, none⟩ = some (.int .i64 o.a) ∧ w.cell? ⟨P, 3, none⟩ = some (.int .i64 o.b) := by
  unfold OpAt at h
  simp [World.cell?, h]
end Go.Proofs.Ytbfbijfedamgaaa
