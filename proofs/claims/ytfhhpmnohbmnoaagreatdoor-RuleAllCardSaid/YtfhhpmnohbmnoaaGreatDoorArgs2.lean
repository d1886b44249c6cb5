/- What comes in: loads, pieces. -/
import Derived.Test.YtfhhpmnohbmnoaaGreatDoorArgs
namespace Go.Proofs.YtfhhpmnohbmnoaaGreatDoor
open Go Go.ChangeShapes Go.WideShapes Go.ChangeAt Go.RowKit

theorem cLoad : Tryz.prog.cellsOf 29 = 3 := by kernel_rfl
theorem cPiece : Tryz.prog.cellsOf 31 = 4 := by kernel_rfl
variable {H : Type} {enc : TypeId × Value → H} {w : World} {base fuel : Nat} {spare : Nat → Bool} {held : Bool}
set_option maxRecDepth 100000 in
theorem open_load {r : Reach} {b0 : Nat} {v : Value} {d : DataW H} {p : List MemPlace} (hv : Value.okWide Tryz.prog w r b0 29 v) (h : DataW.Trod enc Tryz.prog w base spare held 29 v d p) :
    ∃ (a b c : Int), v = .agg #[.int .i64 a, .int .i64 b, .int .i64 c] ∧ (Lit.int .i64 a).wf = true ∧ (Lit.int .i64 b).wf = true ∧ (Lit.int .i64 c).wf = true := by
  obtain ⟨v0, v1, v2, y0, y1, y2, n, rfl, _, _, k0, k1, k2⟩ := Joins.open_agg3 Tryz.underlying29 (by kernel_rfl) cLoad hv h
  obtain ⟨n0, e0, _, q0⟩ := DataW.trod_int Tryz.underlying2 k0
  obtain ⟨n1, e1, _, q1⟩ := DataW.trod_int Tryz.underlying2 k1
  obtain ⟨n2, e2, _, q2⟩ := DataW.trod_int Tryz.underlying2 k2
  simp only [List.cons.injEq, and_true] at e0 e1 e2
  subst e0 e1 e2
  exact ⟨n0, n1, n2, rfl, q0, q1, q2⟩
set_option maxRecDepth 100000 in
theorem open_piece {r : Reach} {b0 : Nat} {v : Value} {d : DataW H} {p : List MemPlace} (hv : Value.okWide Tryz.prog w r b0 31 v) (h : DataW.Trod enc Tryz.prog w base spare held 31 v d p) :
    ∃ (a b c e : Int), v = .agg #[.int .i64 a, .int .i64 b, .int .i64 c, .int .i64 e] ∧ (Lit.int .i64 a).wf = true ∧ (Lit.int .i64 b).wf = true ∧ (Lit.int .i64 c).wf = true ∧ (Lit.int .i64 e).wf = true := by
  obtain ⟨v0, v1, v2, v3, y0, y1, y2, y3, n, rfl, _, _, k0, k1, k2, k3⟩ := Joins.open_agg4 Tryz.underlying31 (by kernel_rfl) cPiece hv h
  obtain ⟨n0, e0, _, q0⟩ := DataW.trod_int Tryz.underlying3 k0
  obtain ⟨n1, e1, _, q1⟩ := DataW.trod_int Tryz.underlying2 k1
  obtain ⟨n2, e2, _, q2⟩ := DataW.trod_int Tryz.underlying2 k2
  obtain ⟨n3, e3, _, q3⟩ := DataW.trod_int Tryz.underlying2 k3
  simp only [List.cons.injEq, and_true] at e0 e1 e2 e3
  subst e0 e1 e2 e3
  exact ⟨n0, n1, n2, n3, rfl, q0, q1, q2, q3⟩
end Go.Proofs.YtfhhpmnohbmnoaaGreatDoor
