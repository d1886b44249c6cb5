/- The cells of a heap's things; what stands at each place. -/
import Derived.Test.YtbfbijfedamgaaaOwn
namespace Go.Proofs.Ytbfbijfedamgaaa
open Go.RowKit

/-- The cells of things, four each. -/
def cellsOf {α : Type} (mk : α → Value) (es : List (Ent α)) : List Value := es.flatMap fun e => [mk e.v, .int .i64 e.a, .int .i64 e.b, .int .i64 e.t]
theorem cellsOf_length {α : Type} (mk : α → Value) (es : List (Ent α)) : (cellsOf mk es).length = es.length * 4 := by
  induction es with
  | nil => rfl
  | cons e es ih => simp only [cellsOf, List.flatMap_cons, List.length_append] at *; rw [ih]; simp; omega
theorem cellsOf_append {α : Type} (mk : α → Value) (es fs : List (Ent α)) : cellsOf mk (es ++ fs) = cellsOf mk es ++ cellsOf mk fs := by simp [cellsOf]
theorem cellsOf_take {α : Type} (mk : α → Value) (es : List (Ent α)) (n : Nat) : cellsOf mk (es.take n) = (cellsOf mk es).take (n * 4) := by
  induction es generalizing n with
  | nil => simp [cellsOf]
  | cons e es ih =>
    cases n with
    | zero => simp [cellsOf]
    | succ n =>
      have := ih n
      rw [show (n + 1) * 4 = n * 4 + 4 by omega]
      simpa [cellsOf] using this
theorem cellsOf_get {α : Type} (mk : α → Value) {es : List (Ent α)} {i : Nat} {x : Ent α} (h : es[i]? = some x) :
    (cellsOf mk es)[i * 4]? = some (mk x.v) ∧ (cellsOf mk es)[i * 4 + 1]? = some (.int .i64 x.a) ∧ (cellsOf mk es)[i * 4 + 2]? = some (.int .i64 x.b) ∧ (cellsOf mk es)[i * 4 + 3]? = some (.int .i64 x.t) := by
  induction es generalizing i with
  | nil => simp at h
  | cons e es ih =>
    cases i with
    | zero => simp at h; subst h; simp [cellsOf]
    | succ i =>
      have := ih (i := i) (by simpa using h)
      rw [show (i + 1) * 4 = i * 4 + 4 by omega]
      simpa [cellsOf] using this
theorem cellsOf_set {α : Type} (mk : α → Value) (es : List (Ent α)) (i : Nat) (x : Ent α) :
    cellsOf mk (es.set i x) = ((((cellsOf mk es).set (i * 4) (mk x.v)).set (i * 4 + 1) (.int .i64 x.a)).set (i * 4 + 2) (.int .i64 x.b)).set (i * 4 + 3) (.int .i64 x.t) := by
  induction es generalizing i with
  | nil => simp [cellsOf]
  | cons e es ih =>
    cases i with
    | zero => simp [cellsOf]
    | succ i =>
      have := ih i
      rw [show (i + 1) * 4 = i * 4 + 4 by omega]
      simpa [cellsOf] using this
theorem cellsOf_one {α : Type} (mk : α → Value) (h : ∀ x, (mk x).oneCell' = true) (es : List (Ent α)) : ∀ u ∈ cellsOf mk es, u.oneCell' = true := by
  intro u hu
  simp only [cellsOf, List.mem_flatMap] at hu
  obtain ⟨e, _, hu⟩ := hu
  simp at hu
  rcases hu with rfl | rfl | rfl | rfl
  · exact h _
  · rfl
  · rfl
  · rfl
end Go.Proofs.Ytbfbijfedamgaaa
