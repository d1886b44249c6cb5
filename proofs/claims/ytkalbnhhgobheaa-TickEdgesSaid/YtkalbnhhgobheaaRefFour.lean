/- The reference's sum of four times that the caller wrote out. -/
import Derived.Test.YtkalbnhhgobheaaRefSum
import Derived.Test.YtkalbnhhgobheaaBegun
namespace Go.Proofs.Ytkalbnhhgobheaa
open Go.RowKit
theorem ref_sum_four (x y z u : Int) (s : Nat) (w : World) (x0 : -9223372036854775808 ≤ x) (x1 : x ≤ 9223372036854775807) (y0 : -9223372036854775808 ≤ y) (y1 : y ≤ 9223372036854775807) (z0 : -9223372036854775808 ≤ z) (z1 : z ≤ 9223372036854775807) (u0 : -9223372036854775808 ≤ u) (u1 : u ≤ 9223372036854775807)
    (hs : w.heap.size = s) :
    Calls Try.prog 22 #[.slice (some ⟨s, 0, none⟩) 4 4] (w.alloc (.cells #[.int .i64 x, .int .i64 y, .int .i64 z, .int .i64 u] 2)) fun e w' =>
      e = .returned (.tuple #[.int .i64 (fitV (x + (y + (z + u)))), .bool (fitB (x + (y + (z + u))))]) ∧ Below w.heap.size w w' := by
  subst hs
  have h := ref_sum_any (some ⟨w.heap.size, 0, none⟩) 4 [x, y, z, u] (w.alloc (.cells #[.int .i64 x, .int .i64 y, .int .i64 z, .int .i64 u] 2))
    (.inr ⟨_, _, rfl, fun i hi => by
      match i, hi with
      | 0, _ => simp
      | 1, _ => simp
      | 2, _ => simp
      | 3, _ => simp⟩) (allIn_cons x0 x1 (allIn_cons y0 y1 (allIn_cons z0 z1 (allIn_cons u0 u1 allIn_nil)))) (by simp)
  have e : sumL [x, y, z, u] = x + (y + (z + u)) := by simp [sumL]
  rw [e] at h
  refine Calls.mono h ?_
  rintro e w' ⟨rfl, g⟩
  exact ⟨rfl, ((Below.refl _ _).alloc (Nat.le_refl _) _).trans (g.mono (by simp))⟩
end Go.Proofs.Ytkalbnhhgobheaa

namespace Go.Proofs.Ytkalbnhhgobheaa
open Go.RowKit
theorem edges_end {w a b c d : World} {o : Obj} (g1 : Below w.heap.size w a) (g2 : Below a.heap.size a b) (g3 : Below b.heap.size b c) (g4 : Below (c.alloc o).heap.size (c.alloc o) d) : Below w.heap.size w d :=
  below_step (below_step (below_step (below_step g1 g2) g3) ((Below.refl _ _).alloc (Nat.le_refl _) o)) g4
end Go.Proofs.Ytkalbnhhgobheaa
