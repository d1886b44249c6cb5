/- Two loads by hand. -/
import Derived.Test.YtpbjodbcmaaheaaGreatDoorBegun9
import Derived.Test.YtpbjodbcmaaheaaGreatDoorBMath5
namespace Go.Proofs.YtpbjodbcmaaheaaGreatDoor
open Go Go.RowKit

theorem secs_two (w : World) (a b c d e f : Int) (T : TypeId) : Secs (w.alloc (.cells #[.int .i64 a, .int .i64 b, .int .i64 c, .int .i64 d, .int .i64 e, .int .i64 f] T)) (.slice (some ⟨w.heap.size, 0, none⟩) 2 2) [⟨a, b, c⟩, ⟨d, e, f⟩] := by
  refine .inr ⟨w.heap.size, 2, rfl, by simp, fun j s hj => ?_⟩
  have hl : j < 2 := (List.getElem?_eq_some_iff.1 hj).1
  match j, hl, hj with
  | 0, _, hj => simp at hj; subst hj; simp
  | 1, _, hj => simp at hj; subst hj; simp
end Go.Proofs.YtpbjodbcmaaheaaGreatDoor
