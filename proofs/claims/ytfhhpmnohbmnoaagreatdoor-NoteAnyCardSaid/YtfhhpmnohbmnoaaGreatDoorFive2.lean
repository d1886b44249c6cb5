/- The contracts, their answers named. -/
import Derived.Test.YtfhhpmnohbmnoaaGreatDoorFive
import Derived.Test.YtfhhpmnohbmnoaaGreatDoorRef4
import Derived.Test.YtfhhpmnohbmnoaaGreatDoorRef5
namespace Go.Proofs.YtfhhpmnohbmnoaaGreatDoor
open Go Go.RowKit

theorem rconfig_at (co sy la mo : Int) (v : Value) (l : List Int) (w : World) (hv : Ints w v l) (hl : l.length ≤ 1000000) (X : Bool) (hX : cfgB ⟨co, sy, la, mo, l⟩ = X) :
    Calls Tryz.prog 10 #[.agg #[.int .i64 co, .int .i64 sy, .int .i64 la, .int .i64 mo, v]] w fun e w' => e = .returned (.bool X) ∧ Below w.heap.size w w' := by
  have h := rconfig_any co sy la mo v l w hv hl
  rw [hX] at h
  exact h
theorem refConfig_at (co sy la mo : Int) (v : Value) (l : List Int) (w : World) (hv : Ints w v l) (hl : l.length ≤ 1000000) (X : Bool) (hX : cfgB ⟨co, sy, la, mo, l⟩ = X) :
    Calls Tryz.prog 11 #[.agg #[.int .i64 co, .int .i64 sy, .int .i64 la, .int .i64 mo, v]] w fun e w' => e = .returned (.bool X) ∧ Below w.heap.size w w' := by
  have h := refConfig_any co sy la mo v l w hv hl
  rw [hX] at h
  exact h
theorem same_at (c d t c' d' t' : Int) (v v' : Value) (m m' : List Sec) (w : World) (h1 : Secs w v m) (h2 : Secs w v' m') (hl1 : m.length ≤ 1000000) (hl2 : m'.length ≤ 1000000) (X : Bool) (hX : decide ((⟨c, d, t, m⟩ : Tsk) = ⟨c', d', t', m'⟩) = X) :
    Calls Tryz.prog 12 #[.agg #[.int .i64 c, .int .i64 d, .int .i64 t, v], .agg #[.int .i64 c', .int .i64 d', .int .i64 t', v']] w fun e w' => e = .returned (.bool X) ∧ Below w.heap.size w w' := by
  have h := same_any c d t c' d' t' v v' m m' w h1 h2 hl1 hl2
  rw [hX] at h
  exact h
theorem refSame_at (c d t c' d' t' : Int) (v v' : Value) (m m' : List Sec) (w : World) (h1 : Secs w v m) (h2 : Secs w v' m') (hl1 : m.length ≤ 1000000) (hl2 : m'.length ≤ 1000000) (X : Bool) (hX : decide ((⟨c, d, t, m⟩ : Tsk) = ⟨c', d', t', m'⟩) = X) :
    Calls Tryz.prog 13 #[.agg #[.int .i64 c, .int .i64 d, .int .i64 t, v], .agg #[.int .i64 c', .int .i64 d', .int .i64 t', v']] w fun e w' => e = .returned (.bool X) ∧ Below w.heap.size w w' := by
  have h := refSame_any c d t c' d' t' v v' m m' w h1 h2 hl1 hl2
  rw [hX] at h
  exact h
theorem load_at (c d t : Int) (w : World) (X : Bool) (hX : loadB c d t = X) :
    Calls Tryz.prog 14 #[.agg #[.int .i64 c, .int .i64 d, .int .i64 t]] w fun e w' => e = .returned (.bool X) ∧ Below w.heap.size w w' := by
  have h := load_any c d t w
  rw [hX] at h
  exact h
theorem refLoad_at (c d t : Int) (w : World) (X : Bool) (hX : loadB c d t = X) :
    Calls Tryz.prog 15 #[.agg #[.int .i64 c, .int .i64 d, .int .i64 t]] w fun e w' => e = .returned (.bool X) ∧ Below w.heap.size w w' := by
  have h := refLoad_any c d t w
  rw [hX] at h
  exact h
theorem piece_at (co sy la mo : Int) (a : Option Addr) (n cap : Nat) (core off len c : Int) (w : World) (X : Bool) (hX : pieceB co core off len c = X) :
    Calls Tryz.prog 18 #[.agg #[.int .i64 co, .int .i64 sy, .int .i64 la, .int .i64 mo, .slice a n cap], .agg #[.int .i64 core, .int .i64 off, .int .i64 len, .int .i64 c]] w fun e w' => e = .returned (.bool X) ∧ Below w.heap.size w w' := by
  have h := piece_any co sy la mo a n cap core off len c w
  rw [hX] at h
  exact h
theorem refPiece_at (co sy la mo : Int) (a : Option Addr) (n cap : Nat) (core off len c : Int) (w : World) (X : Bool) (hX : pieceB co core off len c = X) :
    Calls Tryz.prog 19 #[.agg #[.int .i64 co, .int .i64 sy, .int .i64 la, .int .i64 mo, .slice a n cap], .agg #[.int .i64 core, .int .i64 off, .int .i64 len, .int .i64 c]] w fun e w' => e = .returned (.bool X) ∧ Below w.heap.size w w' := by
  have h := refPiece_any co sy la mo a n cap core off len c w
  rw [hX] at h
  exact h
end Go.Proofs.YtfhhpmnohbmnoaaGreatDoor
