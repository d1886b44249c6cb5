/- The contracts of rule.Config, Load, Piece, sections, Task. -/
import Derived.Test.YtcgmbfpmcldfdaaGreatDoorRule
namespace Go.Proofs.YtcgmbfpmcldfdaaGreatDoor
open Go Go.RowKit

set_option maxHeartbeats 1000000 in
theorem rconfig_any (co sy la mo : Int) (v : Value) (l : List Int) (w : World) (hv : Ints w v l) (hl : l.length ≤ 1000000) :
    Calls Tryz.prog 32 #[.agg #[.int .i64 co, .int .i64 sy, .int .i64 la, .int .i64 mo, v]] w fun e w' => e = .returned (.bool (cfgB ⟨co, sy, la, mo, l⟩)) ∧ Below w.heap.size w w' := by
  have hx := hv.below (balloc w (.cells #[.int .i64 co, .int .i64 sy, .int .i64 la, .int .i64 mo, v] 43))
  obtain ⟨a, cap, rfl⟩ := hv.form
  clear hv
  have HV : Hid (Ints (w.alloc (.cells #[.int .i64 co, .int .i64 sy, .int .i64 la, .int .i64 mo, .slice a l.length cap] 43)) (.slice a l.length cap) l) := hx
  clear hx
  have HR : Hid (cfgB ⟨co, sy, la, mo, l⟩ = (inB co 1 6 && inB sy 0 3 && inB la 0 5 && inB mo 0 5 && resAllB sy l)) := rfl
  rw [HR.out]
  clear HR
  cases h1 : inB co 1 6
  · go_enter Tryz.func32, Tryz.ntmps32
    go_wp2_with (first | (go_at_call 51; refine (within_int _ _ _ _).mono ?_; rintro e w' ⟨rfl, rfl⟩) | (go_at_call 41; refine (within_i64 _ _ _ _).mono ?_; rintro e w' ⟨rfl, rfl⟩))
    go_ret
    exact ⟨rfl, balloc _ _⟩
  cases h2 : inB sy 0 3
  · go_enter Tryz.func32, Tryz.ntmps32
    go_wp2_with (first | (go_at_call 51; refine (within_int _ _ _ _).mono ?_; rintro e w' ⟨rfl, rfl⟩) | (go_at_call 41; refine (within_i64 _ _ _ _).mono ?_; rintro e w' ⟨rfl, rfl⟩))
    go_ret
    exact ⟨rfl, balloc _ _⟩
  cases h3 : inB la 0 5
  · go_enter Tryz.func32, Tryz.ntmps32
    go_wp2_with (first | (go_at_call 51; refine (within_int _ _ _ _).mono ?_; rintro e w' ⟨rfl, rfl⟩) | (go_at_call 41; refine (within_i64 _ _ _ _).mono ?_; rintro e w' ⟨rfl, rfl⟩))
    go_ret
    exact ⟨rfl, balloc _ _⟩
  cases h4 : inB mo 0 5
  · go_enter Tryz.func32, Tryz.ntmps32
    go_wp2_with (first | (go_at_call 51; refine (within_int _ _ _ _).mono ?_; rintro e w' ⟨rfl, rfl⟩) | (go_at_call 41; refine (within_i64 _ _ _ _).mono ?_; rintro e w' ⟨rfl, rfl⟩))
    go_ret
    exact ⟨rfl, balloc _ _⟩
  · go_enter Tryz.func32, Tryz.ntmps32
    go_wp2_with (first | (go_at_call 51; refine (within_int _ _ _ _).mono ?_; rintro e w' ⟨rfl, rfl⟩) | (go_at_call 41; refine (within_i64 _ _ _ _).mono ?_; rintro e w' ⟨rfl, rfl⟩) | (go_at_call 52; refine (resources_any _ _ _ _ _ l _ HV.out hl).mono ?_; rintro e w1 ⟨rfl, g1⟩))
    go_ret
    exact ⟨by simp, btrans (balloc _ _) g1⟩

set_option maxHeartbeats 1000000 in
theorem load_any (c d t : Int) (w : World) :
    Calls Tryz.prog 25 #[.agg #[.int .i64 c, .int .i64 d, .int .i64 t]] w fun e w' => e = .returned (.bool (loadB c d t)) ∧ Below w.heap.size w w' := by
  have HR : Hid (loadB c d t = (inB c 1 20000 && inB t 1 200 && inB d 1 t)) := rfl
  rw [HR.out]
  clear HR
  cases h1 : inB c 1 20000
  · go_enter Tryz.func25, Tryz.ntmps25
    go_wp2_with (go_at_call 41; refine (within_i64 _ _ _ _).mono ?_; rintro e w' ⟨rfl, rfl⟩)
    go_ret
    exact ⟨rfl, balloc _ _⟩
  cases h2 : inB t 1 200
  · go_enter Tryz.func25, Tryz.ntmps25
    go_wp2_with (go_at_call 41; refine (within_i64 _ _ _ _).mono ?_; rintro e w' ⟨rfl, rfl⟩)
    go_ret
    exact ⟨rfl, balloc _ _⟩
  · go_enter Tryz.func25, Tryz.ntmps25
    go_wp2_with (go_at_call 41; refine (within_i64 _ _ _ _).mono ?_; rintro e w' ⟨rfl, rfl⟩)
    go_ret
    exact ⟨by simp, balloc _ _⟩

set_option maxHeartbeats 1000000 in
theorem piece_any (co sy la mo : Int) (a : Option Addr) (n cap : Nat) (core off len c : Int) (w : World) :
    Calls Tryz.prog 35 #[.agg #[.int .i64 co, .int .i64 sy, .int .i64 la, .int .i64 mo, .slice a n cap], .agg #[.int .i64 core, .int .i64 off, .int .i64 len, .int .i64 c]] w fun e w' => e = .returned (.bool (pieceB co core off len c)) ∧ Below w.heap.size w w' := by
  have HR : Hid (pieceB co core off len c = (oneOfB co core && inB len 1 200 && inB off 0 (200 - len) && inB c 1 len)) := rfl
  rw [HR.out]
  clear HR
  cases h1 : oneOfB co core
  · go_enter Tryz.func35, Tryz.ntmps35
    go_wp2_with (first | (go_at_call 41; refine (within_i64 _ _ _ _).mono ?_; rintro e w' ⟨rfl, rfl⟩) | (go_at_call 55; refine (one_of _ _ _).mono ?_; rintro e w' ⟨rfl, rfl⟩))
    go_ret
    exact ⟨rfl, btrans (balloc _ _) (balloc _ _)⟩
  cases h2 : inB len 1 200
  · go_enter Tryz.func35, Tryz.ntmps35
    go_wp2_with (first | (go_at_call 41; refine (within_i64 _ _ _ _).mono ?_; rintro e w' ⟨rfl, rfl⟩) | (go_at_call 55; refine (one_of _ _ _).mono ?_; rintro e w' ⟨rfl, rfl⟩))
    go_ret
    exact ⟨rfl, btrans (balloc _ _) (balloc _ _)⟩
  have hb := inB_iff.1 h2
  obtain ⟨b1, b2⟩ := hb
  cases h3 : inB off 0 (200 - len)
  · go_enter Tryz.func35, Tryz.ntmps35
    go_wp2_with (first | (go_at_call 41; refine (within_i64 _ _ _ _).mono ?_; rintro e w' ⟨rfl, rfl⟩) | (go_at_call 55; refine (one_of _ _ _).mono ?_; rintro e w' ⟨rfl, rfl⟩))
    go_ret
    exact ⟨rfl, btrans (balloc _ _) (balloc _ _)⟩
  · go_enter Tryz.func35, Tryz.ntmps35
    go_wp2_with (first | (go_at_call 41; refine (within_i64 _ _ _ _).mono ?_; rintro e w' ⟨rfl, rfl⟩) | (go_at_call 55; refine (one_of _ _ _).mono ?_; rintro e w' ⟨rfl, rfl⟩))
    go_ret
    exact ⟨by simp, btrans (balloc _ _) (balloc _ _)⟩
end Go.Proofs.YtcgmbfpmcldfdaaGreatDoor
