/- The laws' own beginning. -/
import Derived.Test.YtakdliecjfeedaaGreatDoorMost9
import Derived.Test.YtakdliecjfeedaaGreatDoorBegun
import Derived.Test.YtakdliecjfeedaaGreatDoorBMath4
namespace Go.Proofs.YtakdliecjfeedaaGreatDoor
open Go Go.RowKit

set_option maxHeartbeats 1000000 in
theorem Begun7_any (w : World) (hE : Env w) :
    Calls Tryz.prog 58 #[] w fun e w' => e = .returned (.bool true) ∧ Below w.heap.size w w' := by
  have HE : Hid (Env w) := hE
  clear hE
  go_enter Tryz.func58, Tryz.ntmps58
  go_wp2_with (go_at_call 72; refine (begun7_any _ HE.out).mono ?_; rintro e w1 ⟨rfl, g1⟩; have G1 : Hid (Below w.heap.size w w1) := g1; clear g1)
  go_ret
  exact ⟨rfl, G1.out⟩
theorem secs_b0 (w : World) : Secs (w.alloc (.cells #[.int .i64 2, .int .i64 4, .int .i64 6, .int .i64 3, .int .i64 8, .int .i64 9] 55)) (.slice (some ⟨w.heap.size, 0, none⟩) 2 2) b0 := by
  refine .inr ⟨w.heap.size, 2, rfl, by simp, fun j s hj => ?_⟩
  have hl : j < 2 := (List.getElem?_eq_some_iff.1 hj).1
  match j, hl, hj with
  | 0, _, hj => simp [b0] at hj; subst hj; simp
  | 1, _, hj => simp [b0] at hj; subst hj; simp
theorem bad_time : tN [⟨5, 5, 4⟩] = 0 ∧ tOk [⟨5, 5, 4⟩] = false := ⟨(time_bad b0_bad).2, (time_bad b0_bad).1⟩
theorem b0_askV : askV b0 7 = 7 := by rw [askV_is b0_lds (by omega) (by omega)]; exact b0_ask
theorem b0_dueV : dueV b0 8 = 5 := by rw [dueV_is b0_lds (by omega) (by omega)]; exact b0_due
set_option maxHeartbeats 8000000 in
theorem begun9_any (w : World) (hE : Env w) :
    Calls Tryz.prog 49 #[] w fun e w' => e = .returned (.bool true) ∧ Below w.heap.size w w' := by
  have HE : Hid (Env w) := hE
  clear hE
  have B0 : Hid (Below w.heap.size w (w.alloc (.cells #[.int .i64 2, .int .i64 4, .int .i64 6, .int .i64 3, .int .i64 8, .int .i64 9] 55))) := balloc _ _
  have S0 : Hid (Secs (w.alloc (.cells #[.int .i64 2, .int .i64 4, .int .i64 6, .int .i64 3, .int .i64 8, .int .i64 9] 55)) (.slice (some ⟨w.heap.size, 0, none⟩) 2 2) b0) := secs_b0 w
  go_enter Tryz.func49, Tryz.ntmps49
  go_wp2_with fail
  refine (btime_any _ b0 _ S0.out (by decide)).mono ?_
  rintro e w1 ⟨rfl, g1⟩
  rw [b0_time.1, b0_time.2]
  have B1 : Hid (Below w.heap.size w w1) := btrans B0.out g1
  have S1 : Hid (Secs w1 (.slice (some ⟨w.heap.size, 0, none⟩) 2 2) b0) := S0.out.below g1
  clear g1 B0 S0
  go_wp2_with fail
  refine (btime_any _ [] _ (.inl ⟨rfl, _, _, rfl⟩) (by decide)).mono ?_
  rintro e w2 ⟨rfl, g2⟩
  rw [time_nil.1, time_nil.2]
  have B2 : Hid (Below w.heap.size w w2) := btrans B1.out g2
  have S2 : Hid (Secs w2 (.slice (some ⟨w.heap.size, 0, none⟩) 2 2) b0) := S1.out.below g2
  clear g2 B1 S1
  go_wp2_with fail
  refine (btime_any _ [⟨5, 5, 4⟩] _ (secs_one w2 5 5 4 _) (by decide)).mono ?_
  rintro e w3 ⟨rfl, g3⟩
  rw [bad_time.1, bad_time.2]
  have B3 : Hid (Below w.heap.size w w3) := btrans (btrans B2.out (balloc _ _)) g3
  have S3 : Hid (Secs w3 (.slice (some ⟨w.heap.size, 0, none⟩) 2 2) b0) := (S2.out.below (balloc _ _)).below g3
  clear g3 B2 S2
  go_wp2_with fail
  refine (Begun7_any _ (HE.out.below B3.out)).mono ?_
  rintro e w4 ⟨rfl, g4⟩
  have B4 : Hid (Below w.heap.size w w4) := btrans B3.out g4
  have S4 : Hid (Secs w4 (.slice (some ⟨w.heap.size, 0, none⟩) 2 2) b0) := S3.out.below g4
  clear g4 B3 S3
  go_wp2_with fail
  refine (basked_any _ b0 7 _ S4.out (by decide)).mono ?_
  rintro e w5 ⟨rfl, g5⟩
  rw [b0_askV]
  have B5 : Hid (Below w.heap.size w w5) := btrans B4.out g5
  have S5 : Hid (Secs w5 (.slice (some ⟨w.heap.size, 0, none⟩) 2 2) b0) := S4.out.below g5
  clear g5 B4 S4
  go_wp2_with fail
  refine (dbnd_any _ b0 8 _ S5.out (by decide)).mono ?_
  rintro e w6 ⟨rfl, g6⟩
  rw [b0_dueV]
  have B6 : Hid (Below w.heap.size w w6) := btrans B5.out g6
  have S6 : Hid (Secs w6 (.slice (some ⟨w.heap.size, 0, none⟩) 2 2) b0) := S5.out.below g6
  clear g6 B5 S5
  go_wp2_with fail
  refine (dfits_any _ b0 _ S6.out (by decide)).mono ?_
  rintro e w7 ⟨rfl, g7⟩
  rw [b0_fit]
  have B7 : Hid (Below w.heap.size w w7) := btrans B6.out g7
  have S7 : Hid (Secs w7 (.slice (some ⟨w.heap.size, 0, none⟩) 2 2) b0) := S6.out.below g7
  clear g7 B6 S6
  go_wp2_with fail
  refine (mfit_any _ 2 2 b0 5 10 9 _ S7.out (by omega) rfl (by omega)).mono ?_
  rintro e w8 ⟨rfl, g8⟩
  rw [b0_most]
  have B8 : Hid (Below w.heap.size w w8) := btrans B7.out g8
  clear g8 B7 S7
  go_wp2_with fail
  refine (mtight_any none 0 0 [] 10 4 _ (.inl ⟨rfl, _, _, rfl⟩) (by omega) rfl (by omega)).mono ?_
  rintro e w9 ⟨rfl, g9⟩
  rw [b0_tight]
  have B9 : Hid (Below w.heap.size w w9) := btrans B8.out g9
  clear g9 B8
  go_wp2_with fail
  go_ret
  exact ⟨rfl, B9.out⟩
end Go.Proofs.YtakdliecjfeedaaGreatDoor
