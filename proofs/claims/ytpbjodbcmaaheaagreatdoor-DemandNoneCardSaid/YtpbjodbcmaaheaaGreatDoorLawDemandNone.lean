/-
PROVED: the statement hortatorlaw9.DemandNone answers true over the landed packages: loads that may not be do not fit; too many do not.
  CONDITIONS: the listed variables of strconv and math/bits hold what the program's text lays (the card ties them).
-/
import Derived.Test.YtpbjodbcmaaheaaGreatDoorRows
import Derived.Test.YtpbjodbcmaaheaaGreatDoorTie
import Derived.Test.YtpbjodbcmaaheaaGreatDoorCards
import Derived.WalkKit
import Derived.ProofKit
import Derived.OpenShut
import Derived.ShutString
import Derived.ChangeOld
import Derived.Below
import Derived.SevenTiedAt
import Derived.Test.YtpbjodbcmaaheaaGreatDoorLaid
import Derived.Test.YtpbjodbcmaaheaaGreatDoorHead
import Derived.Carry
import Derived.Deep.Cut
import Derived.Deep.CutRange
import Derived.Deep.RegionWith
import Derived.Deep.RegionHeld3
import Derived.Deep.LoopGhost
import Derived.Deep.QuietTactic
import Derived.BigQuiet
import Derived.Test.YtpbjodbcmaaheaaGreatDoorArgs9J
import Derived.Test.YtpbjodbcmaaheaaGreatDoorBegun9
import Derived.Test.YtpbjodbcmaaheaaGreatDoorBits9
import Derived.Test.YtpbjodbcmaaheaaGreatDoorBMath5
import Derived.Test.YtpbjodbcmaaheaaGreatDoorApp93
namespace Go.Proofs.YtpbjodbcmaaheaaGreatDoor.demandNone
open Go.ChangeShapes Go.WideShapes Go.ChangeAt Go.RowKit
open Go.ChangeMaps (open_string shut_string)
set_option linter.unusedVariables false

theorem own : ownKnob Tryz.prog.godebug = none := by kernel_rfl
theorem laidOut : laidOutB Tryz.prog = true := by kernel_rfl

set_option maxHeartbeats 8000000 in
set_option maxRecDepth 100000 in
theorem walk (xa0 xb0 xc0 : Int) (a1 : Int) (w : World) (hE : Env w) (x00 : (Lit.int .i64 xa0).wf = true) (x01 : (Lit.int .i64 xb0).wf = true) (x02 : (Lit.int .i64 xc0).wf = true) (w1 : (Lit.int .i64 a1).wf = true) :
    Calls Tryz.prog 16 #[.agg #[.int .i64 xa0, .int .i64 xb0, .int .i64 xc0], .int .i64 a1] w fun e w' => e = .returned (.bool true) ∧ Below w.heap.size w w' := by
  obtain ⟨i0, hi0, hz0, hz1, hz2⟩ := info_parts infoL
  obtain ⟨l1, h1⟩ := bounds_i64 w1
  have HE : Hid (Env w) := hE
  clear hE
  have P0 : Hid (Bx w w.heap.size #[.int .i64 xa0, .int .i64 xb0, .int .i64 xc0] 31 (w.alloc (.cells #[.int .i64 xa0, .int .i64 xb0, .int .i64 xc0] 31))) := Bx.alloc _ _ (Below.refl _ _)
  go_enter Tryz.func16, Tryz.ntmps16
  go_wp2_with fail
  refine (begun9_any _ (HE.out.below P0.out.bel)).mono ?_
  rintro e v1 ⟨rfl, g1⟩
  have P1 : Hid (Bx w w.heap.size #[.int .i64 xa0, .int .i64 xb0, .int .i64 xc0] 31 v1) := P0.out.below g1
  have G1 : Hid (Below w.heap.size w v1) := P1.out.bel
  clear g1 P0
  obtain ⟨D, hD⟩ : ∃ D, a1.tmod 30 = D := ⟨_, rfl⟩
  have m1 := T.t_lt a1 30 (by omega)
  rw [hD] at m1
  obtain ⟨m3, m4⟩ := m1
  obtain ⟨N, hN⟩ : ∃ N : Nat, (D + 30) % 30 = N := ⟨((D + 30) % 30).toNat, by omega⟩
  have n30 : N < 30 := by omega
  go_wp2_with fail
  simp only [hN]
  go_loopw [6, 7] (fun y i wr => ∃ (k : Nat) (a : Option Addr) (cap : Nat), k ≤ N ∧ i = .int .i64 k ∧ y = .slice a k cap ∧ OwnL wr v1.heap.size (.slice a k cap) (List.replicate k ⟨1, 200, 200⟩) ∧ Below v1.heap.size v1 wr) (fun _ i _ => N - (intOf i).toNat)
  case atStart => exact ⟨0, none, 0, Nat.zero_le _, rfl, rfl, OwnL.nil _ _, Below.refl _ _⟩
  case round =>
    obtain ⟨k, a, cap, hk, rfl, rfl, hO, hB⟩ := hrel
    have O : Hid (OwnL wr v1.heap.size (.slice a k cap) (List.replicate k ⟨1, 200, 200⟩)) := hO
    have B : Hid (Below v1.heap.size v1 wr) := hB
    have sz : v1.heap.size ≤ wr.heap.size := hB.size
    clear hO hB
    by_cases hlt : k < N
    · go_wp2_with (at_builtin; refine wpList_append_own_at _ rfl (.tmp 22) (.tmp 24) 22 rfl _ 31 i0 (.agg #[.int .i64 0, .int .i64 0, .int .i64 0]) 3 24 Tryz.underlying22 hi0 hz0 hz1 hz2 rfl (by decide) _ k (secC _) rfl (OwnL.row (O.out.below (balloc wr _)) (List.length_replicate)) ⟨wr.heap.size, 0, none⟩ 1 1 (secC [⟨1, 200, 200⟩]) rfl rfl (news_one _ _ _ _ _) (secC_one _) (by unfold maxLen; omega) (by omega) (by simp; omega) ?_; intro yy vv own gr nl at_; obtain ⟨a2, cap2, e, o2, g2⟩ := app_own O.out (List.length_replicate) sz own gr; subst e; have O2 : Hid (OwnL vv v1.heap.size (.slice a2 (k + 1) cap2) (List.replicate (k + 1) ⟨1, 200, 200⟩)) := (by unfold Hid; rw [← rep_succ]; exact o2); have B2 : Hid (Below v1.heap.size v1 vv) := B.out.trans g2; clear o2 g2; clear own gr nl at_)
      go_round
      case rel => exact ⟨k + 1, a2, cap2, by omega, by go_num, rfl, O2.out, B2.out⟩
      case measure => simp [intOf]; omega
    · obtain rfl : k = N := by omega
      have P2 : Hid (Bx w w.heap.size #[.int .i64 xa0, .int .i64 xb0, .int .i64 xc0] 31 wr) := P1.out.below B.out
      clear hlt hk
      by_cases hbig : 24 < k
      · have HF : Hid (fitB (List.replicate k ⟨1, 200, 200⟩) = false) := by unfold Hid; rw [many_fit]; simp; omega
        have HK : Hid (askV (List.replicate k ⟨1, 200, 200⟩) 1 = 0) := by unfold Hid; exact askV_bad (by rw [many_lds]; simp; omega)
        go_wp2_with fail
        refine (dfits_any _ (List.replicate k ⟨1, 200, 200⟩) _ O.out.secs (by simp; omega)).mono ?_
        rintro e v3 ⟨rfl, g3⟩
        rw [HF.out]
        have P3 : Hid (Bx w w.heap.size #[.int .i64 xa0, .int .i64 xb0, .int .i64 xc0] 31 v3) := P2.out.below g3
        have O3 : Hid (OwnL v3 v1.heap.size (.slice a k cap) (List.replicate k ⟨1, 200, 200⟩)) := O.out.below g3
        clear g3
        go_wp2_with fail
        refine (basked_any _ (List.replicate k ⟨1, 200, 200⟩) 1 _ O3.out.secs (by simp; omega)).mono ?_
        rintro e v4 ⟨rfl, g4⟩
        rw [HK.out]
        have P4 : Hid (Bx w w.heap.size #[.int .i64 xa0, .int .i64 xb0, .int .i64 xc0] 31 v4) := P3.out.below g4
        clear g4
        have q0 : v4.cell? ⟨w.heap.size, 0, none⟩ = some (.int .i64 xa0) := P4.out.blk.cell 0
        have q1 : v4.cell? ⟨w.heap.size, 1, none⟩ = some (.int .i64 xb0) := P4.out.blk.cell 1
        have q2 : v4.cell? ⟨w.heap.size, 2, none⟩ = some (.int .i64 xc0) := P4.out.blk.cell 2
        have ql : w.heap.size < v4.heap.size := P4.out.blk.lt
        have qn : ¬ w.heap.size = v4.heap.size := Nat.ne_of_lt ql
        cases hx : loadB xa0 xb0 xc0
        · have HXb : Hid (ldsB [⟨xa0, xb0, xc0⟩] = false) := one_bad hx
          go_wp2_with (first | (go_at_call 40; refine (b2i_no _ _ (by first | rfl | (simp; omega))).mono ?_; rintro e w0 ⟨rfl, hw0⟩; subst w0) | (go_at_call 35; go_loud (refine (rload_any _ _ _ _).mono ?_; rintro e v5 ⟨rfl, g5⟩; have P5 : Hid (Bx w w.heap.size #[.int .i64 xa0, .int .i64 xb0, .int .i64 xc0] 31 v5) := P4.out.below g5; have r0 : v5.cell? ⟨w.heap.size, 0, none⟩ = some (.int .i64 xa0) := P5.out.blk.cell 0; have r1 : v5.cell? ⟨w.heap.size, 1, none⟩ = some (.int .i64 xb0) := P5.out.blk.cell 1; have r2 : v5.cell? ⟨w.heap.size, 2, none⟩ = some (.int .i64 xc0) := P5.out.blk.cell 2; have rl : w.heap.size < v5.heap.size := P5.out.blk.lt; have rn : ¬ w.heap.size = v5.heap.size := Nat.ne_of_lt rl; clear g5)))
          refine (btime_any _ [⟨xa0, xb0, xc0⟩] _ (secs_one v5 xa0 xb0 xc0 _) (by simp)).mono ?_
          rintro e v6 ⟨rfl, g6⟩
          rw [(time_bad HXb.out).1, (time_bad HXb.out).2]
          have P6 : Hid (Bx w w.heap.size #[.int .i64 xa0, .int .i64 xb0, .int .i64 xc0] 31 v6) := (P5.out.below (balloc _ _)).below g6
          clear g6
          have s6_0 : v6.cell? ⟨w.heap.size, 0, none⟩ = some (.int .i64 xa0) := P6.out.blk.cell 0
          have s6_1 : v6.cell? ⟨w.heap.size, 1, none⟩ = some (.int .i64 xb0) := P6.out.blk.cell 1
          have s6_2 : v6.cell? ⟨w.heap.size, 2, none⟩ = some (.int .i64 xc0) := P6.out.blk.cell 2
          have s6_l : w.heap.size < v6.heap.size := P6.out.blk.lt
          have s6_n : ¬ w.heap.size = v6.heap.size := Nat.ne_of_lt s6_l
          go_wp2_with fail
          refine (dfits_any _ [⟨xa0, xb0, xc0⟩] _ (secs_one v6 xa0 xb0 xc0 _) (by simp)).mono ?_
          rintro e v7 ⟨rfl, g7⟩
          rw [fit_bad HXb.out]
          have P7 : Hid (Bx w w.heap.size #[.int .i64 xa0, .int .i64 xb0, .int .i64 xc0] 31 v7) := (P6.out.below (balloc _ _)).below g7
          clear g7
          have s7_0 : v7.cell? ⟨w.heap.size, 0, none⟩ = some (.int .i64 xa0) := P7.out.blk.cell 0
          have s7_1 : v7.cell? ⟨w.heap.size, 1, none⟩ = some (.int .i64 xb0) := P7.out.blk.cell 1
          have s7_2 : v7.cell? ⟨w.heap.size, 2, none⟩ = some (.int .i64 xc0) := P7.out.blk.cell 2
          have s7_l : w.heap.size < v7.heap.size := P7.out.blk.lt
          have s7_n : ¬ w.heap.size = v7.heap.size := Nat.ne_of_lt s7_l
          go_wp2_with fail
          refine (basked_any _ [⟨xa0, xb0, xc0⟩] 5 _ (secs_one v7 xa0 xb0 xc0 _) (by simp)).mono ?_
          rintro e v8 ⟨rfl, g8⟩
          rw [askV_bad HXb.out]
          have P8 : Hid (Bx w w.heap.size #[.int .i64 xa0, .int .i64 xb0, .int .i64 xc0] 31 v8) := (P7.out.below (balloc _ _)).below g8
          clear g8
          have s8_0 : v8.cell? ⟨w.heap.size, 0, none⟩ = some (.int .i64 xa0) := P8.out.blk.cell 0
          have s8_1 : v8.cell? ⟨w.heap.size, 1, none⟩ = some (.int .i64 xb0) := P8.out.blk.cell 1
          have s8_2 : v8.cell? ⟨w.heap.size, 2, none⟩ = some (.int .i64 xc0) := P8.out.blk.cell 2
          have s8_l : w.heap.size < v8.heap.size := P8.out.blk.lt
          have s8_n : ¬ w.heap.size = v8.heap.size := Nat.ne_of_lt s8_l
          go_wp2_with fail
          refine (dbnd_any _ [⟨xa0, xb0, xc0⟩] 5 _ (secs_one v8 xa0 xb0 xc0 _) (by simp)).mono ?_
          rintro e v9 ⟨rfl, g9⟩
          rw [dueV_bad HXb.out]
          have P9 : Hid (Bx w w.heap.size #[.int .i64 xa0, .int .i64 xb0, .int .i64 xc0] 31 v9) := (P8.out.below (balloc _ _)).below g9
          clear g9
          have s9_0 : v9.cell? ⟨w.heap.size, 0, none⟩ = some (.int .i64 xa0) := P9.out.blk.cell 0
          have s9_1 : v9.cell? ⟨w.heap.size, 1, none⟩ = some (.int .i64 xb0) := P9.out.blk.cell 1
          have s9_2 : v9.cell? ⟨w.heap.size, 2, none⟩ = some (.int .i64 xc0) := P9.out.blk.cell 2
          have s9_l : w.heap.size < v9.heap.size := P9.out.blk.lt
          have s9_n : ¬ w.heap.size = v9.heap.size := Nat.ne_of_lt s9_l
          go_wp2_with fail
          go_ret
          exact ⟨rfl, P9.out.bel⟩
        · have HXb : Hid (loadB xa0 xb0 xc0 = true) := hx
          go_wp2_with (first | (go_at_call 40; refine (b2i_no _ _ (by first | rfl | (simp; omega))).mono ?_; rintro e w0 ⟨rfl, hw0⟩; subst w0) | (go_at_call 35; go_loud (refine (rload_any _ _ _ _).mono ?_; rintro e v5 ⟨rfl, g5⟩; have P5 : Hid (Bx w w.heap.size #[.int .i64 xa0, .int .i64 xb0, .int .i64 xc0] 31 v5) := P4.out.below g5; have r0 : v5.cell? ⟨w.heap.size, 0, none⟩ = some (.int .i64 xa0) := P5.out.blk.cell 0; have r1 : v5.cell? ⟨w.heap.size, 1, none⟩ = some (.int .i64 xb0) := P5.out.blk.cell 1; have r2 : v5.cell? ⟨w.heap.size, 2, none⟩ = some (.int .i64 xc0) := P5.out.blk.cell 2; have rl : w.heap.size < v5.heap.size := P5.out.blk.lt; have rn : ¬ w.heap.size = v5.heap.size := Nat.ne_of_lt rl; clear g5)))
          go_ret
          exact ⟨rfl, P5.out.bel⟩
      · have HF : Hid (fitB (List.replicate k ⟨1, 200, 200⟩) = true) := by unfold Hid; rw [many_fit]; simp; omega
        have HK : Hid (askV (List.replicate k ⟨1, 200, 200⟩) 1 = (k : Int)) := by unfold Hid; rw [askV_is (by rw [many_lds]; simp; omega) (by omega) (by omega), many_ask]
        go_wp2_with fail
        refine (dfits_any _ (List.replicate k ⟨1, 200, 200⟩) _ O.out.secs (by simp; omega)).mono ?_
        rintro e v3 ⟨rfl, g3⟩
        rw [HF.out]
        have P3 : Hid (Bx w w.heap.size #[.int .i64 xa0, .int .i64 xb0, .int .i64 xc0] 31 v3) := P2.out.below g3
        have O3 : Hid (OwnL v3 v1.heap.size (.slice a k cap) (List.replicate k ⟨1, 200, 200⟩)) := O.out.below g3
        clear g3
        go_wp2_with fail
        refine (basked_any _ (List.replicate k ⟨1, 200, 200⟩) 1 _ O3.out.secs (by simp; omega)).mono ?_
        rintro e v4 ⟨rfl, g4⟩
        rw [HK.out]
        have P4 : Hid (Bx w w.heap.size #[.int .i64 xa0, .int .i64 xb0, .int .i64 xc0] 31 v4) := P3.out.below g4
        clear g4
        have q0 : v4.cell? ⟨w.heap.size, 0, none⟩ = some (.int .i64 xa0) := P4.out.blk.cell 0
        have q1 : v4.cell? ⟨w.heap.size, 1, none⟩ = some (.int .i64 xb0) := P4.out.blk.cell 1
        have q2 : v4.cell? ⟨w.heap.size, 2, none⟩ = some (.int .i64 xc0) := P4.out.blk.cell 2
        have ql : w.heap.size < v4.heap.size := P4.out.blk.lt
        have qn : ¬ w.heap.size = v4.heap.size := Nat.ne_of_lt ql
        cases hx : loadB xa0 xb0 xc0
        · have HXb : Hid (ldsB [⟨xa0, xb0, xc0⟩] = false) := one_bad hx
          go_wp2_with (first | (go_at_call 40; refine (b2i_yes _ _ (by first | rfl | (simp; omega))).mono ?_; rintro e w0 ⟨rfl, hw0⟩; subst w0) | (go_at_call 35; go_loud (refine (rload_any _ _ _ _).mono ?_; rintro e v5 ⟨rfl, g5⟩; have P5 : Hid (Bx w w.heap.size #[.int .i64 xa0, .int .i64 xb0, .int .i64 xc0] 31 v5) := P4.out.below g5; have r0 : v5.cell? ⟨w.heap.size, 0, none⟩ = some (.int .i64 xa0) := P5.out.blk.cell 0; have r1 : v5.cell? ⟨w.heap.size, 1, none⟩ = some (.int .i64 xb0) := P5.out.blk.cell 1; have r2 : v5.cell? ⟨w.heap.size, 2, none⟩ = some (.int .i64 xc0) := P5.out.blk.cell 2; have rl : w.heap.size < v5.heap.size := P5.out.blk.lt; have rn : ¬ w.heap.size = v5.heap.size := Nat.ne_of_lt rl; clear g5)))
          refine (btime_any _ [⟨xa0, xb0, xc0⟩] _ (secs_one v5 xa0 xb0 xc0 _) (by simp)).mono ?_
          rintro e v6 ⟨rfl, g6⟩
          rw [(time_bad HXb.out).1, (time_bad HXb.out).2]
          have P6 : Hid (Bx w w.heap.size #[.int .i64 xa0, .int .i64 xb0, .int .i64 xc0] 31 v6) := (P5.out.below (balloc _ _)).below g6
          clear g6
          have s6_0 : v6.cell? ⟨w.heap.size, 0, none⟩ = some (.int .i64 xa0) := P6.out.blk.cell 0
          have s6_1 : v6.cell? ⟨w.heap.size, 1, none⟩ = some (.int .i64 xb0) := P6.out.blk.cell 1
          have s6_2 : v6.cell? ⟨w.heap.size, 2, none⟩ = some (.int .i64 xc0) := P6.out.blk.cell 2
          have s6_l : w.heap.size < v6.heap.size := P6.out.blk.lt
          have s6_n : ¬ w.heap.size = v6.heap.size := Nat.ne_of_lt s6_l
          go_wp2_with fail
          refine (dfits_any _ [⟨xa0, xb0, xc0⟩] _ (secs_one v6 xa0 xb0 xc0 _) (by simp)).mono ?_
          rintro e v7 ⟨rfl, g7⟩
          rw [fit_bad HXb.out]
          have P7 : Hid (Bx w w.heap.size #[.int .i64 xa0, .int .i64 xb0, .int .i64 xc0] 31 v7) := (P6.out.below (balloc _ _)).below g7
          clear g7
          have s7_0 : v7.cell? ⟨w.heap.size, 0, none⟩ = some (.int .i64 xa0) := P7.out.blk.cell 0
          have s7_1 : v7.cell? ⟨w.heap.size, 1, none⟩ = some (.int .i64 xb0) := P7.out.blk.cell 1
          have s7_2 : v7.cell? ⟨w.heap.size, 2, none⟩ = some (.int .i64 xc0) := P7.out.blk.cell 2
          have s7_l : w.heap.size < v7.heap.size := P7.out.blk.lt
          have s7_n : ¬ w.heap.size = v7.heap.size := Nat.ne_of_lt s7_l
          go_wp2_with fail
          refine (basked_any _ [⟨xa0, xb0, xc0⟩] 5 _ (secs_one v7 xa0 xb0 xc0 _) (by simp)).mono ?_
          rintro e v8 ⟨rfl, g8⟩
          rw [askV_bad HXb.out]
          have P8 : Hid (Bx w w.heap.size #[.int .i64 xa0, .int .i64 xb0, .int .i64 xc0] 31 v8) := (P7.out.below (balloc _ _)).below g8
          clear g8
          have s8_0 : v8.cell? ⟨w.heap.size, 0, none⟩ = some (.int .i64 xa0) := P8.out.blk.cell 0
          have s8_1 : v8.cell? ⟨w.heap.size, 1, none⟩ = some (.int .i64 xb0) := P8.out.blk.cell 1
          have s8_2 : v8.cell? ⟨w.heap.size, 2, none⟩ = some (.int .i64 xc0) := P8.out.blk.cell 2
          have s8_l : w.heap.size < v8.heap.size := P8.out.blk.lt
          have s8_n : ¬ w.heap.size = v8.heap.size := Nat.ne_of_lt s8_l
          go_wp2_with fail
          refine (dbnd_any _ [⟨xa0, xb0, xc0⟩] 5 _ (secs_one v8 xa0 xb0 xc0 _) (by simp)).mono ?_
          rintro e v9 ⟨rfl, g9⟩
          rw [dueV_bad HXb.out]
          have P9 : Hid (Bx w w.heap.size #[.int .i64 xa0, .int .i64 xb0, .int .i64 xc0] 31 v9) := (P8.out.below (balloc _ _)).below g9
          clear g9
          have s9_0 : v9.cell? ⟨w.heap.size, 0, none⟩ = some (.int .i64 xa0) := P9.out.blk.cell 0
          have s9_1 : v9.cell? ⟨w.heap.size, 1, none⟩ = some (.int .i64 xb0) := P9.out.blk.cell 1
          have s9_2 : v9.cell? ⟨w.heap.size, 2, none⟩ = some (.int .i64 xc0) := P9.out.blk.cell 2
          have s9_l : w.heap.size < v9.heap.size := P9.out.blk.lt
          have s9_n : ¬ w.heap.size = v9.heap.size := Nat.ne_of_lt s9_l
          go_wp2_with fail
          go_ret
          exact ⟨rfl, P9.out.bel⟩
        · have HXb : Hid (loadB xa0 xb0 xc0 = true) := hx
          go_wp2_with (first | (go_at_call 40; refine (b2i_yes _ _ (by first | rfl | (simp; omega))).mono ?_; rintro e w0 ⟨rfl, hw0⟩; subst w0) | (go_at_call 35; go_loud (refine (rload_any _ _ _ _).mono ?_; rintro e v5 ⟨rfl, g5⟩; have P5 : Hid (Bx w w.heap.size #[.int .i64 xa0, .int .i64 xb0, .int .i64 xc0] 31 v5) := P4.out.below g5; have r0 : v5.cell? ⟨w.heap.size, 0, none⟩ = some (.int .i64 xa0) := P5.out.blk.cell 0; have r1 : v5.cell? ⟨w.heap.size, 1, none⟩ = some (.int .i64 xb0) := P5.out.blk.cell 1; have r2 : v5.cell? ⟨w.heap.size, 2, none⟩ = some (.int .i64 xc0) := P5.out.blk.cell 2; have rl : w.heap.size < v5.heap.size := P5.out.blk.lt; have rn : ¬ w.heap.size = v5.heap.size := Nat.ne_of_lt rl; clear g5)))
          go_ret
          exact ⟨rfl, P5.out.bel⟩

set_option maxRecDepth 100000 in
theorem lifted (os : Os) (started : os.Started) (H : Type) (enc : TypeId × Value → H) :
    ReturnsInHanded {} Tryz.checked os 16 .any (fun w args => (Rows.demandNoneSpec.pre enc Tryz.prog Tryz.f16 [] false w args ∧ laidMetH Tryz.prog laid5 w) ∧ sizedMet enc Tryz.prog Tryz.f16 (OpenSpec.ofChange Rows.demandNoneSpec) false w args)
      (Rows.demandNoneSpec.post enc Tryz.prog Tryz.f16 false true false false) := by
  refine returnsInHanded_of_change_and (C := Tryz.checked) (X := fun w _ => laidMetH Tryz.prog laid5 w) (fun _ _ _ hh h => h.of_heap hh) own started (by kernel_rfl) Tryz.func16
    (ChangeSpec.witness_shaped (enc := enc) (C := Tryz.checked) (os := os) (X := fun w _ => laidMetH Tryz.prog laid5 w) false (World.doorLaid Tryz.prog 62 os) #[.agg #[.int .i64 0, .int .i64 0, .int .i64 0], .int .i64 0] 8 rfl (World.shaped_of_RefB (by kernel_rfl) (by kernel_rfl)) (by kernel_rfl) (by kernel_rfl) (by kernel_rfl) (door_met os _)) ?_
  intro W base args ds gs before hval0 hW _ _ hL _
  have hval : ∀ (j : Nat) t v, Tryz.f16.params[j]? = some t → args[j]? = some v → Value.okWide Tryz.prog W .any base t v := hval0
  have hW' := hW
  obtain ⟨p, q, hA0, hV, rfl, hfz, hnd⟩ := hW
  have hA : DataW.TrodAll enc Tryz.prog W 0 (fun _ => true) true Tryz.f16.params.toList args.toList ds p := hA0
  rw [Tryz.params16] at hA hval
  obtain ⟨v0, vs0, d0, ds0, p0, q0, hargs, rfl, rfl, h0, r0⟩ := trodAll_cons hA
  obtain ⟨v1, vs1, d1, ds1, p1, q1, rfl, rfl, rfl, h1, r1⟩ := trodAll_cons r0
  obtain ⟨rfl, rfl, rfl⟩ := trodAll_nil r1
  obtain rfl : args = #[v0, v1] := by cases args; simp_all
  obtain ⟨rfl, rfl⟩ := trodVars_none hV
  have k0 := h0
  have lt0 : ∀ x ∈ p0, x.block < W.heap.size := by obtain ⟨m, hm⟩ := k0; exact DataW.trod_lt m _ _ _ hm
  obtain ⟨xa0, xb0, xc0, rfl, x00, x01, x02⟩ := open_load9 (hval 0 31 v0 rfl rfl) h0
  obtain ⟨a1, rfl, rfl, rfl, w1⟩ := open_int Tryz.underlying3 (hval 1 3 v1 rfl rfl) h1
  clear hA0 hval0
  simp only [List.append_nil] at hW'
  refine (walk xa0 xb0 xc0 a1 W (env_of_laid hL) x00 x01 x02 w1).mono fun e W' ⟨he, bel⟩ => ?_
  subst he
  exact ⟨_, rfl, _, _, _, [], _, [], hW', trodAll_mk1 (shut_bool Tryz.underlying4 _), (trodAll_cons_mk (Below.trod laidOut (by kernel_rfl) (of_decide_eq_true (by kernel_rfl)) k0 bel lt0) (trodAll_cons_mk (shut_int Tryz.underlying3 w1) trodAll_mk0)), rfl, bel.frame _, fun h => by cases h⟩

theorem closed : joinedFacts Tryz.pinned.checked.prog 16 Tryz.f16 Rows.demandNoneSpec Rows.demandNoneRow = true := by
  generalize hP : Tryz.pinned.checked.prog = P
  simp only [joinedFacts, Bool.and_eq_true]
  subst hP
  refine ⟨⟨⟨⟨⟨⟨⟨⟨⟨⟨⟨⟨⟨⟨⟨⟨⟨⟨⟨⟨⟨⟨⟨⟨⟨⟨⟨⟨⟨⟨⟨?k1, ?k2⟩, ?k3⟩, ?k4⟩, ?k5⟩, ?k6⟩, ?k7⟩, ?k8⟩, ?k9⟩, ?k10⟩, ?k11⟩, ?k12⟩, ?k13⟩, ?k14⟩, ?k15⟩, ?k16⟩, ?k17⟩, ?k18⟩, ?k19⟩, ?k20⟩, ?k21⟩, ?k22⟩, ?k23⟩, ?k24⟩, ?k25⟩, ?k26⟩, ?k27⟩, ?k28⟩, ?k29⟩, ?k30⟩, ?k31⟩, ?k32⟩
  case k26 => exact head_enter
  case k27 => show (false == Tryz.prog.liftsFinal) = true; rw [head_lifts]; rfl
  case k28 => exact head_make
  all_goals kernel_rfl
theorem over : Rows.demandNoneRow.holds Tryz.pinned (OpenSpec.ofChange Rows.demandNoneSpec) :=
  OpenClaim.holds_of_wide 16 Tryz.f16 rfl rfl rfl rfl rfl rfl rfl ⟨rfl, rfl, rfl, rfl, rfl⟩ rfl rfl rfl rfl rfl (by kernel_rfl) Tryz.func16 closed
    (of_decide_eq_true (by kernel_rfl)) (by unfold Func.isWrapper; first | (rw [if_pos (by decide +kernel)]; kernel_rfl) | (rw [if_neg (by decide +kernel)]; exact ⟨rfl, rfl⟩))
    (fun os started H enc _ => lifted os started H enc)

theorem proved : Rows.DemandNoneCardSaid :=
  Claim7.holds_tied_plain_at .later [] [.data, .data, .data, .sentinel, .sentinel] true (true, "5593ad2a5a772f8be195e0fe692033ff87e224b9e1f3bacf87f13d01f91435b9") true
    over (fun _ h => by cases h) (by kernel_rfl) (fun _ h => by cases h) demandNone_row_tie rfl ⟨rfl, rfl⟩ head_main rfl
    (fun f fn hf hfn => by
      obtain rfl : f = 16 := Option.some.inj ((show Tryz.prog.funcNamed "hortator/hortatorlaw9.DemandNone" = some 16 by kernel_rfl).symm.trans hf) |>.symm
      obtain rfl : fn = Tryz.f16 := (Option.some.inj (Tryz.func16.symm.trans hfn)).symm
      exact ⟨by kernel_rfl, fun j t ht => by
        rw [Tryz.params16] at ht
        match j, ht with
        | 0, ht => obtain rfl : t = 31 := by simpa using ht.symm
                   exact (show Tryz.prog.wantsStandIn 31 = false by kernel_rfl)
        | 1, ht => obtain rfl : t = 3 := by simpa using ht.symm
                   exact (show Tryz.prog.wantsStandIn 3 = false by kernel_rfl)
        | (_ + 2), ht => simp at ht⟩)
    (by kernel_rfl)
end Go.Proofs.YtpbjodbcmaaheaaGreatDoor.demandNone
