/-
PROVED: the statement hortatorlaw9.DemandFull answers true over the landed packages: loads that ask for all of a core, each within its distance: they fit.
  CONDITIONS: the listed variables of strconv and math/bits hold what the program's text lays (the card ties them).
-/
import Derived.Test.YtpbjodbcmaaheaaGreatDoorRows
import Derived.Test.YtpbjodbcmaaheaaGreatDoorTie
import Derived.Test.YtpbjodbcmaaheaaGreatDoorCards
import Derived.WalkKit
import Derived.ProofKit
import Derived.OpenShut
import Derived.ShutString
import Derived.ChangeOld
import Derived.Below
import Derived.SevenTiedAt
import Derived.Test.YtpbjodbcmaaheaaGreatDoorLaid
import Derived.Test.YtpbjodbcmaaheaaGreatDoorHead
import Derived.Carry
import Derived.Deep.Cut
import Derived.Deep.CutRange
import Derived.Deep.RegionWith
import Derived.Deep.RegionHeld3
import Derived.Deep.LoopGhost
import Derived.Deep.QuietTactic
import Derived.BigQuiet
import Derived.Test.YtpbjodbcmaaheaaGreatDoorArgs9J
import Derived.Test.YtpbjodbcmaaheaaGreatDoorBegun9
import Derived.Test.YtpbjodbcmaaheaaGreatDoorBits9
import Derived.Test.YtpbjodbcmaaheaaGreatDoorBMath5
import Derived.Test.YtpbjodbcmaaheaaGreatDoorApp95
namespace Go.Proofs.YtpbjodbcmaaheaaGreatDoor.demandFull
open Go.ChangeShapes Go.WideShapes Go.ChangeAt Go.RowKit
open Go.ChangeMaps (open_string shut_string)
set_option linter.unusedVariables false

theorem own : ownKnob Tryz.prog.godebug = none := by kernel_rfl
theorem laidOut : laidOutB Tryz.prog = true := by kernel_rfl

set_option maxHeartbeats 8000000 in
set_option maxRecDepth 100000 in
theorem walk (s0 : Option Addr) (n0 m0 : Nat) (z0 : List Int) (a1 : Int) (w : World) (hE : Env w) (w0 : ANums w s0 n0 z0) (w1 : (Lit.int .i64 a1).wf = true) :
    Calls Tryz.prog 14 #[.slice s0 n0 m0, .int .i64 a1] w fun e w' => e = .returned (.bool true) ∧ Below w.heap.size w w' := by
  obtain ⟨i0, hi0, hz0, hz1, hz2⟩ := info_parts infoL
  obtain ⟨l1, h1⟩ := bounds_i64 w1
  have HE : Hid (Env w) := hE
  clear hE
  go_enter Tryz.func14, Tryz.ntmps14
  go_wp2_with fail
  refine (begun9_any w HE.out).mono ?_
  rintro e v1 ⟨rfl, g1⟩
  have G1 : Hid (Below w.heap.size w v1) := g1
  clear g1
  have HN : Hid (ANums w s0 n0 z0) := w0
  clear w0
  have n63 : n0 ≤ 9223372036854775807 := HN.out.2.1
  obtain ⟨t, ht⟩ : ∃ t, 2 + a1 % 64 = t := ⟨_, rfl⟩
  have t1 : 2 ≤ t ∧ t ≤ 65 := by omega
  obtain ⟨t2, t3⟩ := t1
  have e1 := and63 a1
  go_wp2_with fail
  go_loopw [6, 7, 8] (fun lf y i wr => ∃ (k : Nat) (left : Int) (a : Option Addr) (cap : Nat) (ls : List Sec), k ≤ 9 ∧ k ≤ n0 ∧ i = .int .i64 k ∧ lf = .int .i64 left ∧ 0 ≤ left ∧ left ≤ t ∧ y = .slice a k cap ∧ Hid (Full ls t left k) ∧ OwnL wr v1.heap.size (.slice a k cap) ls ∧ Below v1.heap.size v1 wr) (fun _ _ i _ => 9 - (intOf i).toNat)
  case atStart => exact ⟨0, t, none, 0, [], by omega, Nat.zero_le _, rfl, rfl, by omega, by omega, rfl, Full.nil t, OwnL.nil _ _, Below.refl _ _⟩
  case round =>
    obtain ⟨k, left, a, cap, ls, k1, k2, rfl, rfl, f1, f2, rfl, HF, hO, hB⟩ := hrel
    have O : Hid (OwnL wr v1.heap.size (.slice a k cap) ls) := hO
    have B : Hid (Below v1.heap.size v1 wr) := hB
    have sz : v1.heap.size ≤ wr.heap.size := hB.size
    have G2 : Hid (Below w.heap.size w wr) := btrans G1.out hB
    clear hO hB
    by_cases c1 : k < n0
    · by_cases c2 : k < 9
      · by_cases c3 : 1 < left
        · obtain ⟨y, hy⟩ : ∃ y, z0[k]? = some y := ⟨_, List.getElem?_eq_getElem (by rw [HN.out.1]; exact c1)⟩
          obtain ⟨x, hx, hc, -⟩ := (HN.out.below G2.out).2.2 k y hy
          subst hx
          clear hy
          have e2 := and63 y
          obtain ⟨q, hq⟩ : ∃ q, y % 64 = q := ⟨_, rfl⟩
          have q0 : 0 ≤ q := by omega
          have q1 : q ≤ 63 := by omega
          rw [hq] at e2
          obtain ⟨r, hr⟩ : ∃ r, q % left = r := ⟨_, rfl⟩
          have r0 : 0 ≤ r := by rw [← hr]; exact Int.emod_nonneg _ (by omega)
          have r1 : r < left := by rw [← hr]; exact Int.emod_lt_of_pos _ (by omega)
          have lz : (left == 0) = false := by simp; omega
          clear hq
          go_wp2_with (at_builtin; refine wpList_append_own_at _ rfl (.tmp 42) (.tmp 47) 22 rfl _ 31 i0 (.agg #[.int .i64 0, .int .i64 0, .int .i64 0]) 3 24 Tryz.underlying22 hi0 hz0 hz1 hz2 rfl (by decide) _ k (secC _) rfl (OwnL.row (O.out.below (balloc wr _)) HF.out.len) ⟨wr.heap.size, 0, none⟩ 1 1 (secC [⟨1 + r, t, t⟩]) rfl rfl (news_one _ _ _ _ _) (secC_one _) (by unfold maxLen; omega) (by omega) (by simp; omega) ?_; intro yy vv own gr nl at_; obtain ⟨a2, cap2, e, o2, g2⟩ := app_own O.out HF.out.len sz own gr; subst e; have O2 : Hid (OwnL vv v1.heap.size (.slice a2 (k + 1) cap2) (ls ++ [⟨1 + r, t, t⟩])) := o2; have B2 : Hid (Below v1.heap.size v1 vv) := B.out.trans g2; clear o2 g2; clear own gr nl at_)
          go_round
          case rel => exact ⟨k + 1, left - (1 + r), a2, cap2, _, by omega, by omega, by go_num, rfl, by omega, by omega, rfl, HF.out.snoc (by omega) (by omega), O2.out, B2.out⟩
          case measure => simp [intOf]; omega
        · by_cases hl0 : 0 < left
          · go_wp2_with (at_builtin; refine wpList_append_own_at _ rfl (.tmp 54) (.tmp 59) 22 rfl _ 31 i0 (.agg #[.int .i64 0, .int .i64 0, .int .i64 0]) 3 24 Tryz.underlying22 hi0 hz0 hz1 hz2 rfl (by decide) _ k (secC _) rfl (OwnL.row (O.out.below (balloc wr _)) HF.out.len) ⟨wr.heap.size, 0, none⟩ 1 1 (secC [⟨left, t, t⟩]) rfl rfl (news_one _ _ _ _ _) (secC_one _) (by unfold maxLen; omega) (by omega) (by simp; omega) ?_; intro yy vv own gr nl at_; obtain ⟨a2, cap2, e, o2, g2⟩ := app_own O.out HF.out.len sz own gr; subst e; have O2 : Hid (OwnL vv v1.heap.size (.slice a2 (k + 1) cap2) (ls ++ [⟨left, t, t⟩])) := o2; have G4 : Hid (Below w.heap.size w vv) := btrans G1.out (B.out.trans g2); clear o2 g2; clear own gr nl at_)
            have HF2 : Hid (Full (ls ++ [⟨left, t, t⟩]) t 0 (k + 1)) := by have := HF.out.snoc (c := left) (by omega) (by omega); rw [show left - left = 0 by omega] at this; exact this
            have U := HF2.out.fits (by omega) t2 (by omega)
            have V : Hid (fitB (ls ++ [⟨left, t, t⟩] ++ [⟨1, t, t⟩]) = false) := HF2.out.over (by omega) t2 (by omega)
            have U1 : Hid (fitB (ls ++ [⟨left, t, t⟩]) = true) := U.1
            have U2 : Hid (tOk (ls ++ [⟨left, t, t⟩]) = true) := U.2.1
            have U3 : Hid (tN (ls ++ [⟨left, t, t⟩]) = t) := U.2.2.1
            have U4 : Hid (dueV (ls ++ [⟨left, t, t⟩]) t = t) := U.2.2.2
            clear U
            go_wp2_with fail
            refine (btime_any _ (ls ++ [⟨left, t, t⟩]) _ O2.out.secs (by rw [HF2.out.len]; omega)).mono ?_
            rintro e v5 ⟨rfl, g5⟩
            rw [U2.out, U3.out]
            have G5 : Hid (Below w.heap.size w v5) := btrans G4.out g5
            have C5 : Hid (Cop9 v5 v1.heap.size a2 (k + 1) cap2 (ls ++ [⟨left, t, t⟩])) := (Cop9.ofOwn O2.out HF2.out.len).below g5
            clear g5
            go_wp2_with (first | (go_at_call 24; refine (lloads_new a2 (k + 1) cap2 _ (ls ++ [⟨left, t, t⟩]) _ C5.out (by omega)).mono ?_; rintro e u ⟨bb, kk, rfl, d, g⟩; have D : Hid (Cop9 u v5.heap.size bb (k + 1) kk (ls ++ [⟨left, t, t⟩]) ∧ Below v5.heap.size v5 u) := ⟨d, g⟩; clear d g) | (at_builtin; refine wpList_append_own_at _ rfl (.tmp 67) (.tmp 71) 22 rfl _ 31 i0 (.agg #[.int .i64 0, .int .i64 0, .int .i64 0]) 3 24 Tryz.underlying22 hi0 hz0 hz1 hz2 rfl (by decide) _ (k + 1) (secC (ls ++ [⟨left, t, t⟩])) rfl (OwnL.row (D.out.1.own.below (balloc u _)) D.out.1.len) ⟨u.heap.size, 0, none⟩ 1 1 (secC [⟨1, t, t⟩]) rfl rfl (news_one _ _ _ _ _) (secC_one _) (by unfold maxLen; omega) (by omega) (by have := D.out.2.size; simp; omega) ?_; intro yy v6 own gr nl at_; obtain ⟨am, capm, e, cm, g6⟩ := app_end D.out.1 D.out.2 own gr; subst e; have E6 : Hid (Cop9 v6 v5.heap.size am ((k + 1) + 1) capm (ls ++ [⟨left, t, t⟩] ++ [⟨1, t, t⟩])) := cm; have G6 : Hid (Below w.heap.size w v6) := btrans G5.out g6; have C6 : Hid (Cop9 v6 v1.heap.size a2 (k + 1) cap2 (ls ++ [⟨left, t, t⟩])) := C5.out.below g6; clear own gr nl at_ cm g6))
            go_wp2_with fail
            refine (dfits_any _ (ls ++ [⟨left, t, t⟩]) _ C6.out.sec (by rw [C6.out.len]; omega)).mono ?_
            rintro e v7 ⟨rfl, g7⟩
            rw [U1.out]
            have G7 : Hid (Below w.heap.size w v7) := btrans G6.out g7
            have C7 : Hid (Cop9 v7 v1.heap.size a2 (k + 1) cap2 (ls ++ [⟨left, t, t⟩])) := C6.out.below g7
            have E7 : Hid (Cop9 v7 v5.heap.size am ((k + 1) + 1) capm (ls ++ [⟨left, t, t⟩] ++ [⟨1, t, t⟩])) := E6.out.below g7
            clear g7
            go_wp2_with fail
            refine (dbnd_any _ (ls ++ [⟨left, t, t⟩]) t _ C7.out.sec (by rw [C7.out.len]; omega)).mono ?_
            rintro e v8 ⟨rfl, g8⟩
            rw [U4.out]
            have G8 : Hid (Below w.heap.size w v8) := btrans G7.out g8
            have C8 : Hid (Cop9 v8 v1.heap.size a2 (k + 1) cap2 (ls ++ [⟨left, t, t⟩])) := C7.out.below g8
            have E8 : Hid (Cop9 v8 v5.heap.size am ((k + 1) + 1) capm (ls ++ [⟨left, t, t⟩] ++ [⟨1, t, t⟩])) := E7.out.below g8
            clear g8
            go_wp2_with fail
            refine (dfits_any _ (ls ++ [⟨left, t, t⟩] ++ [⟨1, t, t⟩]) _ E8.out.sec (by rw [E8.out.len]; omega)).mono ?_
            rintro e v9 ⟨rfl, g9⟩
            rw [V.out]
            have G9 : Hid (Below w.heap.size w v9) := btrans G8.out g9
            have C9 : Hid (Cop9 v9 v1.heap.size a2 (k + 1) cap2 (ls ++ [⟨left, t, t⟩])) := C8.out.below g9
            have E9 : Hid (Cop9 v9 v5.heap.size am ((k + 1) + 1) capm (ls ++ [⟨left, t, t⟩] ++ [⟨1, t, t⟩])) := E8.out.below g9
            clear g9
            go_wp2_with fail
            go_ret
            exact ⟨ret_bool (by simp), G9.out⟩
          · obtain rfl : left = 0 := by omega
            have G4 : Hid (Below w.heap.size w wr) := G2.out
            have U := HF.out.fits (by omega) t2 (by omega)
            have V : Hid (fitB (ls ++ [⟨1, t, t⟩]) = false) := HF.out.over (by omega) t2 (by omega)
            have U1 : Hid (fitB (ls) = true) := U.1
            have U2 : Hid (tOk (ls) = true) := U.2.1
            have U3 : Hid (tN (ls) = t) := U.2.2.1
            have U4 : Hid (dueV (ls) t = t) := U.2.2.2
            clear U
            go_wp2_with fail
            refine (btime_any _ (ls) _ O.out.secs (by rw [HF.out.len]; omega)).mono ?_
            rintro e v5 ⟨rfl, g5⟩
            rw [U2.out, U3.out]
            have G5 : Hid (Below w.heap.size w v5) := btrans G4.out g5
            have C5 : Hid (Cop9 v5 v1.heap.size a k cap (ls)) := (Cop9.ofOwn O.out HF.out.len).below g5
            clear g5
            go_wp2_with (first | (go_at_call 24; refine (lloads_new a k cap _ (ls) _ C5.out (by omega)).mono ?_; rintro e u ⟨bb, kk, rfl, d, g⟩; have D : Hid (Cop9 u v5.heap.size bb k kk (ls) ∧ Below v5.heap.size v5 u) := ⟨d, g⟩; clear d g) | (at_builtin; refine wpList_append_own_at _ rfl (.tmp 67) (.tmp 71) 22 rfl _ 31 i0 (.agg #[.int .i64 0, .int .i64 0, .int .i64 0]) 3 24 Tryz.underlying22 hi0 hz0 hz1 hz2 rfl (by decide) _ k (secC (ls)) rfl (OwnL.row (D.out.1.own.below (balloc u _)) D.out.1.len) ⟨u.heap.size, 0, none⟩ 1 1 (secC [⟨1, t, t⟩]) rfl rfl (news_one _ _ _ _ _) (secC_one _) (by unfold maxLen; omega) (by omega) (by have := D.out.2.size; simp; omega) ?_; intro yy v6 own gr nl at_; obtain ⟨am, capm, e, cm, g6⟩ := app_end D.out.1 D.out.2 own gr; subst e; have E6 : Hid (Cop9 v6 v5.heap.size am (k + 1) capm (ls ++ [⟨1, t, t⟩])) := cm; have G6 : Hid (Below w.heap.size w v6) := btrans G5.out g6; have C6 : Hid (Cop9 v6 v1.heap.size a k cap (ls)) := C5.out.below g6; clear own gr nl at_ cm g6))
            go_wp2_with fail
            refine (dfits_any _ (ls) _ C6.out.sec (by rw [C6.out.len]; omega)).mono ?_
            rintro e v7 ⟨rfl, g7⟩
            rw [U1.out]
            have G7 : Hid (Below w.heap.size w v7) := btrans G6.out g7
            have C7 : Hid (Cop9 v7 v1.heap.size a k cap (ls)) := C6.out.below g7
            have E7 : Hid (Cop9 v7 v5.heap.size am (k + 1) capm (ls ++ [⟨1, t, t⟩])) := E6.out.below g7
            clear g7
            go_wp2_with fail
            refine (dbnd_any _ (ls) t _ C7.out.sec (by rw [C7.out.len]; omega)).mono ?_
            rintro e v8 ⟨rfl, g8⟩
            rw [U4.out]
            have G8 : Hid (Below w.heap.size w v8) := btrans G7.out g8
            have C8 : Hid (Cop9 v8 v1.heap.size a k cap (ls)) := C7.out.below g8
            have E8 : Hid (Cop9 v8 v5.heap.size am (k + 1) capm (ls ++ [⟨1, t, t⟩])) := E7.out.below g8
            clear g8
            go_wp2_with fail
            refine (dfits_any _ (ls ++ [⟨1, t, t⟩]) _ E8.out.sec (by rw [E8.out.len]; omega)).mono ?_
            rintro e v9 ⟨rfl, g9⟩
            rw [V.out]
            have G9 : Hid (Below w.heap.size w v9) := btrans G8.out g9
            have C9 : Hid (Cop9 v9 v1.heap.size a k cap (ls)) := C8.out.below g9
            have E9 : Hid (Cop9 v9 v5.heap.size am (k + 1) capm (ls ++ [⟨1, t, t⟩])) := E8.out.below g9
            clear g9
            go_wp2_with fail
            go_ret
            exact ⟨ret_bool (by simp), G9.out⟩
      · by_cases hl0 : 0 < left
        · go_wp2_with (at_builtin; refine wpList_append_own_at _ rfl (.tmp 54) (.tmp 59) 22 rfl _ 31 i0 (.agg #[.int .i64 0, .int .i64 0, .int .i64 0]) 3 24 Tryz.underlying22 hi0 hz0 hz1 hz2 rfl (by decide) _ k (secC _) rfl (OwnL.row (O.out.below (balloc wr _)) HF.out.len) ⟨wr.heap.size, 0, none⟩ 1 1 (secC [⟨left, t, t⟩]) rfl rfl (news_one _ _ _ _ _) (secC_one _) (by unfold maxLen; omega) (by omega) (by simp; omega) ?_; intro yy vv own gr nl at_; obtain ⟨a2, cap2, e, o2, g2⟩ := app_own O.out HF.out.len sz own gr; subst e; have O2 : Hid (OwnL vv v1.heap.size (.slice a2 (k + 1) cap2) (ls ++ [⟨left, t, t⟩])) := o2; have G4 : Hid (Below w.heap.size w vv) := btrans G1.out (B.out.trans g2); clear o2 g2; clear own gr nl at_)
          have HF2 : Hid (Full (ls ++ [⟨left, t, t⟩]) t 0 (k + 1)) := by have := HF.out.snoc (c := left) (by omega) (by omega); rw [show left - left = 0 by omega] at this; exact this
          have U := HF2.out.fits (by omega) t2 (by omega)
          have V : Hid (fitB (ls ++ [⟨left, t, t⟩] ++ [⟨1, t, t⟩]) = false) := HF2.out.over (by omega) t2 (by omega)
          have U1 : Hid (fitB (ls ++ [⟨left, t, t⟩]) = true) := U.1
          have U2 : Hid (tOk (ls ++ [⟨left, t, t⟩]) = true) := U.2.1
          have U3 : Hid (tN (ls ++ [⟨left, t, t⟩]) = t) := U.2.2.1
          have U4 : Hid (dueV (ls ++ [⟨left, t, t⟩]) t = t) := U.2.2.2
          clear U
          go_wp2_with fail
          refine (btime_any _ (ls ++ [⟨left, t, t⟩]) _ O2.out.secs (by rw [HF2.out.len]; omega)).mono ?_
          rintro e v5 ⟨rfl, g5⟩
          rw [U2.out, U3.out]
          have G5 : Hid (Below w.heap.size w v5) := btrans G4.out g5
          have C5 : Hid (Cop9 v5 v1.heap.size a2 (k + 1) cap2 (ls ++ [⟨left, t, t⟩])) := (Cop9.ofOwn O2.out HF2.out.len).below g5
          clear g5
          go_wp2_with (first | (go_at_call 24; refine (lloads_new a2 (k + 1) cap2 _ (ls ++ [⟨left, t, t⟩]) _ C5.out (by omega)).mono ?_; rintro e u ⟨bb, kk, rfl, d, g⟩; have D : Hid (Cop9 u v5.heap.size bb (k + 1) kk (ls ++ [⟨left, t, t⟩]) ∧ Below v5.heap.size v5 u) := ⟨d, g⟩; clear d g) | (at_builtin; refine wpList_append_own_at _ rfl (.tmp 67) (.tmp 71) 22 rfl _ 31 i0 (.agg #[.int .i64 0, .int .i64 0, .int .i64 0]) 3 24 Tryz.underlying22 hi0 hz0 hz1 hz2 rfl (by decide) _ (k + 1) (secC (ls ++ [⟨left, t, t⟩])) rfl (OwnL.row (D.out.1.own.below (balloc u _)) D.out.1.len) ⟨u.heap.size, 0, none⟩ 1 1 (secC [⟨1, t, t⟩]) rfl rfl (news_one _ _ _ _ _) (secC_one _) (by unfold maxLen; omega) (by omega) (by have := D.out.2.size; simp; omega) ?_; intro yy v6 own gr nl at_; obtain ⟨am, capm, e, cm, g6⟩ := app_end D.out.1 D.out.2 own gr; subst e; have E6 : Hid (Cop9 v6 v5.heap.size am ((k + 1) + 1) capm (ls ++ [⟨left, t, t⟩] ++ [⟨1, t, t⟩])) := cm; have G6 : Hid (Below w.heap.size w v6) := btrans G5.out g6; have C6 : Hid (Cop9 v6 v1.heap.size a2 (k + 1) cap2 (ls ++ [⟨left, t, t⟩])) := C5.out.below g6; clear own gr nl at_ cm g6))
          go_wp2_with fail
          refine (dfits_any _ (ls ++ [⟨left, t, t⟩]) _ C6.out.sec (by rw [C6.out.len]; omega)).mono ?_
          rintro e v7 ⟨rfl, g7⟩
          rw [U1.out]
          have G7 : Hid (Below w.heap.size w v7) := btrans G6.out g7
          have C7 : Hid (Cop9 v7 v1.heap.size a2 (k + 1) cap2 (ls ++ [⟨left, t, t⟩])) := C6.out.below g7
          have E7 : Hid (Cop9 v7 v5.heap.size am ((k + 1) + 1) capm (ls ++ [⟨left, t, t⟩] ++ [⟨1, t, t⟩])) := E6.out.below g7
          clear g7
          go_wp2_with fail
          refine (dbnd_any _ (ls ++ [⟨left, t, t⟩]) t _ C7.out.sec (by rw [C7.out.len]; omega)).mono ?_
          rintro e v8 ⟨rfl, g8⟩
          rw [U4.out]
          have G8 : Hid (Below w.heap.size w v8) := btrans G7.out g8
          have C8 : Hid (Cop9 v8 v1.heap.size a2 (k + 1) cap2 (ls ++ [⟨left, t, t⟩])) := C7.out.below g8
          have E8 : Hid (Cop9 v8 v5.heap.size am ((k + 1) + 1) capm (ls ++ [⟨left, t, t⟩] ++ [⟨1, t, t⟩])) := E7.out.below g8
          clear g8
          go_wp2_with fail
          refine (dfits_any _ (ls ++ [⟨left, t, t⟩] ++ [⟨1, t, t⟩]) _ E8.out.sec (by rw [E8.out.len]; omega)).mono ?_
          rintro e v9 ⟨rfl, g9⟩
          rw [V.out]
          have G9 : Hid (Below w.heap.size w v9) := btrans G8.out g9
          have C9 : Hid (Cop9 v9 v1.heap.size a2 (k + 1) cap2 (ls ++ [⟨left, t, t⟩])) := C8.out.below g9
          have E9 : Hid (Cop9 v9 v5.heap.size am ((k + 1) + 1) capm (ls ++ [⟨left, t, t⟩] ++ [⟨1, t, t⟩])) := E8.out.below g9
          clear g9
          go_wp2_with fail
          go_ret
          exact ⟨ret_bool (by simp), G9.out⟩
        · obtain rfl : left = 0 := by omega
          have G4 : Hid (Below w.heap.size w wr) := G2.out
          have U := HF.out.fits (by omega) t2 (by omega)
          have V : Hid (fitB (ls ++ [⟨1, t, t⟩]) = false) := HF.out.over (by omega) t2 (by omega)
          have U1 : Hid (fitB (ls) = true) := U.1
          have U2 : Hid (tOk (ls) = true) := U.2.1
          have U3 : Hid (tN (ls) = t) := U.2.2.1
          have U4 : Hid (dueV (ls) t = t) := U.2.2.2
          clear U
          go_wp2_with fail
          refine (btime_any _ (ls) _ O.out.secs (by rw [HF.out.len]; omega)).mono ?_
          rintro e v5 ⟨rfl, g5⟩
          rw [U2.out, U3.out]
          have G5 : Hid (Below w.heap.size w v5) := btrans G4.out g5
          have C5 : Hid (Cop9 v5 v1.heap.size a k cap (ls)) := (Cop9.ofOwn O.out HF.out.len).below g5
          clear g5
          go_wp2_with (first | (go_at_call 24; refine (lloads_new a k cap _ (ls) _ C5.out (by omega)).mono ?_; rintro e u ⟨bb, kk, rfl, d, g⟩; have D : Hid (Cop9 u v5.heap.size bb k kk (ls) ∧ Below v5.heap.size v5 u) := ⟨d, g⟩; clear d g) | (at_builtin; refine wpList_append_own_at _ rfl (.tmp 67) (.tmp 71) 22 rfl _ 31 i0 (.agg #[.int .i64 0, .int .i64 0, .int .i64 0]) 3 24 Tryz.underlying22 hi0 hz0 hz1 hz2 rfl (by decide) _ k (secC (ls)) rfl (OwnL.row (D.out.1.own.below (balloc u _)) D.out.1.len) ⟨u.heap.size, 0, none⟩ 1 1 (secC [⟨1, t, t⟩]) rfl rfl (news_one _ _ _ _ _) (secC_one _) (by unfold maxLen; omega) (by omega) (by have := D.out.2.size; simp; omega) ?_; intro yy v6 own gr nl at_; obtain ⟨am, capm, e, cm, g6⟩ := app_end D.out.1 D.out.2 own gr; subst e; have E6 : Hid (Cop9 v6 v5.heap.size am (k + 1) capm (ls ++ [⟨1, t, t⟩])) := cm; have G6 : Hid (Below w.heap.size w v6) := btrans G5.out g6; have C6 : Hid (Cop9 v6 v1.heap.size a k cap (ls)) := C5.out.below g6; clear own gr nl at_ cm g6))
          go_wp2_with fail
          refine (dfits_any _ (ls) _ C6.out.sec (by rw [C6.out.len]; omega)).mono ?_
          rintro e v7 ⟨rfl, g7⟩
          rw [U1.out]
          have G7 : Hid (Below w.heap.size w v7) := btrans G6.out g7
          have C7 : Hid (Cop9 v7 v1.heap.size a k cap (ls)) := C6.out.below g7
          have E7 : Hid (Cop9 v7 v5.heap.size am (k + 1) capm (ls ++ [⟨1, t, t⟩])) := E6.out.below g7
          clear g7
          go_wp2_with fail
          refine (dbnd_any _ (ls) t _ C7.out.sec (by rw [C7.out.len]; omega)).mono ?_
          rintro e v8 ⟨rfl, g8⟩
          rw [U4.out]
          have G8 : Hid (Below w.heap.size w v8) := btrans G7.out g8
          have C8 : Hid (Cop9 v8 v1.heap.size a k cap (ls)) := C7.out.below g8
          have E8 : Hid (Cop9 v8 v5.heap.size am (k + 1) capm (ls ++ [⟨1, t, t⟩])) := E7.out.below g8
          clear g8
          go_wp2_with fail
          refine (dfits_any _ (ls ++ [⟨1, t, t⟩]) _ E8.out.sec (by rw [E8.out.len]; omega)).mono ?_
          rintro e v9 ⟨rfl, g9⟩
          rw [V.out]
          have G9 : Hid (Below w.heap.size w v9) := btrans G8.out g9
          have C9 : Hid (Cop9 v9 v1.heap.size a k cap (ls)) := C8.out.below g9
          have E9 : Hid (Cop9 v9 v5.heap.size am (k + 1) capm (ls ++ [⟨1, t, t⟩])) := E8.out.below g9
          clear g9
          go_wp2_with fail
          go_ret
          exact ⟨ret_bool (by simp), G9.out⟩
    · by_cases hl0 : 0 < left
      · go_wp2_with (at_builtin; refine wpList_append_own_at _ rfl (.tmp 54) (.tmp 59) 22 rfl _ 31 i0 (.agg #[.int .i64 0, .int .i64 0, .int .i64 0]) 3 24 Tryz.underlying22 hi0 hz0 hz1 hz2 rfl (by decide) _ k (secC _) rfl (OwnL.row (O.out.below (balloc wr _)) HF.out.len) ⟨wr.heap.size, 0, none⟩ 1 1 (secC [⟨left, t, t⟩]) rfl rfl (news_one _ _ _ _ _) (secC_one _) (by unfold maxLen; omega) (by omega) (by simp; omega) ?_; intro yy vv own gr nl at_; obtain ⟨a2, cap2, e, o2, g2⟩ := app_own O.out HF.out.len sz own gr; subst e; have O2 : Hid (OwnL vv v1.heap.size (.slice a2 (k + 1) cap2) (ls ++ [⟨left, t, t⟩])) := o2; have G4 : Hid (Below w.heap.size w vv) := btrans G1.out (B.out.trans g2); clear o2 g2; clear own gr nl at_)
        have HF2 : Hid (Full (ls ++ [⟨left, t, t⟩]) t 0 (k + 1)) := by have := HF.out.snoc (c := left) (by omega) (by omega); rw [show left - left = 0 by omega] at this; exact this
        have U := HF2.out.fits (by omega) t2 (by omega)
        have V : Hid (fitB (ls ++ [⟨left, t, t⟩] ++ [⟨1, t, t⟩]) = false) := HF2.out.over (by omega) t2 (by omega)
        have U1 : Hid (fitB (ls ++ [⟨left, t, t⟩]) = true) := U.1
        have U2 : Hid (tOk (ls ++ [⟨left, t, t⟩]) = true) := U.2.1
        have U3 : Hid (tN (ls ++ [⟨left, t, t⟩]) = t) := U.2.2.1
        have U4 : Hid (dueV (ls ++ [⟨left, t, t⟩]) t = t) := U.2.2.2
        clear U
        go_wp2_with fail
        refine (btime_any _ (ls ++ [⟨left, t, t⟩]) _ O2.out.secs (by rw [HF2.out.len]; omega)).mono ?_
        rintro e v5 ⟨rfl, g5⟩
        rw [U2.out, U3.out]
        have G5 : Hid (Below w.heap.size w v5) := btrans G4.out g5
        have C5 : Hid (Cop9 v5 v1.heap.size a2 (k + 1) cap2 (ls ++ [⟨left, t, t⟩])) := (Cop9.ofOwn O2.out HF2.out.len).below g5
        clear g5
        go_wp2_with (first | (go_at_call 24; refine (lloads_new a2 (k + 1) cap2 _ (ls ++ [⟨left, t, t⟩]) _ C5.out (by omega)).mono ?_; rintro e u ⟨bb, kk, rfl, d, g⟩; have D : Hid (Cop9 u v5.heap.size bb (k + 1) kk (ls ++ [⟨left, t, t⟩]) ∧ Below v5.heap.size v5 u) := ⟨d, g⟩; clear d g) | (at_builtin; refine wpList_append_own_at _ rfl (.tmp 67) (.tmp 71) 22 rfl _ 31 i0 (.agg #[.int .i64 0, .int .i64 0, .int .i64 0]) 3 24 Tryz.underlying22 hi0 hz0 hz1 hz2 rfl (by decide) _ (k + 1) (secC (ls ++ [⟨left, t, t⟩])) rfl (OwnL.row (D.out.1.own.below (balloc u _)) D.out.1.len) ⟨u.heap.size, 0, none⟩ 1 1 (secC [⟨1, t, t⟩]) rfl rfl (news_one _ _ _ _ _) (secC_one _) (by unfold maxLen; omega) (by omega) (by have := D.out.2.size; simp; omega) ?_; intro yy v6 own gr nl at_; obtain ⟨am, capm, e, cm, g6⟩ := app_end D.out.1 D.out.2 own gr; subst e; have E6 : Hid (Cop9 v6 v5.heap.size am ((k + 1) + 1) capm (ls ++ [⟨left, t, t⟩] ++ [⟨1, t, t⟩])) := cm; have G6 : Hid (Below w.heap.size w v6) := btrans G5.out g6; have C6 : Hid (Cop9 v6 v1.heap.size a2 (k + 1) cap2 (ls ++ [⟨left, t, t⟩])) := C5.out.below g6; clear own gr nl at_ cm g6))
        go_wp2_with fail
        refine (dfits_any _ (ls ++ [⟨left, t, t⟩]) _ C6.out.sec (by rw [C6.out.len]; omega)).mono ?_
        rintro e v7 ⟨rfl, g7⟩
        rw [U1.out]
        have G7 : Hid (Below w.heap.size w v7) := btrans G6.out g7
        have C7 : Hid (Cop9 v7 v1.heap.size a2 (k + 1) cap2 (ls ++ [⟨left, t, t⟩])) := C6.out.below g7
        have E7 : Hid (Cop9 v7 v5.heap.size am ((k + 1) + 1) capm (ls ++ [⟨left, t, t⟩] ++ [⟨1, t, t⟩])) := E6.out.below g7
        clear g7
        go_wp2_with fail
        refine (dbnd_any _ (ls ++ [⟨left, t, t⟩]) t _ C7.out.sec (by rw [C7.out.len]; omega)).mono ?_
        rintro e v8 ⟨rfl, g8⟩
        rw [U4.out]
        have G8 : Hid (Below w.heap.size w v8) := btrans G7.out g8
        have C8 : Hid (Cop9 v8 v1.heap.size a2 (k + 1) cap2 (ls ++ [⟨left, t, t⟩])) := C7.out.below g8
        have E8 : Hid (Cop9 v8 v5.heap.size am ((k + 1) + 1) capm (ls ++ [⟨left, t, t⟩] ++ [⟨1, t, t⟩])) := E7.out.below g8
        clear g8
        go_wp2_with fail
        refine (dfits_any _ (ls ++ [⟨left, t, t⟩] ++ [⟨1, t, t⟩]) _ E8.out.sec (by rw [E8.out.len]; omega)).mono ?_
        rintro e v9 ⟨rfl, g9⟩
        rw [V.out]
        have G9 : Hid (Below w.heap.size w v9) := btrans G8.out g9
        have C9 : Hid (Cop9 v9 v1.heap.size a2 (k + 1) cap2 (ls ++ [⟨left, t, t⟩])) := C8.out.below g9
        have E9 : Hid (Cop9 v9 v5.heap.size am ((k + 1) + 1) capm (ls ++ [⟨left, t, t⟩] ++ [⟨1, t, t⟩])) := E8.out.below g9
        clear g9
        go_wp2_with fail
        go_ret
        exact ⟨ret_bool (by simp), G9.out⟩
      · obtain rfl : left = 0 := by omega
        have G4 : Hid (Below w.heap.size w wr) := G2.out
        have U := HF.out.fits (by omega) t2 (by omega)
        have V : Hid (fitB (ls ++ [⟨1, t, t⟩]) = false) := HF.out.over (by omega) t2 (by omega)
        have U1 : Hid (fitB (ls) = true) := U.1
        have U2 : Hid (tOk (ls) = true) := U.2.1
        have U3 : Hid (tN (ls) = t) := U.2.2.1
        have U4 : Hid (dueV (ls) t = t) := U.2.2.2
        clear U
        go_wp2_with fail
        refine (btime_any _ (ls) _ O.out.secs (by rw [HF.out.len]; omega)).mono ?_
        rintro e v5 ⟨rfl, g5⟩
        rw [U2.out, U3.out]
        have G5 : Hid (Below w.heap.size w v5) := btrans G4.out g5
        have C5 : Hid (Cop9 v5 v1.heap.size a k cap (ls)) := (Cop9.ofOwn O.out HF.out.len).below g5
        clear g5
        go_wp2_with (first | (go_at_call 24; refine (lloads_new a k cap _ (ls) _ C5.out (by omega)).mono ?_; rintro e u ⟨bb, kk, rfl, d, g⟩; have D : Hid (Cop9 u v5.heap.size bb k kk (ls) ∧ Below v5.heap.size v5 u) := ⟨d, g⟩; clear d g) | (at_builtin; refine wpList_append_own_at _ rfl (.tmp 67) (.tmp 71) 22 rfl _ 31 i0 (.agg #[.int .i64 0, .int .i64 0, .int .i64 0]) 3 24 Tryz.underlying22 hi0 hz0 hz1 hz2 rfl (by decide) _ k (secC (ls)) rfl (OwnL.row (D.out.1.own.below (balloc u _)) D.out.1.len) ⟨u.heap.size, 0, none⟩ 1 1 (secC [⟨1, t, t⟩]) rfl rfl (news_one _ _ _ _ _) (secC_one _) (by unfold maxLen; omega) (by omega) (by have := D.out.2.size; simp; omega) ?_; intro yy v6 own gr nl at_; obtain ⟨am, capm, e, cm, g6⟩ := app_end D.out.1 D.out.2 own gr; subst e; have E6 : Hid (Cop9 v6 v5.heap.size am (k + 1) capm (ls ++ [⟨1, t, t⟩])) := cm; have G6 : Hid (Below w.heap.size w v6) := btrans G5.out g6; have C6 : Hid (Cop9 v6 v1.heap.size a k cap (ls)) := C5.out.below g6; clear own gr nl at_ cm g6))
        go_wp2_with fail
        refine (dfits_any _ (ls) _ C6.out.sec (by rw [C6.out.len]; omega)).mono ?_
        rintro e v7 ⟨rfl, g7⟩
        rw [U1.out]
        have G7 : Hid (Below w.heap.size w v7) := btrans G6.out g7
        have C7 : Hid (Cop9 v7 v1.heap.size a k cap (ls)) := C6.out.below g7
        have E7 : Hid (Cop9 v7 v5.heap.size am (k + 1) capm (ls ++ [⟨1, t, t⟩])) := E6.out.below g7
        clear g7
        go_wp2_with fail
        refine (dbnd_any _ (ls) t _ C7.out.sec (by rw [C7.out.len]; omega)).mono ?_
        rintro e v8 ⟨rfl, g8⟩
        rw [U4.out]
        have G8 : Hid (Below w.heap.size w v8) := btrans G7.out g8
        have C8 : Hid (Cop9 v8 v1.heap.size a k cap (ls)) := C7.out.below g8
        have E8 : Hid (Cop9 v8 v5.heap.size am (k + 1) capm (ls ++ [⟨1, t, t⟩])) := E7.out.below g8
        clear g8
        go_wp2_with fail
        refine (dfits_any _ (ls ++ [⟨1, t, t⟩]) _ E8.out.sec (by rw [E8.out.len]; omega)).mono ?_
        rintro e v9 ⟨rfl, g9⟩
        rw [V.out]
        have G9 : Hid (Below w.heap.size w v9) := btrans G8.out g9
        have C9 : Hid (Cop9 v9 v1.heap.size a k cap (ls)) := C8.out.below g9
        have E9 : Hid (Cop9 v9 v5.heap.size am (k + 1) capm (ls ++ [⟨1, t, t⟩])) := E8.out.below g9
        clear g9
        go_wp2_with fail
        go_ret
        exact ⟨ret_bool (by simp), G9.out⟩

set_option maxRecDepth 100000 in
theorem lifted (os : Os) (started : os.Started) (H : Type) (enc : TypeId × Value → H) :
    ReturnsInHanded {} Tryz.checked os 14 .any (fun w args => (Rows.demandFullSpec.pre enc Tryz.prog Tryz.f14 [] false w args ∧ laidMetH Tryz.prog laid5 w) ∧ sizedMet enc Tryz.prog Tryz.f14 (OpenSpec.ofChange Rows.demandFullSpec) false w args)
      (Rows.demandFullSpec.post enc Tryz.prog Tryz.f14 false true false false) := by
  refine returnsInHanded_of_change_and (C := Tryz.checked) (X := fun w _ => laidMetH Tryz.prog laid5 w) (fun _ _ _ hh h => h.of_heap hh) own started (by kernel_rfl) Tryz.func14
    (ChangeSpec.witness_shaped (enc := enc) (C := Tryz.checked) (os := os) (X := fun w _ => laidMetH Tryz.prog laid5 w) false (World.doorLaid Tryz.prog 62 os) #[.slice none 0 0, .int .i64 0] 8 rfl (World.shaped_of_RefB (by kernel_rfl) (by kernel_rfl)) (by kernel_rfl) (by kernel_rfl) (by kernel_rfl) (door_met os _)) ?_
  intro W base args ds gs before hval0 hW _ _ hL _
  have hval : ∀ (j : Nat) t v, Tryz.f14.params[j]? = some t → args[j]? = some v → Value.okWide Tryz.prog W .any base t v := hval0
  have hW' := hW
  obtain ⟨p, q, hA0, hV, rfl, hfz, hnd⟩ := hW
  have hA : DataW.TrodAll enc Tryz.prog W 0 (fun _ => true) true Tryz.f14.params.toList args.toList ds p := hA0
  rw [Tryz.params14] at hA hval
  obtain ⟨v0, vs0, d0, ds0, p0, q0, hargs, rfl, rfl, h0, r0⟩ := trodAll_cons hA
  obtain ⟨v1, vs1, d1, ds1, p1, q1, rfl, rfl, rfl, h1, r1⟩ := trodAll_cons r0
  obtain ⟨rfl, rfl, rfl⟩ := trodAll_nil r1
  obtain rfl : args = #[v0, v1] := by cases args; simp_all
  obtain ⟨rfl, rfl⟩ := trodVars_none hV
  obtain ⟨s0, n0, m0, rfl⟩ := okWide_slice Tryz.underlying34 (hval 0 34 v0 rfl rfl)
  have k0 := h0
  have lt0 : ∀ x ∈ p0, x.block < W.heap.size := by obtain ⟨m, hm⟩ := k0; exact DataW.trod_lt m _ _ _ hm
  obtain ⟨z0, w0⟩ := (by obtain ⟨fuel, hf⟩ := h0; exact open_nums hf : ∃ zs, ANums W s0 n0 zs)
  obtain ⟨a1, rfl, rfl, rfl, w1⟩ := open_int Tryz.underlying2 (hval 1 2 v1 rfl rfl) h1
  clear hA0 hval0
  simp only [List.append_nil] at hW'
  refine (walk s0 n0 m0 z0 a1 W (env_of_laid hL) w0 w1).mono fun e W' ⟨he, bel⟩ => ?_
  subst he
  exact ⟨_, rfl, _, _, _, [], _, [], hW', trodAll_mk1 (shut_bool Tryz.underlying4 _), (trodAll_cons_mk (Below.trod laidOut (by kernel_rfl) (of_decide_eq_true (by kernel_rfl)) k0 bel lt0) (trodAll_cons_mk (shut_int Tryz.underlying2 w1) trodAll_mk0)), rfl, bel.frame _, fun h => by cases h⟩

theorem closed : joinedFacts Tryz.pinned.checked.prog 14 Tryz.f14 Rows.demandFullSpec Rows.demandFullRow = true := by
  generalize hP : Tryz.pinned.checked.prog = P
  simp only [joinedFacts, Bool.and_eq_true]
  subst hP
  refine ⟨⟨⟨⟨⟨⟨⟨⟨⟨⟨⟨⟨⟨⟨⟨⟨⟨⟨⟨⟨⟨⟨⟨⟨⟨⟨⟨⟨⟨⟨⟨?k1, ?k2⟩, ?k3⟩, ?k4⟩, ?k5⟩, ?k6⟩, ?k7⟩, ?k8⟩, ?k9⟩, ?k10⟩, ?k11⟩, ?k12⟩, ?k13⟩, ?k14⟩, ?k15⟩, ?k16⟩, ?k17⟩, ?k18⟩, ?k19⟩, ?k20⟩, ?k21⟩, ?k22⟩, ?k23⟩, ?k24⟩, ?k25⟩, ?k26⟩, ?k27⟩, ?k28⟩, ?k29⟩, ?k30⟩, ?k31⟩, ?k32⟩
  case k26 => exact head_enter
  case k27 => show (false == Tryz.prog.liftsFinal) = true; rw [head_lifts]; rfl
  case k28 => exact head_make
  all_goals kernel_rfl
theorem over : Rows.demandFullRow.holds Tryz.pinned (OpenSpec.ofChange Rows.demandFullSpec) :=
  OpenClaim.holds_of_wide 14 Tryz.f14 rfl rfl rfl rfl rfl rfl rfl ⟨rfl, rfl, rfl, rfl, rfl⟩ rfl rfl rfl rfl rfl (by kernel_rfl) Tryz.func14 closed
    (of_decide_eq_true (by kernel_rfl)) (by unfold Func.isWrapper; first | (rw [if_pos (by decide +kernel)]; kernel_rfl) | (rw [if_neg (by decide +kernel)]; exact ⟨rfl, rfl⟩))
    (fun os started H enc _ => lifted os started H enc)

theorem proved : Rows.DemandFullCardSaid :=
  Claim7.holds_tied_plain_at .later [] [.data, .data, .data, .sentinel, .sentinel] true (true, "5593ad2a5a772f8be195e0fe692033ff87e224b9e1f3bacf87f13d01f91435b9") true
    over (fun _ h => by cases h) (by kernel_rfl) (fun _ h => by cases h) demandFull_row_tie rfl ⟨rfl, rfl⟩ head_main rfl
    (fun f fn hf hfn => by
      obtain rfl : f = 14 := Option.some.inj ((show Tryz.prog.funcNamed "hortator/hortatorlaw9.DemandFull" = some 14 by kernel_rfl).symm.trans hf) |>.symm
      obtain rfl : fn = Tryz.f14 := (Option.some.inj (Tryz.func14.symm.trans hfn)).symm
      exact ⟨by kernel_rfl, fun j t ht => by
        rw [Tryz.params14] at ht
        match j, ht with
        | 0, ht => obtain rfl : t = 34 := by simpa using ht.symm
                   exact (show Tryz.prog.wantsStandIn 34 = false by kernel_rfl)
        | 1, ht => obtain rfl : t = 2 := by simpa using ht.symm
                   exact (show Tryz.prog.wantsStandIn 2 = false by kernel_rfl)
        | (_ + 2), ht => simp at ht⟩)
    (by kernel_rfl)
end Go.Proofs.YtpbjodbcmaaheaaGreatDoor.demandFull
