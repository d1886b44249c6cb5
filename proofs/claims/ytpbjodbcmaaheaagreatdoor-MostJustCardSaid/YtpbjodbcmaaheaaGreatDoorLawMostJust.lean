/-
PROVED: the statement hortatorlaw9.MostJust answers true over the landed packages: with it all fits; with one more it does not, or it is as much as was asked.
  CONDITIONS: the listed variables of strconv and math/bits hold what the program's text lays (the card ties them).
-/
import Derived.Test.YtpbjodbcmaaheaaGreatDoorRows
import Derived.Test.YtpbjodbcmaaheaaGreatDoorTie
import Derived.Test.YtpbjodbcmaaheaaGreatDoorCards
import Derived.WalkKit
import Derived.ProofKit
import Derived.OpenShut
import Derived.ShutString
import Derived.ChangeOld
import Derived.Below
import Derived.SevenTiedAt
import Derived.Test.YtpbjodbcmaaheaaGreatDoorLaid
import Derived.Test.YtpbjodbcmaaheaaGreatDoorHead
import Derived.Carry
import Derived.Deep.Cut
import Derived.Deep.CutRange
import Derived.Deep.RegionWith
import Derived.Deep.RegionHeld3
import Derived.Deep.LoopGhost
import Derived.Deep.QuietTactic
import Derived.BigQuiet
import Derived.Test.YtpbjodbcmaaheaaGreatDoorArgs9J
import Derived.Test.YtpbjodbcmaaheaaGreatDoorBegun9
import Derived.Test.YtpbjodbcmaaheaaGreatDoorBits9
import Derived.Test.YtpbjodbcmaaheaaGreatDoorBMath5
import Derived.Test.YtpbjodbcmaaheaaGreatDoorApp9
namespace Go.Proofs.YtpbjodbcmaaheaaGreatDoor.mostJust
open Go.ChangeShapes Go.WideShapes Go.ChangeAt Go.RowKit
open Go.ChangeMaps (open_string shut_string)
set_option linter.unusedVariables false

theorem own : ownKnob Tryz.prog.godebug = none := by kernel_rfl
theorem laidOut : laidOutB Tryz.prog = true := by kernel_rfl

set_option maxHeartbeats 8000000 in
set_option maxRecDepth 100000 in
theorem walk (s0 : Option Addr) (n0 m0 : Nat) (z0 : List Sec) (a1 : Int) (a2 : Int) (a3 : Int) (w : World) (hE : Env w) (w0 : ALds w s0 n0 m0 z0) (w1 : (Lit.int .i64 a1).wf = true) (w2 : (Lit.int .i64 a2).wf = true) (w3 : (Lit.int .i64 a3).wf = true) :
    Calls Tryz.prog 10 #[.slice s0 n0 m0, .int .i64 a1, .int .i64 a2, .int .i64 a3] w fun e w' => e = .returned (.bool true) ∧ Below w.heap.size w w' := by
  obtain ⟨i0, hi0, hz0, hz1, hz2⟩ := info_parts infoL
  obtain ⟨l1, h1⟩ := bounds_i64 w1
  obtain ⟨l2, h2⟩ := bounds_i64 w2
  obtain ⟨l3, h3⟩ := bounds_i64 w3
  have HE : Hid (Env w) := hE
  have HA : Hid (ALds w s0 n0 m0 z0) := w0
  clear hE w0
  go_enter Tryz.func10, Tryz.ntmps10
  go_wp2_with fail
  refine (begun9_any w HE.out).mono ?_
  rintro e v1 ⟨rfl, g1⟩
  have G1 : Hid (Below w.heap.size w v1) := g1
  clear g1
  go_wp2_with fail
  refine (lloads_at s0 n0 m0 z0 w _ G1.out HA.out).mono ?_
  rintro e v2 ⟨a, n, cap, l, rfl, hl, n10, c2, g2⟩
  have G2 : Hid (Below w.heap.size w v2) := g2
  have C2 : Hid (Cop9 v2 w.heap.size a n cap l) := c2
  have HL : Hid (l.length ≤ 1000000) := by have := c2.len; show _ ≤ _; omega
  have HS : Hid (l.length ≤ 1000) := by have := c2.len; show _ ≤ _; omega
  clear g2 hl c2
  obtain ⟨d, hd⟩ : ∃ d, 1 + a1 % 32 = d := ⟨_, rfl⟩
  obtain ⟨t, ht⟩ : ∃ t, 1 + a2 % 64 = t := ⟨_, rfl⟩
  obtain ⟨p, hp⟩ : ∃ p, 1 + a3 % 32 = p := ⟨_, rfl⟩
  have d1 : 1 ≤ d ∧ d ≤ 32 := by omega
  have t1 : 1 ≤ t ∧ t ≤ 64 := by omega
  have p1 : 1 ≤ p ∧ p ≤ 32 := by omega
  obtain ⟨d2, d3⟩ := d1
  obtain ⟨t2, t3⟩ := t1
  obtain ⟨p2, p3⟩ := p1
  have e1 := and31 a1
  have e2 := and63 a2
  have e3 := and31 a3
  cases hf : fitB l
  · have HF : Hid (fitB l = false) := hf
    clear hf
    have HZ : Hid (mostV l d t p = 0) := most_unfit HF.out _ _ _
    go_wp2_with fail
    refine (mfit_any a n cap l d t p _ C2.out.sec C2.out.cap C2.out.len (by omega)).mono ?_
    rintro e v3 ⟨rfl, g3⟩
    rw [HZ.out]
    have G3 : Hid (Below w.heap.size w v3) := btrans G2.out g3
    have C3 : Hid (Cop9 v3 w.heap.size a n cap l) := C2.out.below g3
    clear g3 G2 C2
    go_wp2_with fail
    refine (dfits_any _ l _ C3.out.sec HL.out).mono ?_
    rintro e v4 ⟨rfl, g4⟩
    rw [HF.out]
    have G4 : Hid (Below w.heap.size w v4) := btrans G3.out g4
    have C4 : Hid (Cop9 v4 w.heap.size a n cap l) := C3.out.below g4
    clear g4 G3 C3
    go_wp2_with fail
    go_ret
    exact ⟨ret_bool (by simp), G4.out⟩
  · have HF : Hid (fitB l = true) := hf
    clear hf
    by_cases hdt : t < d
    · have HZ : Hid (mostV l d t p = 0) := most_no (may_no (by omega))
      go_wp2_with fail
      refine (mfit_any a n cap l d t p _ C2.out.sec C2.out.cap C2.out.len (by omega)).mono ?_
      rintro e v3 ⟨rfl, g3⟩
      rw [HZ.out]
      have G3 : Hid (Below w.heap.size w v3) := btrans G2.out g3
      have C3 : Hid (Cop9 v3 w.heap.size a n cap l) := C2.out.below g3
      clear g3 G2 C2
      go_wp2_with fail
      refine (dfits_any _ l _ C3.out.sec HL.out).mono ?_
      rintro e v4 ⟨rfl, g4⟩
      rw [HF.out]
      have G4 : Hid (Below w.heap.size w v4) := btrans G3.out g4
      have C4 : Hid (Cop9 v4 w.heap.size a n cap l) := C3.out.below g4
      clear g4 G3 C3
      go_wp2_with fail
      go_ret
      exact ⟨ret_bool (by simp), G4.out⟩
    · obtain ⟨m, hm⟩ : ∃ m : Nat, min p d = m := ⟨(min p d).toNat, by omega⟩
      have HX : Hid (mostV l d t p = (grN (pFit l d t) m : Nat)) := most_is (may_yes (by rw [C2.out.len]; omega) (by omega) (by omega) (by omega)) hm
      obtain ⟨x, hx⟩ : ∃ x, grN (pFit l d t) m = x := ⟨_, rfl⟩
      rw [hx] at HX
      have xm : x ≤ m := by rw [← hx]; exact gr_le _ _
      have HG : Hid (x = 0 ∨ fitB (l ++ [⟨(x : Int), d, t⟩]) = true) := by have := (gr_is (pFit l d t) m).1; rw [hx] at this; exact this
      have HE2 : Hid (x < m → fitB (l ++ [⟨(x : Int) + 1, d, t⟩]) = false) := fun h => (gr_is (pFit l d t) m).2 (x + 1) (by rw [hx]; omega) (by omega)
      clear hx
      go_wp2_with fail
      refine (mfit_any a n cap l d t p _ C2.out.sec C2.out.cap C2.out.len (by omega)).mono ?_
      rintro e v3 ⟨rfl, g3⟩
      rw [HX.out]
      have G3 : Hid (Below w.heap.size w v3) := btrans G2.out g3
      have C3 : Hid (Cop9 v3 w.heap.size a n cap l) := C2.out.below g3
      clear g3 G2 C2
      go_wp2_with fail
      refine (dfits_any _ l _ C3.out.sec HL.out).mono ?_
      rintro e v4 ⟨rfl, g4⟩
      rw [HF.out]
      have G4 : Hid (Below w.heap.size w v4) := btrans G3.out g4
      have C4 : Hid (Cop9 v4 w.heap.size a n cap l) := C3.out.below g4
      clear g4 G3 C3
      by_cases x0 : x = 0
      · have dx : ((x : Int) == 0) = true := by simp [x0]
        have d0 : ((x : Int) == (m : Int)) = false := by simp; omega
        have HQ : Hid (fitB (l ++ [⟨(x : Int) + 1, d, t⟩]) = false) := HE2.out (by omega)
        clear x0
        have Na : Hid (Cop9 v4 w.heap.size a n cap l) := C4
        go_wp2_with (first | (go_at_call 24; refine (lloads_new a n cap _ l _ Na.out n10).mono ?_; rintro e ua ⟨ba, ka, rfl, da, ga⟩; have Da : Hid (Cop9 ua v4.heap.size ba n ka l ∧ Below v4.heap.size v4 ua) := ⟨da, ga⟩; clear da ga) | (at_builtin; refine wpList_append_own_at _ rfl (.tmp 43) (.tmp 48) 22 rfl _ 31 i0 (.agg #[.int .i64 0, .int .i64 0, .int .i64 0]) 3 24 Tryz.underlying22 hi0 hz0 hz1 hz2 rfl (by decide) _ n (secC l) rfl (OwnL.row (Da.out.1.own.below (balloc ua _)) Da.out.1.len) ⟨ua.heap.size, 0, none⟩ 1 1 (secC [⟨(x : Int), d, t⟩]) rfl rfl (news_one _ _ _ _ _) (secC_one _) (by unfold maxLen; omega) (by omega) (by have := Da.out.2.size; simp; omega) ?_; intro ya v5 own gr nl at_; obtain ⟨aa, capa, e, ca, g5⟩ := app_end Da.out.1 Da.out.2 own gr; subst e; have Ea : Hid (Cop9 v5 v4.heap.size aa (n + 1) capa (l ++ [⟨(x : Int), d, t⟩])) := ca; have G5 : Hid (Below w.heap.size w v5) := btrans G4.out g5; have C5 : Hid (Cop9 v5 w.heap.size a n cap l) := C4.out.below g5; have Nb : Hid (Cop9 v5 w.heap.size a n cap l) := C5; clear own gr nl at_ ca g5 Da Na) | (go_at_call 24; refine (lloads_new a n cap _ l _ Nb.out n10).mono ?_; rintro e ub ⟨bb, kb, rfl, db, gb⟩; have Db : Hid (Cop9 ub v5.heap.size bb n kb l ∧ Below v5.heap.size v5 ub) := ⟨db, gb⟩; clear db gb) | (at_builtin; refine wpList_append_own_at _ rfl (.tmp 51) (.tmp 57) 22 rfl _ 31 i0 (.agg #[.int .i64 0, .int .i64 0, .int .i64 0]) 3 24 Tryz.underlying22 hi0 hz0 hz1 hz2 rfl (by decide) _ n (secC l) rfl (OwnL.row (Db.out.1.own.below (balloc ub _)) Db.out.1.len) ⟨ub.heap.size, 0, none⟩ 1 1 (secC [⟨(x : Int) + 1, d, t⟩]) rfl rfl (news_one _ _ _ _ _) (secC_one _) (by unfold maxLen; omega) (by omega) (by have := Db.out.2.size; simp; omega) ?_; intro yb v6 own gr nl at_; obtain ⟨ab, capb, e, cb, g6⟩ := app_end Db.out.1 Db.out.2 own gr; subst e; have Eb : Hid (Cop9 v6 v5.heap.size ab (n + 1) capb (l ++ [⟨(x : Int) + 1, d, t⟩])) := cb; have G6 : Hid (Below w.heap.size w v6) := btrans G5.out g6; have C6 : Hid (Cop9 v6 w.heap.size a n cap l) := C5.out.below g6; have F6 : Hid (Below v5.heap.size v5 v6) := g6; clear own gr nl at_ cb g6 Db Nb))
        have Ea6 : Hid (Cop9 v6 v4.heap.size aa (n + 1) capa (l ++ [⟨(x : Int), d, t⟩])) := Ea.out.below F6.out
        go_wp2_with fail
        refine (dfits_any _ (l ++ [⟨(x : Int) + 1, d, t⟩]) _ Eb.out.sec (by rw [Eb.out.len]; omega)).mono ?_
        rintro e v7 ⟨rfl, g7⟩
        rw [HQ.out]
        have G7 : Hid (Below w.heap.size w v7) := btrans G6.out g7
        clear g7
        go_wp2_with fail
        go_ret
        exact ⟨ret_bool (by simp), G7.out⟩
      · have dx : ((x : Int) == 0) = false := by simp; omega
        have HP : Hid (fitB (l ++ [⟨(x : Int), d, t⟩]) = true) := by rcases HG.out with h | h; exact absurd h x0; exact h
        by_cases hxm : x = m
        · subst hxm
          have Na : Hid (Cop9 v4 w.heap.size a n cap l) := C4
          go_wp2_with (first | (go_at_call 24; refine (lloads_new a n cap _ l _ Na.out n10).mono ?_; rintro e ua ⟨ba, ka, rfl, da, ga⟩; have Da : Hid (Cop9 ua v4.heap.size ba n ka l ∧ Below v4.heap.size v4 ua) := ⟨da, ga⟩; clear da ga) | (at_builtin; refine wpList_append_own_at _ rfl (.tmp 43) (.tmp 48) 22 rfl _ 31 i0 (.agg #[.int .i64 0, .int .i64 0, .int .i64 0]) 3 24 Tryz.underlying22 hi0 hz0 hz1 hz2 rfl (by decide) _ n (secC l) rfl (OwnL.row (Da.out.1.own.below (balloc ua _)) Da.out.1.len) ⟨ua.heap.size, 0, none⟩ 1 1 (secC [⟨(x : Int), d, t⟩]) rfl rfl (news_one _ _ _ _ _) (secC_one _) (by unfold maxLen; omega) (by omega) (by have := Da.out.2.size; simp; omega) ?_; intro ya v5 own gr nl at_; obtain ⟨aa, capa, e, ca, g5⟩ := app_end Da.out.1 Da.out.2 own gr; subst e; have Ea : Hid (Cop9 v5 v4.heap.size aa (n + 1) capa (l ++ [⟨(x : Int), d, t⟩])) := ca; have G5 : Hid (Below w.heap.size w v5) := btrans G4.out g5; have C5 : Hid (Cop9 v5 w.heap.size a n cap l) := C4.out.below g5; have Nb : Hid (Cop9 v5 w.heap.size a n cap l) := C5; clear own gr nl at_ ca g5 Da Na) | (go_at_call 24; refine (lloads_new a n cap _ l _ Nb.out n10).mono ?_; rintro e ub ⟨bb, kb, rfl, db, gb⟩; have Db : Hid (Cop9 ub v5.heap.size bb n kb l ∧ Below v5.heap.size v5 ub) := ⟨db, gb⟩; clear db gb) | (at_builtin; refine wpList_append_own_at _ rfl (.tmp 51) (.tmp 57) 22 rfl _ 31 i0 (.agg #[.int .i64 0, .int .i64 0, .int .i64 0]) 3 24 Tryz.underlying22 hi0 hz0 hz1 hz2 rfl (by decide) _ n (secC l) rfl (OwnL.row (Db.out.1.own.below (balloc ub _)) Db.out.1.len) ⟨ub.heap.size, 0, none⟩ 1 1 (secC [⟨(x : Int) + 1, d, t⟩]) rfl rfl (news_one _ _ _ _ _) (secC_one _) (by unfold maxLen; omega) (by omega) (by have := Db.out.2.size; simp; omega) ?_; intro yb v6 own gr nl at_; obtain ⟨ab, capb, e, cb, g6⟩ := app_end Db.out.1 Db.out.2 own gr; subst e; have Eb : Hid (Cop9 v6 v5.heap.size ab (n + 1) capb (l ++ [⟨(x : Int) + 1, d, t⟩])) := cb; have G6 : Hid (Below w.heap.size w v6) := btrans G5.out g6; have C6 : Hid (Cop9 v6 w.heap.size a n cap l) := C5.out.below g6; have F6 : Hid (Below v5.heap.size v5 v6) := g6; clear own gr nl at_ cb g6 Db Nb))
          have Ea6 : Hid (Cop9 v6 v4.heap.size aa (n + 1) capa (l ++ [⟨(x : Int), d, t⟩])) := Ea.out.below F6.out
          go_wp2_with fail
          refine (dfits_any _ (l ++ [⟨(x : Int), d, t⟩]) _ Ea6.out.sec (by rw [Ea6.out.len]; omega)).mono ?_
          rintro e v7 ⟨rfl, g7⟩
          rw [HP.out]
          have G7 : Hid (Below w.heap.size w v7) := btrans G6.out g7
          clear g7
          go_wp2_with fail
          go_ret
          exact ⟨ret_bool (by simp), G7.out⟩
        · have d0 : ((x : Int) == (m : Int)) = false := by simp; omega
          have HQ : Hid (fitB (l ++ [⟨(x : Int) + 1, d, t⟩]) = false) := HE2.out (by omega)
          have Na : Hid (Cop9 v4 w.heap.size a n cap l) := C4
          go_wp2_with (first | (go_at_call 24; refine (lloads_new a n cap _ l _ Na.out n10).mono ?_; rintro e ua ⟨ba, ka, rfl, da, ga⟩; have Da : Hid (Cop9 ua v4.heap.size ba n ka l ∧ Below v4.heap.size v4 ua) := ⟨da, ga⟩; clear da ga) | (at_builtin; refine wpList_append_own_at _ rfl (.tmp 43) (.tmp 48) 22 rfl _ 31 i0 (.agg #[.int .i64 0, .int .i64 0, .int .i64 0]) 3 24 Tryz.underlying22 hi0 hz0 hz1 hz2 rfl (by decide) _ n (secC l) rfl (OwnL.row (Da.out.1.own.below (balloc ua _)) Da.out.1.len) ⟨ua.heap.size, 0, none⟩ 1 1 (secC [⟨(x : Int), d, t⟩]) rfl rfl (news_one _ _ _ _ _) (secC_one _) (by unfold maxLen; omega) (by omega) (by have := Da.out.2.size; simp; omega) ?_; intro ya v5 own gr nl at_; obtain ⟨aa, capa, e, ca, g5⟩ := app_end Da.out.1 Da.out.2 own gr; subst e; have Ea : Hid (Cop9 v5 v4.heap.size aa (n + 1) capa (l ++ [⟨(x : Int), d, t⟩])) := ca; have G5 : Hid (Below w.heap.size w v5) := btrans G4.out g5; have C5 : Hid (Cop9 v5 w.heap.size a n cap l) := C4.out.below g5; have Nb : Hid (Cop9 v5 w.heap.size a n cap l) := C5; clear own gr nl at_ ca g5 Da Na) | (go_at_call 24; refine (lloads_new a n cap _ l _ Nb.out n10).mono ?_; rintro e ub ⟨bb, kb, rfl, db, gb⟩; have Db : Hid (Cop9 ub v5.heap.size bb n kb l ∧ Below v5.heap.size v5 ub) := ⟨db, gb⟩; clear db gb) | (at_builtin; refine wpList_append_own_at _ rfl (.tmp 51) (.tmp 57) 22 rfl _ 31 i0 (.agg #[.int .i64 0, .int .i64 0, .int .i64 0]) 3 24 Tryz.underlying22 hi0 hz0 hz1 hz2 rfl (by decide) _ n (secC l) rfl (OwnL.row (Db.out.1.own.below (balloc ub _)) Db.out.1.len) ⟨ub.heap.size, 0, none⟩ 1 1 (secC [⟨(x : Int) + 1, d, t⟩]) rfl rfl (news_one _ _ _ _ _) (secC_one _) (by unfold maxLen; omega) (by omega) (by have := Db.out.2.size; simp; omega) ?_; intro yb v6 own gr nl at_; obtain ⟨ab, capb, e, cb, g6⟩ := app_end Db.out.1 Db.out.2 own gr; subst e; have Eb : Hid (Cop9 v6 v5.heap.size ab (n + 1) capb (l ++ [⟨(x : Int) + 1, d, t⟩])) := cb; have G6 : Hid (Below w.heap.size w v6) := btrans G5.out g6; have C6 : Hid (Cop9 v6 w.heap.size a n cap l) := C5.out.below g6; have F6 : Hid (Below v5.heap.size v5 v6) := g6; clear own gr nl at_ cb g6 Db Nb))
          have Ea6 : Hid (Cop9 v6 v4.heap.size aa (n + 1) capa (l ++ [⟨(x : Int), d, t⟩])) := Ea.out.below F6.out
          go_wp2_with fail
          refine (dfits_any _ (l ++ [⟨(x : Int), d, t⟩]) _ Ea6.out.sec (by rw [Ea6.out.len]; omega)).mono ?_
          rintro e v7 ⟨rfl, g7⟩
          rw [HP.out]
          have G7 : Hid (Below w.heap.size w v7) := btrans G6.out g7
          have Eb7 : Hid (Cop9 v7 v5.heap.size ab (n + 1) capb (l ++ [⟨(x : Int) + 1, d, t⟩])) := Eb.out.below g7
          clear g7
          go_wp2_with fail
          refine (dfits_any _ (l ++ [⟨(x : Int) + 1, d, t⟩]) _ Eb7.out.sec (by rw [Eb7.out.len]; omega)).mono ?_
          rintro e v8 ⟨rfl, g8⟩
          rw [HQ.out]
          have G8 : Hid (Below w.heap.size w v8) := btrans G7.out g8
          clear g8
          go_wp2_with fail
          go_ret
          exact ⟨ret_bool (by simp), G8.out⟩

set_option maxRecDepth 100000 in
theorem lifted (os : Os) (started : os.Started) (H : Type) (enc : TypeId × Value → H) :
    ReturnsInHanded {} Tryz.checked os 10 .any (fun w args => (Rows.mostJustSpec.pre enc Tryz.prog Tryz.f10 [] false w args ∧ laidMetH Tryz.prog laid5 w) ∧ sizedMet enc Tryz.prog Tryz.f10 (OpenSpec.ofChange Rows.mostJustSpec) false w args)
      (Rows.mostJustSpec.post enc Tryz.prog Tryz.f10 false true false false) := by
  refine returnsInHanded_of_change_and (C := Tryz.checked) (X := fun w _ => laidMetH Tryz.prog laid5 w) (fun _ _ _ hh h => h.of_heap hh) own started (by kernel_rfl) Tryz.func10
    (ChangeSpec.witness_shaped (enc := enc) (C := Tryz.checked) (os := os) (X := fun w _ => laidMetH Tryz.prog laid5 w) false (World.doorLaid Tryz.prog 62 os) #[.slice none 0 0, .int .i64 0, .int .i64 0, .int .i64 0] 8 rfl (World.shaped_of_RefB (by kernel_rfl) (by kernel_rfl)) (by kernel_rfl) (by kernel_rfl) (by kernel_rfl) (door_met os _)) ?_
  intro W base args ds gs before hval0 hW _ _ hL _
  have hval : ∀ (j : Nat) t v, Tryz.f10.params[j]? = some t → args[j]? = some v → Value.okWide Tryz.prog W .any base t v := hval0
  have hW' := hW
  obtain ⟨p, q, hA0, hV, rfl, hfz, hnd⟩ := hW
  have hA : DataW.TrodAll enc Tryz.prog W 0 (fun _ => true) true Tryz.f10.params.toList args.toList ds p := hA0
  rw [Tryz.params10] at hA hval
  obtain ⟨v0, vs0, d0, ds0, p0, q0, hargs, rfl, rfl, h0, r0⟩ := trodAll_cons hA
  obtain ⟨v1, vs1, d1, ds1, p1, q1, rfl, rfl, rfl, h1, r1⟩ := trodAll_cons r0
  obtain ⟨v2, vs2, d2, ds2, p2, q2, rfl, rfl, rfl, h2, r2⟩ := trodAll_cons r1
  obtain ⟨v3, vs3, d3, ds3, p3, q3, rfl, rfl, rfl, h3, r3⟩ := trodAll_cons r2
  obtain ⟨rfl, rfl, rfl⟩ := trodAll_nil r3
  obtain rfl : args = #[v0, v1, v2, v3] := by cases args; simp_all
  obtain ⟨rfl, rfl⟩ := trodVars_none hV
  obtain ⟨s0, n0, m0, rfl⟩ := okWide_slice Tryz.underlying22 (hval 0 22 v0 rfl rfl)
  have k0 := h0
  have lt0 : ∀ x ∈ p0, x.block < W.heap.size := by obtain ⟨m, hm⟩ := k0; exact DataW.trod_lt m _ _ _ hm
  obtain ⟨z0, w0⟩ := (by obtain ⟨fuel, hf⟩ := h0; exact open_loads hf : ∃ zs, ALds W s0 n0 m0 zs)
  obtain ⟨a1, rfl, rfl, rfl, w1⟩ := open_int Tryz.underlying2 (hval 1 2 v1 rfl rfl) h1
  obtain ⟨a2, rfl, rfl, rfl, w2⟩ := open_int Tryz.underlying2 (hval 2 2 v2 rfl rfl) h2
  obtain ⟨a3, rfl, rfl, rfl, w3⟩ := open_int Tryz.underlying2 (hval 3 2 v3 rfl rfl) h3
  clear hA0 hval0
  simp only [List.append_nil] at hW'
  refine (walk s0 n0 m0 z0 a1 a2 a3 W (env_of_laid hL) w0 w1 w2 w3).mono fun e W' ⟨he, bel⟩ => ?_
  subst he
  exact ⟨_, rfl, _, _, _, [], _, [], hW', trodAll_mk1 (shut_bool Tryz.underlying4 _), (trodAll_cons_mk (Below.trod laidOut (by kernel_rfl) (of_decide_eq_true (by kernel_rfl)) k0 bel lt0) (trodAll_cons_mk (shut_int Tryz.underlying2 w1) (trodAll_cons_mk (shut_int Tryz.underlying2 w2) (trodAll_cons_mk (shut_int Tryz.underlying2 w3) trodAll_mk0)))), rfl, bel.frame _, fun h => by cases h⟩

theorem closed : joinedFacts Tryz.pinned.checked.prog 10 Tryz.f10 Rows.mostJustSpec Rows.mostJustRow = true := by
  generalize hP : Tryz.pinned.checked.prog = P
  simp only [joinedFacts, Bool.and_eq_true]
  subst hP
  refine ⟨⟨⟨⟨⟨⟨⟨⟨⟨⟨⟨⟨⟨⟨⟨⟨⟨⟨⟨⟨⟨⟨⟨⟨⟨⟨⟨⟨⟨⟨⟨?k1, ?k2⟩, ?k3⟩, ?k4⟩, ?k5⟩, ?k6⟩, ?k7⟩, ?k8⟩, ?k9⟩, ?k10⟩, ?k11⟩, ?k12⟩, ?k13⟩, ?k14⟩, ?k15⟩, ?k16⟩, ?k17⟩, ?k18⟩, ?k19⟩, ?k20⟩, ?k21⟩, ?k22⟩, ?k23⟩, ?k24⟩, ?k25⟩, ?k26⟩, ?k27⟩, ?k28⟩, ?k29⟩, ?k30⟩, ?k31⟩, ?k32⟩
  case k26 => exact head_enter
  case k27 => show (false == Tryz.prog.liftsFinal) = true; rw [head_lifts]; rfl
  case k28 => exact head_make
  all_goals kernel_rfl
theorem over : Rows.mostJustRow.holds Tryz.pinned (OpenSpec.ofChange Rows.mostJustSpec) :=
  OpenClaim.holds_of_wide 10 Tryz.f10 rfl rfl rfl rfl rfl rfl rfl ⟨rfl, rfl, rfl, rfl, rfl⟩ rfl rfl rfl rfl rfl (by kernel_rfl) Tryz.func10 closed
    (of_decide_eq_true (by kernel_rfl)) (by unfold Func.isWrapper; first | (rw [if_pos (by decide +kernel)]; kernel_rfl) | (rw [if_neg (by decide +kernel)]; exact ⟨rfl, rfl⟩))
    (fun os started H enc _ => lifted os started H enc)

theorem proved : Rows.MostJustCardSaid :=
  Claim7.holds_tied_plain_at .later [] [.data, .data, .data, .sentinel, .sentinel] true (true, "5593ad2a5a772f8be195e0fe692033ff87e224b9e1f3bacf87f13d01f91435b9") true
    over (fun _ h => by cases h) (by kernel_rfl) (fun _ h => by cases h) mostJust_row_tie rfl ⟨rfl, rfl⟩ head_main rfl
    (fun f fn hf hfn => by
      obtain rfl : f = 10 := Option.some.inj ((show Tryz.prog.funcNamed "hortator/hortatorlaw9.MostJust" = some 10 by kernel_rfl).symm.trans hf) |>.symm
      obtain rfl : fn = Tryz.f10 := (Option.some.inj (Tryz.func10.symm.trans hfn)).symm
      exact ⟨by kernel_rfl, fun j t ht => by
        rw [Tryz.params10] at ht
        match j, ht with
        | 0, ht => obtain rfl : t = 22 := by simpa using ht.symm
                   exact (show Tryz.prog.wantsStandIn 22 = false by kernel_rfl)
        | 1, ht => obtain rfl : t = 2 := by simpa using ht.symm
                   exact (show Tryz.prog.wantsStandIn 2 = false by kernel_rfl)
        | 2, ht => obtain rfl : t = 2 := by simpa using ht.symm
                   exact (show Tryz.prog.wantsStandIn 2 = false by kernel_rfl)
        | 3, ht => obtain rfl : t = 2 := by simpa using ht.symm
                   exact (show Tryz.prog.wantsStandIn 2 = false by kernel_rfl)
        | (_ + 4), ht => simp at ht⟩)
    (by kernel_rfl)
end Go.Proofs.YtpbjodbcmaaheaaGreatDoor.mostJust
