/-
PROVED: the statement hortatorlaw9.DemandTwo answers true over the landed packages: two loads of one distance fit just if their work does, each in its time.
  CONDITIONS: the listed variables of strconv and math/bits hold what the program's text lays (the card ties them).
-/
import Derived.Test.YtpbjodbcmaaheaaGreatDoorRows
import Derived.Test.YtpbjodbcmaaheaaGreatDoorTie
import Derived.Test.YtpbjodbcmaaheaaGreatDoorCards
import Derived.WalkKit
import Derived.ProofKit
import Derived.OpenShut
import Derived.ShutString
import Derived.ChangeOld
import Derived.Below
import Derived.SevenTiedAt
import Derived.Test.YtpbjodbcmaaheaaGreatDoorLaid
import Derived.Test.YtpbjodbcmaaheaaGreatDoorHead
import Derived.Carry
import Derived.Deep.Cut
import Derived.Deep.CutRange
import Derived.Deep.RegionWith
import Derived.Deep.RegionHeld3
import Derived.Deep.LoopGhost
import Derived.Deep.QuietTactic
import Derived.BigQuiet
import Derived.Test.YtpbjodbcmaaheaaGreatDoorArgs9J
import Derived.Test.YtpbjodbcmaaheaaGreatDoorBegun9
import Derived.Test.YtpbjodbcmaaheaaGreatDoorBits9
import Derived.Test.YtpbjodbcmaaheaaGreatDoorBMath5
import Derived.Test.YtpbjodbcmaaheaaGreatDoorApp92
namespace Go.Proofs.YtpbjodbcmaaheaaGreatDoor.demandTwo
open Go.ChangeShapes Go.WideShapes Go.ChangeAt Go.RowKit
open Go.ChangeMaps (open_string shut_string)
set_option linter.unusedVariables false

theorem own : ownKnob Tryz.prog.godebug = none := by kernel_rfl
theorem laidOut : laidOutB Tryz.prog = true := by kernel_rfl

set_option maxHeartbeats 8000000 in
set_option maxRecDepth 100000 in
theorem walk (a0 : Int) (a1 : Int) (a2 : Int) (a3 : Int) (a4 : Int) (w : World) (hE : Env w) (w0 : (Lit.int .i64 a0).wf = true) (w1 : (Lit.int .i64 a1).wf = true) (w2 : (Lit.int .i64 a2).wf = true) (w3 : (Lit.int .i64 a3).wf = true) (w4 : (Lit.int .i64 a4).wf = true) :
    Calls Tryz.prog 20 #[.int .i64 a0, .int .i64 a1, .int .i64 a2, .int .i64 a3, .int .i64 a4] w fun e w' => e = .returned (.bool true) ∧ Below w.heap.size w w' := by
  obtain ⟨l0, h0⟩ := bounds_i64 w0
  obtain ⟨l1, h1⟩ := bounds_i64 w1
  obtain ⟨l2, h2⟩ := bounds_i64 w2
  obtain ⟨l3, h3⟩ := bounds_i64 w3
  obtain ⟨l4, h4⟩ := bounds_i64 w4
  have HE : Hid (Env w) := hE
  clear hE
  go_enter Tryz.func20, Tryz.ntmps20
  go_wp2_with fail
  refine (begun9_any w HE.out).mono ?_
  rintro e v1 ⟨rfl, g1⟩
  have G1 : Hid (Below w.heap.size w v1) := g1
  clear g1
  obtain ⟨t, ht⟩ : ∃ t, 2 + a4 % 32 = t := ⟨_, rfl⟩
  obtain ⟨a, ha⟩ : ∃ a, 1 + a0 % 32 = a := ⟨_, rfl⟩
  obtain ⟨b, hb⟩ : ∃ b, 1 + a1 % 32 = b := ⟨_, rfl⟩
  have t1 : 2 ≤ t ∧ t ≤ 33 := by omega
  have a1b : 1 ≤ a ∧ a ≤ 32 := by omega
  have b1b : 1 ≤ b ∧ b ≤ 32 := by omega
  obtain ⟨t2, t3⟩ := t1
  obtain ⟨a2b, a3b⟩ := a1b
  obtain ⟨b2b, b3b⟩ := b1b
  have e1 := and31 a0
  have e2 := and31 a1
  have e3 := and31 a4
  have m1 := T.t_lt a2 t (by omega)
  have m2 := T.t_lt a3 t (by omega)
  obtain ⟨D, hD⟩ : ∃ D, a2.tmod t = D := ⟨_, rfl⟩
  obtain ⟨E, hE2⟩ : ∃ E, a3.tmod t = E := ⟨_, rfl⟩
  rw [hD] at m1
  rw [hE2] at m2
  obtain ⟨m3, m4⟩ := m1
  obtain ⟨m5, m6⟩ := m2
  obtain ⟨d, hd⟩ : ∃ d, 1 + D = d := ⟨_, rfl⟩
  obtain ⟨e, he⟩ : ∃ e, 1 + E = e := ⟨_, rfl⟩
  have d1 : d ≤ t := by omega
  have f1 : e ≤ t := by omega
  have d9 : -33 ≤ d := by omega
  have f9 : -33 ≤ e := by omega
  have tz : (t == 0) = false := by simp; omega
  have q1 : min d t = d := by omega
  have q2 : min e t = e := by omega
  obtain ⟨x, hx⟩ : ∃ x, max d e = x := ⟨_, rfl⟩
  have HXX : Hid (max d e = x) := hx
  by_cases h1 : d < 1
  · go_wp2_with fail
    go_quiet (fail)
    go_wp2_with fail
    go_ret
    exact ⟨rfl, btrans G1.out (bdrewN _ _)⟩
  by_cases h2 : e < 1
  · go_wp2_with fail
    go_quiet (fail)
    go_wp2_with fail
    go_ret
    exact ⟨rfl, btrans G1.out (bdrewN _ _)⟩
  go_wp2_with fail
  go_quiet (fail)
  by_cases h4 : t < a + b
  · by_cases k1 : a ≤ d
    · by_cases k2 : b ≤ e
      · by_cases k3 : a + b ≤ x
        · exfalso
          omega
        · have HB : Hid (fitB [⟨a, d, t⟩, ⟨b, e, t⟩] = false) := by unfold Hid; rw [two_fit a2b (by omega) b2b (by omega) (by omega) d1 (by omega) f1 (by omega)]; unfold twoB; rw [HXX.out]; simp; omega
          go_wp2_with fail
          refine (dfits_any _ [⟨a, d, t⟩, ⟨b, e, t⟩] _ (secs_two _ a d t b e t _) (by simp)).mono ?_
          rintro e0 v2 ⟨rfl, g2⟩
          rw [HB.out]
          have G2 : Hid (Below w.heap.size w v2) := btrans (btrans (btrans G1.out (bdrewN _ _)) (balloc _ _)) g2
          clear g2
          go_wp2_with fail
          go_ret
          exact ⟨ret_bool (by simp), G2.out⟩
      · have HB : Hid (fitB [⟨a, d, t⟩, ⟨b, e, t⟩] = false) := by unfold Hid; rw [two_fit a2b (by omega) b2b (by omega) (by omega) d1 (by omega) f1 (by omega)]; unfold twoB; rw [HXX.out]; simp; omega
        go_wp2_with fail
        refine (dfits_any _ [⟨a, d, t⟩, ⟨b, e, t⟩] _ (secs_two _ a d t b e t _) (by simp)).mono ?_
        rintro e0 v2 ⟨rfl, g2⟩
        rw [HB.out]
        have G2 : Hid (Below w.heap.size w v2) := btrans (btrans (btrans G1.out (bdrewN _ _)) (balloc _ _)) g2
        clear g2
        go_wp2_with fail
        go_ret
        exact ⟨ret_bool (by simp), G2.out⟩
    · have HB : Hid (fitB [⟨a, d, t⟩, ⟨b, e, t⟩] = false) := by unfold Hid; rw [two_fit a2b (by omega) b2b (by omega) (by omega) d1 (by omega) f1 (by omega)]; unfold twoB; rw [HXX.out]; simp; omega
      go_wp2_with fail
      refine (dfits_any _ [⟨a, d, t⟩, ⟨b, e, t⟩] _ (secs_two _ a d t b e t _) (by simp)).mono ?_
      rintro e0 v2 ⟨rfl, g2⟩
      rw [HB.out]
      have G2 : Hid (Below w.heap.size w v2) := btrans (btrans (btrans G1.out (bdrewN _ _)) (balloc _ _)) g2
      clear g2
      go_wp2_with fail
      go_ret
      exact ⟨ret_bool (by simp), G2.out⟩
  by_cases k1 : a ≤ d
  · by_cases k2 : b ≤ e
    · by_cases k3 : a + b ≤ x
      · have HB : Hid (fitB [⟨a, d, t⟩, ⟨b, e, t⟩] = true) := by unfold Hid; rw [two_fit a2b (by omega) b2b (by omega) (by omega) d1 (by omega) f1 (by omega)]; unfold twoB; rw [HXX.out]; simp; omega
        go_wp2_with fail
        refine (dfits_any _ [⟨a, d, t⟩, ⟨b, e, t⟩] _ (secs_two _ a d t b e t _) (by simp)).mono ?_
        rintro e0 v2 ⟨rfl, g2⟩
        rw [HB.out]
        have G2 : Hid (Below w.heap.size w v2) := btrans (btrans (btrans G1.out (bdrewN _ _)) (balloc _ _)) g2
        clear g2
        go_wp2_with fail
        go_ret
        exact ⟨ret_bool (by simp), G2.out⟩
      · have HB : Hid (fitB [⟨a, d, t⟩, ⟨b, e, t⟩] = false) := by unfold Hid; rw [two_fit a2b (by omega) b2b (by omega) (by omega) d1 (by omega) f1 (by omega)]; unfold twoB; rw [HXX.out]; simp; omega
        go_wp2_with fail
        refine (dfits_any _ [⟨a, d, t⟩, ⟨b, e, t⟩] _ (secs_two _ a d t b e t _) (by simp)).mono ?_
        rintro e0 v2 ⟨rfl, g2⟩
        rw [HB.out]
        have G2 : Hid (Below w.heap.size w v2) := btrans (btrans (btrans G1.out (bdrewN _ _)) (balloc _ _)) g2
        clear g2
        go_wp2_with fail
        go_ret
        exact ⟨ret_bool (by simp), G2.out⟩
    · have HB : Hid (fitB [⟨a, d, t⟩, ⟨b, e, t⟩] = false) := by unfold Hid; rw [two_fit a2b (by omega) b2b (by omega) (by omega) d1 (by omega) f1 (by omega)]; unfold twoB; rw [HXX.out]; simp; omega
      go_wp2_with fail
      refine (dfits_any _ [⟨a, d, t⟩, ⟨b, e, t⟩] _ (secs_two _ a d t b e t _) (by simp)).mono ?_
      rintro e0 v2 ⟨rfl, g2⟩
      rw [HB.out]
      have G2 : Hid (Below w.heap.size w v2) := btrans (btrans (btrans G1.out (bdrewN _ _)) (balloc _ _)) g2
      clear g2
      go_wp2_with fail
      go_ret
      exact ⟨ret_bool (by simp), G2.out⟩
  · have HB : Hid (fitB [⟨a, d, t⟩, ⟨b, e, t⟩] = false) := by unfold Hid; rw [two_fit a2b (by omega) b2b (by omega) (by omega) d1 (by omega) f1 (by omega)]; unfold twoB; rw [HXX.out]; simp; omega
    go_wp2_with fail
    refine (dfits_any _ [⟨a, d, t⟩, ⟨b, e, t⟩] _ (secs_two _ a d t b e t _) (by simp)).mono ?_
    rintro e0 v2 ⟨rfl, g2⟩
    rw [HB.out]
    have G2 : Hid (Below w.heap.size w v2) := btrans (btrans (btrans G1.out (bdrewN _ _)) (balloc _ _)) g2
    clear g2
    go_wp2_with fail
    go_ret
    exact ⟨ret_bool (by simp), G2.out⟩

set_option maxRecDepth 100000 in
theorem lifted (os : Os) (started : os.Started) (H : Type) (enc : TypeId × Value → H) :
    ReturnsInHanded {} Tryz.checked os 20 .any (fun w args => (Rows.demandTwoSpec.pre enc Tryz.prog Tryz.f20 [] false w args ∧ laidMetH Tryz.prog laid5 w) ∧ sizedMet enc Tryz.prog Tryz.f20 (OpenSpec.ofChange Rows.demandTwoSpec) false w args)
      (Rows.demandTwoSpec.post enc Tryz.prog Tryz.f20 false true false false) := by
  refine returnsInHanded_of_change_and (C := Tryz.checked) (X := fun w _ => laidMetH Tryz.prog laid5 w) (fun _ _ _ hh h => h.of_heap hh) own started (by kernel_rfl) Tryz.func20
    (ChangeSpec.witness_shaped (enc := enc) (C := Tryz.checked) (os := os) (X := fun w _ => laidMetH Tryz.prog laid5 w) false (World.doorLaid Tryz.prog 62 os) #[.int .i64 0, .int .i64 0, .int .i64 0, .int .i64 0, .int .i64 0] 8 rfl (World.shaped_of_RefB (by kernel_rfl) (by kernel_rfl)) (by kernel_rfl) (by kernel_rfl) (by kernel_rfl) (door_met os _)) ?_
  intro W base args ds gs before hval0 hW _ _ hL _
  have hval : ∀ (j : Nat) t v, Tryz.f20.params[j]? = some t → args[j]? = some v → Value.okWide Tryz.prog W .any base t v := hval0
  have hW' := hW
  obtain ⟨p, q, hA0, hV, rfl, hfz, hnd⟩ := hW
  have hA : DataW.TrodAll enc Tryz.prog W 0 (fun _ => true) true Tryz.f20.params.toList args.toList ds p := hA0
  rw [Tryz.params20] at hA hval
  obtain ⟨v0, vs0, d0, ds0, p0, q0, hargs, rfl, rfl, h0, r0⟩ := trodAll_cons hA
  obtain ⟨v1, vs1, d1, ds1, p1, q1, rfl, rfl, rfl, h1, r1⟩ := trodAll_cons r0
  obtain ⟨v2, vs2, d2, ds2, p2, q2, rfl, rfl, rfl, h2, r2⟩ := trodAll_cons r1
  obtain ⟨v3, vs3, d3, ds3, p3, q3, rfl, rfl, rfl, h3, r3⟩ := trodAll_cons r2
  obtain ⟨v4, vs4, d4, ds4, p4, q4, rfl, rfl, rfl, h4, r4⟩ := trodAll_cons r3
  obtain ⟨rfl, rfl, rfl⟩ := trodAll_nil r4
  obtain rfl : args = #[v0, v1, v2, v3, v4] := by cases args; simp_all
  obtain ⟨rfl, rfl⟩ := trodVars_none hV
  obtain ⟨a0, rfl, rfl, rfl, w0⟩ := open_int Tryz.underlying2 (hval 0 2 v0 rfl rfl) h0
  obtain ⟨a1, rfl, rfl, rfl, w1⟩ := open_int Tryz.underlying2 (hval 1 2 v1 rfl rfl) h1
  obtain ⟨a2, rfl, rfl, rfl, w2⟩ := open_int Tryz.underlying2 (hval 2 2 v2 rfl rfl) h2
  obtain ⟨a3, rfl, rfl, rfl, w3⟩ := open_int Tryz.underlying2 (hval 3 2 v3 rfl rfl) h3
  obtain ⟨a4, rfl, rfl, rfl, w4⟩ := open_int Tryz.underlying2 (hval 4 2 v4 rfl rfl) h4
  clear hA0 hval0
  simp only [List.append_nil] at hW'
  refine (walk a0 a1 a2 a3 a4 W (env_of_laid hL) w0 w1 w2 w3 w4).mono fun e W' ⟨he, bel⟩ => ?_
  subst he
  exact ⟨_, rfl, _, _, _, [], _, [], hW', trodAll_mk1 (shut_bool Tryz.underlying4 _), (trodAll_cons_mk (shut_int Tryz.underlying2 w0) (trodAll_cons_mk (shut_int Tryz.underlying2 w1) (trodAll_cons_mk (shut_int Tryz.underlying2 w2) (trodAll_cons_mk (shut_int Tryz.underlying2 w3) (trodAll_cons_mk (shut_int Tryz.underlying2 w4) trodAll_mk0))))), rfl, bel.frame _, fun h => by cases h⟩

theorem closed : joinedFacts Tryz.pinned.checked.prog 20 Tryz.f20 Rows.demandTwoSpec Rows.demandTwoRow = true := by
  generalize hP : Tryz.pinned.checked.prog = P
  simp only [joinedFacts, Bool.and_eq_true]
  subst hP
  refine ⟨⟨⟨⟨⟨⟨⟨⟨⟨⟨⟨⟨⟨⟨⟨⟨⟨⟨⟨⟨⟨⟨⟨⟨⟨⟨⟨⟨⟨⟨⟨?k1, ?k2⟩, ?k3⟩, ?k4⟩, ?k5⟩, ?k6⟩, ?k7⟩, ?k8⟩, ?k9⟩, ?k10⟩, ?k11⟩, ?k12⟩, ?k13⟩, ?k14⟩, ?k15⟩, ?k16⟩, ?k17⟩, ?k18⟩, ?k19⟩, ?k20⟩, ?k21⟩, ?k22⟩, ?k23⟩, ?k24⟩, ?k25⟩, ?k26⟩, ?k27⟩, ?k28⟩, ?k29⟩, ?k30⟩, ?k31⟩, ?k32⟩
  case k26 => exact head_enter
  case k27 => show (false == Tryz.prog.liftsFinal) = true; rw [head_lifts]; rfl
  case k28 => exact head_make
  all_goals kernel_rfl
theorem over : Rows.demandTwoRow.holds Tryz.pinned (OpenSpec.ofChange Rows.demandTwoSpec) :=
  OpenClaim.holds_of_wide 20 Tryz.f20 rfl rfl rfl rfl rfl rfl rfl ⟨rfl, rfl, rfl, rfl, rfl⟩ rfl rfl rfl rfl rfl (by kernel_rfl) Tryz.func20 closed
    (of_decide_eq_true (by kernel_rfl)) (by unfold Func.isWrapper; first | (rw [if_pos (by decide +kernel)]; kernel_rfl) | (rw [if_neg (by decide +kernel)]; exact ⟨rfl, rfl⟩))
    (fun os started H enc _ => lifted os started H enc)

theorem proved : Rows.DemandTwoCardSaid :=
  Claim7.holds_tied_plain_at .later [] [.data, .data, .data, .sentinel, .sentinel] true (true, "5593ad2a5a772f8be195e0fe692033ff87e224b9e1f3bacf87f13d01f91435b9") true
    over (fun _ h => by cases h) (by kernel_rfl) (fun _ h => by cases h) demandTwo_row_tie rfl ⟨rfl, rfl⟩ head_main rfl
    (fun f fn hf hfn => by
      obtain rfl : f = 20 := Option.some.inj ((show Tryz.prog.funcNamed "hortator/hortatorlaw9.DemandTwo" = some 20 by kernel_rfl).symm.trans hf) |>.symm
      obtain rfl : fn = Tryz.f20 := (Option.some.inj (Tryz.func20.symm.trans hfn)).symm
      exact ⟨by kernel_rfl, fun j t ht => by
        rw [Tryz.params20] at ht
        match j, ht with
        | 0, ht => obtain rfl : t = 2 := by simpa using ht.symm
                   exact (show Tryz.prog.wantsStandIn 2 = false by kernel_rfl)
        | 1, ht => obtain rfl : t = 2 := by simpa using ht.symm
                   exact (show Tryz.prog.wantsStandIn 2 = false by kernel_rfl)
        | 2, ht => obtain rfl : t = 2 := by simpa using ht.symm
                   exact (show Tryz.prog.wantsStandIn 2 = false by kernel_rfl)
        | 3, ht => obtain rfl : t = 2 := by simpa using ht.symm
                   exact (show Tryz.prog.wantsStandIn 2 = false by kernel_rfl)
        | 4, ht => obtain rfl : t = 2 := by simpa using ht.symm
                   exact (show Tryz.prog.wantsStandIn 2 = false by kernel_rfl)
        | (_ + 5), ht => simp at ht⟩)
    (by kernel_rfl)
end Go.Proofs.YtpbjodbcmaaheaaGreatDoor.demandTwo
