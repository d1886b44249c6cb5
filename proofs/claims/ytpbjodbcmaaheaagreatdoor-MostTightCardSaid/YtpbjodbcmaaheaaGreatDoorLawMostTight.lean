/-
PROVED: the statement hortatorlaw9.MostTight answers true over the landed packages: without slack as much as was told fits, and each lesser one; one more does not.
  CONDITIONS: the listed variables of strconv and math/bits hold what the program's text lays (the card ties them).
-/
import Derived.Test.YtpbjodbcmaaheaaGreatDoorRows
import Derived.Test.YtpbjodbcmaaheaaGreatDoorTie
import Derived.Test.YtpbjodbcmaaheaaGreatDoorCards
import Derived.WalkKit
import Derived.ProofKit
import Derived.OpenShut
import Derived.ShutString
import Derived.ChangeOld
import Derived.Below
import Derived.SevenTiedAt
import Derived.Test.YtpbjodbcmaaheaaGreatDoorLaid
import Derived.Test.YtpbjodbcmaaheaaGreatDoorHead
import Derived.Carry
import Derived.Deep.Cut
import Derived.Deep.CutRange
import Derived.Deep.RegionWith
import Derived.Deep.RegionHeld3
import Derived.Deep.LoopGhost
import Derived.Deep.QuietTactic
import Derived.BigQuiet
import Derived.Test.YtpbjodbcmaaheaaGreatDoorArgs9J
import Derived.Test.YtpbjodbcmaaheaaGreatDoorBegun9
import Derived.Test.YtpbjodbcmaaheaaGreatDoorBits9
import Derived.Test.YtpbjodbcmaaheaaGreatDoorBMath5
import Derived.Test.YtpbjodbcmaaheaaGreatDoorApp9
namespace Go.Proofs.YtpbjodbcmaaheaaGreatDoor.mostTight
open Go.ChangeShapes Go.WideShapes Go.ChangeAt Go.RowKit
open Go.ChangeMaps (open_string shut_string)
set_option linter.unusedVariables false

theorem own : ownKnob Tryz.prog.godebug = none := by kernel_rfl
theorem laidOut : laidOutB Tryz.prog = true := by kernel_rfl

set_option maxHeartbeats 8000000 in
set_option maxRecDepth 100000 in
theorem walk (s0 : Option Addr) (n0 m0 : Nat) (z0 : List Sec) (a1 : Int) (a2 : Int) (w : World) (hE : Env w) (w0 : ALds w s0 n0 m0 z0) (w1 : (Lit.int .i64 a1).wf = true) (w2 : (Lit.int .i64 a2).wf = true) :
    Calls Tryz.prog 18 #[.slice s0 n0 m0, .int .i64 a1, .int .i64 a2] w fun e w' => e = .returned (.bool true) ∧ Below w.heap.size w w' := by
  obtain ⟨i0, hi0, hz0, hz1, hz2⟩ := info_parts infoL
  obtain ⟨l1, h1⟩ := bounds_i64 w1
  obtain ⟨l2, h2⟩ := bounds_i64 w2
  have HE : Hid (Env w) := hE
  have HA : Hid (ALds w s0 n0 m0 z0) := w0
  clear hE w0
  go_enter Tryz.func18, Tryz.ntmps18
  go_wp2_with fail
  refine (begun9_any w HE.out).mono ?_
  rintro e v1 ⟨rfl, g1⟩
  have G1 : Hid (Below w.heap.size w v1) := g1
  clear g1
  go_wp2_with fail
  refine (lloads_at s0 n0 m0 z0 w _ G1.out HA.out).mono ?_
  rintro e v2 ⟨a, n, cap, l, rfl, hl, n10, c2, g2⟩
  have G2 : Hid (Below w.heap.size w v2) := g2
  have C2 : Hid (Cop9 v2 w.heap.size a n cap l) := c2
  have HL : Hid (l.length ≤ 1000000) := by have := c2.len; show _ ≤ _; omega
  have HS : Hid (l.length ≤ 1000) := by have := c2.len; show _ ≤ _; omega
  clear g2 hl c2
  obtain ⟨t, ht⟩ : ∃ t, 1 + a1 % 64 = t := ⟨_, rfl⟩
  obtain ⟨p, hp⟩ : ∃ p, 1 + a2 % 32 = p := ⟨_, rfl⟩
  have t1 : 1 ≤ t ∧ t ≤ 64 := by omega
  have p1 : 1 ≤ p ∧ p ≤ 32 := by omega
  obtain ⟨t2, t3⟩ := t1
  obtain ⟨p2, p3⟩ := p1
  have e1 := and63 a1
  have e2 := and31 a2
  obtain ⟨m, hm⟩ : ∃ m : Nat, min p t = m := ⟨(min p t).toNat, by omega⟩
  have HX : Hid (tightV l t p = (grN (pTight l t) m : Nat)) := tight_is (may_yes (by rw [C2.out.len]; omega) (by omega) (by omega) (by omega)) hm
  obtain ⟨x, hx⟩ : ∃ x, grN (pTight l t) m = x := ⟨_, rfl⟩
  rw [hx] at HX
  have xm : x ≤ m := by rw [← hx]; exact gr_le _ _
  have HG : Hid (∀ c, 1 ≤ c → c ≤ x → pTight l t c = true) := fun c h1 h2 => gr_below (pTight_falls _ _) h1 (by rw [hx]; exact h2)
  have HE2 : Hid (x < m → pTight l t (x + 1) = false) := fun h => (gr_is (pTight l t) m).2 (x + 1) (by rw [hx]; omega) (by omega)
  clear hx
  cases hf : fitB l
  · have HF : Hid (fitB l = false) := hf
    clear hf
    have HZ : Hid (tightV l t p = 0) := tight_unfit HF.out _ _
    go_wp2_with fail
    refine (mtight_any a n cap l t p _ C2.out.sec C2.out.cap C2.out.len (by omega)).mono ?_
    rintro e v3 ⟨rfl, g3⟩
    rw [HZ.out]
    have G3 : Hid (Below w.heap.size w v3) := btrans G2.out g3
    have C3 : Hid (Cop9 v3 w.heap.size a n cap l) := C2.out.below g3
    clear g3 G2 C2
    go_wp2_with fail
    refine (dfits_any _ l _ C3.out.sec HL.out).mono ?_
    rintro e v4 ⟨rfl, g4⟩
    rw [HF.out]
    have G4 : Hid (Below w.heap.size w v4) := btrans G3.out g4
    have C4 : Hid (Cop9 v4 w.heap.size a n cap l) := C3.out.below g4
    clear g4 G3 C3
    go_wp2_with fail
    go_ret
    exact ⟨ret_bool (by simp), G4.out⟩
  · have HF : Hid (fitB l = true) := hf
    clear hf
    go_wp2_with fail
    refine (mtight_any a n cap l t p _ C2.out.sec C2.out.cap C2.out.len (by omega)).mono ?_
    rintro e v3 ⟨rfl, g3⟩
    rw [HX.out]
    have G3 : Hid (Below w.heap.size w v3) := btrans G2.out g3
    have C3 : Hid (Cop9 v3 w.heap.size a n cap l) := C2.out.below g3
    clear g3 G2 C2
    go_wp2_with fail
    refine (dfits_any _ l _ C3.out.sec HL.out).mono ?_
    rintro e v4 ⟨rfl, g4⟩
    rw [HF.out]
    have G4 : Hid (Below w.heap.size w v4) := btrans G3.out g4
    have C4 : Hid (Cop9 v4 w.heap.size a n cap l) := C3.out.below g4
    clear g4 G3 C3
    go_wp2_with fail
    go_loopw [9] (fun y wr => ∃ c : Nat, 1 ≤ c ∧ c ≤ x + 1 ∧ y = .int .i64 c ∧ Below v4.heap.size v4 wr) (fun y _ => (x + 1) - (intOf y).toNat)
    case atStart => exact ⟨1, by omega, by omega, rfl, Below.refl _ _⟩
    case round =>
      obtain ⟨c, c1, c2, rfl, hB⟩ := hrel
      have G5 : Hid (Below w.heap.size w wr) := btrans G4.out hB
      have C5 : Hid (Cop9 wr w.heap.size a n cap l) := C4.out.below hB
      have B5 : Hid (Below v4.heap.size v4 wr) := hB
      clear hB
      by_cases hlt : c ≤ x
      · have HP : Hid (fitB (l ++ [⟨c, c, t⟩]) = true) := HG.out c c1 hlt
        have Nd : Hid (Cop9 wr w.heap.size a n cap l) := C5
        go_wp2_with (first | (go_at_call 24; refine (lloads_new a n cap _ l _ Nd.out n10).mono ?_; rintro e ud ⟨bd, kd, rfl, dd, gd⟩; have Dd : Hid (Cop9 ud wr.heap.size bd n kd l ∧ Below wr.heap.size wr ud) := ⟨dd, gd⟩; clear dd gd) | (at_builtin; refine wpList_append_own_at _ rfl (.tmp 36) (.tmp 41) 22 rfl _ 31 i0 (.agg #[.int .i64 0, .int .i64 0, .int .i64 0]) 3 24 Tryz.underlying22 hi0 hz0 hz1 hz2 rfl (by decide) _ n (secC l) rfl (OwnL.row (Dd.out.1.own.below (balloc ud _)) Dd.out.1.len) ⟨ud.heap.size, 0, none⟩ 1 1 (secC [⟨c, c, t⟩]) rfl rfl (news_one _ _ _ _ _) (secC_one _) (by unfold maxLen; omega) (by omega) (by have := Dd.out.2.size; simp; omega) ?_; intro yd v6 own gr nl at_; obtain ⟨ad, capd, e, cd, g6⟩ := app_end Dd.out.1 Dd.out.2 own gr; subst e; have Ed : Hid (Cop9 v6 wr.heap.size ad (n + 1) capd (l ++ [⟨c, c, t⟩])) := cd; have G6 : Hid (Below w.heap.size w v6) := btrans G5.out g6; have C6 : Hid (Cop9 v6 w.heap.size a n cap l) := C5.out.below g6; have B6 : Hid (Below v4.heap.size v4 v6) := btrans B5.out g6; clear own gr nl at_ cd g6 Dd Nd))
        go_wp2_with fail
        refine (dfits_any _ (l ++ [⟨c, c, t⟩]) _ Ed.out.sec (by rw [Ed.out.len]; omega)).mono ?_
        rintro e v7 ⟨rfl, g7⟩
        rw [HP.out]
        have B7 : Hid (Below v4.heap.size v4 v7) := btrans B6.out g7
        clear g7
        go_wp2_with fail
        go_round
        case rel => exact ⟨c + 1, by omega, by omega, by go_num, B7.out⟩
        case measure => simp [intOf]; omega
      · obtain rfl : c = x + 1 := by omega
        by_cases hxm : x = m
        · subst hxm
          go_wp2_with fail
          go_ret
          exact ⟨ret_bool (by simp), G5.out⟩
        · have d0 : ((x : Int) == (m : Int)) = false := by simp; omega
          have HP : Hid (fitB (l ++ [⟨(x : Int) + 1, (x : Int) + 1, t⟩]) = false) := HE2.out (by omega)
          have Nd : Hid (Cop9 wr w.heap.size a n cap l) := C5
          go_wp2_with (first | (go_at_call 24; refine (lloads_new a n cap _ l _ Nd.out n10).mono ?_; rintro e ud ⟨bd, kd, rfl, dd, gd⟩; have Dd : Hid (Cop9 ud wr.heap.size bd n kd l ∧ Below wr.heap.size wr ud) := ⟨dd, gd⟩; clear dd gd) | (at_builtin; refine wpList_append_want _ (by rfl) (.tmp 52) (.tmp 59) 22 rfl _ 31 i0 (.agg #[.int .i64 0, .int .i64 0, .int .i64 0]) 3 24 Tryz.underlying22 hi0 hz0 hz1 hz2 rfl (by decide) _ n (secC l) rfl (OwnL.row (Dd.out.1.own.below (balloc ud _)) Dd.out.1.len) ⟨ud.heap.size, 0, none⟩ 1 1 (secC [⟨(x : Int) + 1, (x : Int) + 1, t⟩]) rfl rfl (news_one _ _ _ _ _) (secC_one _) (by unfold maxLen; omega) (by omega) (by have := Dd.out.2.size; simp; omega) ?_; intro yd v6 own gr nl at_; obtain ⟨ad, capd, e, cd, g6⟩ := app_end Dd.out.1 Dd.out.2 own gr; subst e; have Ed : Hid (Cop9 v6 wr.heap.size ad (n + 1) capd (l ++ [⟨(x : Int) + 1, (x : Int) + 1, t⟩])) := cd; have G6 : Hid (Below w.heap.size w v6) := btrans G5.out g6; have C6 : Hid (Cop9 v6 w.heap.size a n cap l) := C5.out.below g6; clear own gr nl at_ cd g6 Dd Nd))
          go_wp2_with fail
          refine (dfits_any _ (l ++ [⟨(x : Int) + 1, (x : Int) + 1, t⟩]) _ Ed.out.sec (by rw [Ed.out.len]; omega)).mono ?_
          rintro e v7 ⟨rfl, g7⟩
          rw [HP.out]
          have G7 : Hid (Below w.heap.size w v7) := btrans G6.out g7
          clear g7
          go_wp2_with fail
          go_ret
          exact ⟨ret_bool (by simp), G7.out⟩

set_option maxRecDepth 100000 in
theorem lifted (os : Os) (started : os.Started) (H : Type) (enc : TypeId × Value → H) :
    ReturnsInHanded {} Tryz.checked os 18 .any (fun w args => (Rows.mostTightSpec.pre enc Tryz.prog Tryz.f18 [] false w args ∧ laidMetH Tryz.prog laid5 w) ∧ sizedMet enc Tryz.prog Tryz.f18 (OpenSpec.ofChange Rows.mostTightSpec) false w args)
      (Rows.mostTightSpec.post enc Tryz.prog Tryz.f18 false true false false) := by
  refine returnsInHanded_of_change_and (C := Tryz.checked) (X := fun w _ => laidMetH Tryz.prog laid5 w) (fun _ _ _ hh h => h.of_heap hh) own started (by kernel_rfl) Tryz.func18
    (ChangeSpec.witness_shaped (enc := enc) (C := Tryz.checked) (os := os) (X := fun w _ => laidMetH Tryz.prog laid5 w) false (World.doorLaid Tryz.prog 62 os) #[.slice none 0 0, .int .i64 0, .int .i64 0] 8 rfl (World.shaped_of_RefB (by kernel_rfl) (by kernel_rfl)) (by kernel_rfl) (by kernel_rfl) (by kernel_rfl) (door_met os _)) ?_
  intro W base args ds gs before hval0 hW _ _ hL _
  have hval : ∀ (j : Nat) t v, Tryz.f18.params[j]? = some t → args[j]? = some v → Value.okWide Tryz.prog W .any base t v := hval0
  have hW' := hW
  obtain ⟨p, q, hA0, hV, rfl, hfz, hnd⟩ := hW
  have hA : DataW.TrodAll enc Tryz.prog W 0 (fun _ => true) true Tryz.f18.params.toList args.toList ds p := hA0
  rw [Tryz.params18] at hA hval
  obtain ⟨v0, vs0, d0, ds0, p0, q0, hargs, rfl, rfl, h0, r0⟩ := trodAll_cons hA
  obtain ⟨v1, vs1, d1, ds1, p1, q1, rfl, rfl, rfl, h1, r1⟩ := trodAll_cons r0
  obtain ⟨v2, vs2, d2, ds2, p2, q2, rfl, rfl, rfl, h2, r2⟩ := trodAll_cons r1
  obtain ⟨rfl, rfl, rfl⟩ := trodAll_nil r2
  obtain rfl : args = #[v0, v1, v2] := by cases args; simp_all
  obtain ⟨rfl, rfl⟩ := trodVars_none hV
  obtain ⟨s0, n0, m0, rfl⟩ := okWide_slice Tryz.underlying22 (hval 0 22 v0 rfl rfl)
  have k0 := h0
  have lt0 : ∀ x ∈ p0, x.block < W.heap.size := by obtain ⟨m, hm⟩ := k0; exact DataW.trod_lt m _ _ _ hm
  obtain ⟨z0, w0⟩ := (by obtain ⟨fuel, hf⟩ := h0; exact open_loads hf : ∃ zs, ALds W s0 n0 m0 zs)
  obtain ⟨a1, rfl, rfl, rfl, w1⟩ := open_int Tryz.underlying2 (hval 1 2 v1 rfl rfl) h1
  obtain ⟨a2, rfl, rfl, rfl, w2⟩ := open_int Tryz.underlying2 (hval 2 2 v2 rfl rfl) h2
  clear hA0 hval0
  simp only [List.append_nil] at hW'
  refine (walk s0 n0 m0 z0 a1 a2 W (env_of_laid hL) w0 w1 w2).mono fun e W' ⟨he, bel⟩ => ?_
  subst he
  exact ⟨_, rfl, _, _, _, [], _, [], hW', trodAll_mk1 (shut_bool Tryz.underlying4 _), (trodAll_cons_mk (Below.trod laidOut (by kernel_rfl) (of_decide_eq_true (by kernel_rfl)) k0 bel lt0) (trodAll_cons_mk (shut_int Tryz.underlying2 w1) (trodAll_cons_mk (shut_int Tryz.underlying2 w2) trodAll_mk0))), rfl, bel.frame _, fun h => by cases h⟩

theorem closed : joinedFacts Tryz.pinned.checked.prog 18 Tryz.f18 Rows.mostTightSpec Rows.mostTightRow = true := by
  generalize hP : Tryz.pinned.checked.prog = P
  simp only [joinedFacts, Bool.and_eq_true]
  subst hP
  refine ⟨⟨⟨⟨⟨⟨⟨⟨⟨⟨⟨⟨⟨⟨⟨⟨⟨⟨⟨⟨⟨⟨⟨⟨⟨⟨⟨⟨⟨⟨⟨?k1, ?k2⟩, ?k3⟩, ?k4⟩, ?k5⟩, ?k6⟩, ?k7⟩, ?k8⟩, ?k9⟩, ?k10⟩, ?k11⟩, ?k12⟩, ?k13⟩, ?k14⟩, ?k15⟩, ?k16⟩, ?k17⟩, ?k18⟩, ?k19⟩, ?k20⟩, ?k21⟩, ?k22⟩, ?k23⟩, ?k24⟩, ?k25⟩, ?k26⟩, ?k27⟩, ?k28⟩, ?k29⟩, ?k30⟩, ?k31⟩, ?k32⟩
  case k26 => exact head_enter
  case k27 => show (false == Tryz.prog.liftsFinal) = true; rw [head_lifts]; rfl
  case k28 => exact head_make
  all_goals kernel_rfl
theorem over : Rows.mostTightRow.holds Tryz.pinned (OpenSpec.ofChange Rows.mostTightSpec) :=
  OpenClaim.holds_of_wide 18 Tryz.f18 rfl rfl rfl rfl rfl rfl rfl ⟨rfl, rfl, rfl, rfl, rfl⟩ rfl rfl rfl rfl rfl (by kernel_rfl) Tryz.func18 closed
    (of_decide_eq_true (by kernel_rfl)) (by unfold Func.isWrapper; first | (rw [if_pos (by decide +kernel)]; kernel_rfl) | (rw [if_neg (by decide +kernel)]; exact ⟨rfl, rfl⟩))
    (fun os started H enc _ => lifted os started H enc)

theorem proved : Rows.MostTightCardSaid :=
  Claim7.holds_tied_plain_at .later [] [.data, .data, .data, .sentinel, .sentinel] true (true, "5593ad2a5a772f8be195e0fe692033ff87e224b9e1f3bacf87f13d01f91435b9") true
    over (fun _ h => by cases h) (by kernel_rfl) (fun _ h => by cases h) mostTight_row_tie rfl ⟨rfl, rfl⟩ head_main rfl
    (fun f fn hf hfn => by
      obtain rfl : f = 18 := Option.some.inj ((show Tryz.prog.funcNamed "hortator/hortatorlaw9.MostTight" = some 18 by kernel_rfl).symm.trans hf) |>.symm
      obtain rfl : fn = Tryz.f18 := (Option.some.inj (Tryz.func18.symm.trans hfn)).symm
      exact ⟨by kernel_rfl, fun j t ht => by
        rw [Tryz.params18] at ht
        match j, ht with
        | 0, ht => obtain rfl : t = 22 := by simpa using ht.symm
                   exact (show Tryz.prog.wantsStandIn 22 = false by kernel_rfl)
        | 1, ht => obtain rfl : t = 2 := by simpa using ht.symm
                   exact (show Tryz.prog.wantsStandIn 2 = false by kernel_rfl)
        | 2, ht => obtain rfl : t = 2 := by simpa using ht.symm
                   exact (show Tryz.prog.wantsStandIn 2 = false by kernel_rfl)
        | (_ + 3), ht => simp at ht⟩)
    (by kernel_rfl)
end Go.Proofs.YtpbjodbcmaaheaaGreatDoor.mostTight
