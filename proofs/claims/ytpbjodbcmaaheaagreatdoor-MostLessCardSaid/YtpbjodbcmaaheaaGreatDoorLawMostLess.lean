/-
PROVED: the statement hortatorlaw9.MostLess answers true over the landed packages: the more lies on a core the less fits still.
  CONDITIONS: the listed variables of strconv and math/bits hold what the program's text lays (the card ties them).
-/
import Derived.Test.YtpbjodbcmaaheaaGreatDoorRows
import Derived.Test.YtpbjodbcmaaheaaGreatDoorTie
import Derived.Test.YtpbjodbcmaaheaaGreatDoorCards
import Derived.WalkKit
import Derived.ProofKit
import Derived.OpenShut
import Derived.ShutString
import Derived.ChangeOld
import Derived.Below
import Derived.SevenTiedAt
import Derived.Test.YtpbjodbcmaaheaaGreatDoorLaid
import Derived.Test.YtpbjodbcmaaheaaGreatDoorHead
import Derived.Carry
import Derived.Deep.Cut
import Derived.Deep.CutRange
import Derived.Deep.RegionWith
import Derived.Deep.RegionHeld3
import Derived.Deep.LoopGhost
import Derived.Deep.QuietTactic
import Derived.BigQuiet
import Derived.Test.YtpbjodbcmaaheaaGreatDoorArgs9J
import Derived.Test.YtpbjodbcmaaheaaGreatDoorBegun9
import Derived.Test.YtpbjodbcmaaheaaGreatDoorBits9
import Derived.Test.YtpbjodbcmaaheaaGreatDoorBMath5
import Derived.Test.YtpbjodbcmaaheaaGreatDoorApp94
namespace Go.Proofs.YtpbjodbcmaaheaaGreatDoor.mostLess
open Go.ChangeShapes Go.WideShapes Go.ChangeAt Go.RowKit
open Go.ChangeMaps (open_string shut_string)
set_option linter.unusedVariables false

theorem own : ownKnob Tryz.prog.godebug = none := by kernel_rfl
theorem laidOut : laidOutB Tryz.prog = true := by kernel_rfl

set_option maxHeartbeats 8000000 in
set_option maxRecDepth 100000 in
theorem walk (s0 : Option Addr) (n0 m0 : Nat) (z0 : List Sec) (xa1 xb1 xc1 : Int) (a2 : Int) (a3 : Int) (a4 : Int) (w : World) (hE : Env w) (w0 : ALds w s0 n0 m0 z0) (x10 : (Lit.int .i64 xa1).wf = true) (x11 : (Lit.int .i64 xb1).wf = true) (x12 : (Lit.int .i64 xc1).wf = true) (w2 : (Lit.int .i64 a2).wf = true) (w3 : (Lit.int .i64 a3).wf = true) (w4 : (Lit.int .i64 a4).wf = true) :
    Calls Tryz.prog 19 #[.slice s0 n0 m0, .agg #[.int .i64 xa1, .int .i64 xb1, .int .i64 xc1], .int .i64 a2, .int .i64 a3, .int .i64 a4] w fun e w' => e = .returned (.bool true) ∧ Below w.heap.size w w' := by
  obtain ⟨i0, hi0, hz0, hz1, hz2⟩ := info_parts infoL
  obtain ⟨l2, h2⟩ := bounds_i64 w2
  obtain ⟨l3, h3⟩ := bounds_i64 w3
  obtain ⟨l4, h4⟩ := bounds_i64 w4
  have HE : Hid (Env w) := hE
  have HA : Hid (ALds w s0 n0 m0 z0) := w0
  clear hE w0
  have P0 : Hid (Bx w w.heap.size #[.int .i64 xa1, .int .i64 xb1, .int .i64 xc1] 31 (w.alloc (.cells #[.int .i64 xa1, .int .i64 xb1, .int .i64 xc1] 31))) := Bx.alloc _ _ (Below.refl _ _)
  go_enter Tryz.func19, Tryz.ntmps19
  go_wp2_with fail
  refine (begun9_any _ (HE.out.below P0.out.bel)).mono ?_
  rintro e v1 ⟨rfl, g1⟩
  have P1 : Hid (Bx w w.heap.size #[.int .i64 xa1, .int .i64 xb1, .int .i64 xc1] 31 v1) := P0.out.below g1
  clear g1 P0
  go_wp2_with fail
  refine (lloads_two s0 n0 m0 z0 w _ P1.out.bel HA.out).mono ?_
  rintro e v2 ⟨a, n, cap, l, rfl, n10, c2, g2, gx⟩
  have P2 : Hid (Bx w w.heap.size #[.int .i64 xa1, .int .i64 xb1, .int .i64 xc1] 31 v2) := P1.out.below gx
  have G2 : Hid (Below w.heap.size w v2) := g2
  have C2 : Hid (Cop9 v2 w.heap.size a n cap l) := c2
  have HL : Hid (l.length ≤ 1000000) := by have := c2.len; show _ ≤ _; omega
  have HS : Hid (l.length ≤ 1000) := by have := c2.len; show _ ≤ _; omega
  clear g2 c2 gx
  obtain ⟨d, hd⟩ : ∃ d, 1 + a2 % 32 = d := ⟨_, rfl⟩
  obtain ⟨t, ht⟩ : ∃ t, 1 + a3 % 64 = t := ⟨_, rfl⟩
  obtain ⟨p, hp⟩ : ∃ p, 1 + a4 % 32 = p := ⟨_, rfl⟩
  have p1 : 1 ≤ p ∧ p ≤ 32 := by omega
  obtain ⟨p2, p3⟩ := p1
  have e1 := and31 a2
  have e2 := and63 a3
  have e3 := and31 a4
  obtain ⟨za, hza⟩ : ∃ za, mostV l d t p = za := ⟨_, rfl⟩
  have ZA : Hid (mostV l d t p = za) := hza
  obtain ⟨zb, hzb⟩ : ∃ zb, mostV (l ++ [(⟨xa1, xb1, xc1⟩ : Sec)]) d t p = zb := ⟨_, rfl⟩
  have ZB : Hid (mostV (l ++ [(⟨xa1, xb1, xc1⟩ : Sec)]) d t p = zb) := hzb
  obtain ⟨zc, hzc⟩ : ∃ zc, mostV l d t (p + 1) = zc := ⟨_, rfl⟩
  have ZC : Hid (mostV l d t (p + 1) = zc) := hzc
  obtain ⟨ob, hob⟩ : ∃ ob, fitB (l ++ [(⟨xa1, xb1, xc1⟩ : Sec)]) = ob := ⟨_, rfl⟩
  have OB : Hid (fitB (l ++ [(⟨xa1, xb1, xc1⟩ : Sec)]) = ob) := hob
  clear hza hzb hzc hob
  have M1 : Hid (ob = false → zb = 0) := fun h => by have := most_unfit (OB.out.trans h) d t p; rw [ZB.out] at this; exact this
  have M2 : zb ≤ za := by rw [← ZB.out, ← ZA.out]; exact most_less (by rw [C2.out.len]; omega)
  have M3 : za ≤ zc := by rw [← ZC.out, ← ZA.out]; exact most_top _ _ _ _
  have HM : Hid ((l ++ [(⟨xa1, xb1, xc1⟩ : Sec)]).length ≤ 1000000) := by have := C2.out.len; show _ ≤ _; simp; omega
  have q0 : v2.cell? ⟨w.heap.size, 0, none⟩ = some (.int .i64 xa1) := P2.out.blk.cell 0
  have q1 : v2.cell? ⟨w.heap.size, 1, none⟩ = some (.int .i64 xb1) := P2.out.blk.cell 1
  have q2 : v2.cell? ⟨w.heap.size, 2, none⟩ = some (.int .i64 xc1) := P2.out.blk.cell 2
  have ql : w.heap.size < v2.heap.size := P2.out.blk.lt
  have qn : ¬ w.heap.size = v2.heap.size := Nat.ne_of_lt ql
  go_wp2_with fail
  go_region_law (first
    | (go_simp; (go_at_call 24; refine (lloads_from v2 a n cap _ l _ C2.out n10 (by first | exact bdrew _ | exact btrans (balloc _ _) (bdrew _))).mono ?_; rintro e u ⟨b, kk, rfl, d, g, gx⟩; have DD : Hid (Cop9 u v2.heap.size b n kk l ∧ Below v2.heap.size v2 u) := ⟨d, g⟩; have GX : Hid (Below _ _ u) := gx; have PU := P2.out.below g; have r0 : u.cell? ⟨w.heap.size, 0, none⟩ = some (.int .i64 xa1) := PU.blk.cell 0; have r1 : u.cell? ⟨w.heap.size, 1, none⟩ = some (.int .i64 xb1) := PU.blk.cell 1; have r2 : u.cell? ⟨w.heap.size, 2, none⟩ = some (.int .i64 xc1) := PU.blk.cell 2; have rl : w.heap.size < u.heap.size := PU.blk.lt; have rn : ¬ w.heap.size = u.heap.size := Nat.ne_of_lt rl; clear d g gx PU); go_wp2_with fail)
    | (refine step_append_at _ (by rfl) (.tmp 28) (.tmp 30) 22 (by rfl) v2.heap.size 31 i0 _ 3 24 Tryz.underlying22 hi0 hz0 hz1 hz2 rfl (by omega) (.slice b n kk) n (secC l) (by rfl) (OwnL.row (DD.out.1.own.below (balloc u _)) DD.out.1.len) ⟨u.heap.size, 0, none⟩ 1 1 (secC [(⟨xa1, xb1, xc1⟩ : Sec)]) (by rfl) rfl (news_one _ _ _ _ _) (secC_one _) (by unfold maxLen; omega) (by omega) (by have := DD.out.2.size; first | exact this | (simp; omega)) ?_; intro yy vm own gr at_; obtain ⟨am, capm, e, cm, gm⟩ := app_end DD.out.1 DD.out.2 own gr; subst e; have EM : Hid (Cop9 vm v2.heap.size am (n + 1) capm (l ++ [(⟨xa1, xb1, xc1⟩ : Sec)])) := cm; have GM : Hid (Below v2.heap.size v2 vm) := gm; clear own gr at_ cm gm)
    | (refine step_append_at _ (by rfl) (.tmp 28) (.tmp 30) 22 (by rfl) v2.heap.size 31 i0 _ 3 24 Tryz.underlying22 hi0 hz0 hz1 hz2 rfl (by omega) (.slice b n kk) n (secC l) (by rfl) (OwnL.row DD.out.1.own DD.out.1.len) ⟨v2.heap.size, 0, none⟩ 1 1 (secC [(⟨xa1, xb1, xc1⟩ : Sec)]) (by rfl) rfl (fun j q hq => cell_keep (by have := news_one v2 xa1 xb1 xc1 31 j q hq; simpa using this) GX.out) (secC_one _) (by unfold maxLen; omega) (by omega) (by have := DD.out.2.size; first | exact this | (simp; omega)) ?_; intro yy vm own gr at_; obtain ⟨am, capm, e, cm, gm⟩ := app_end0 DD.out.1 DD.out.2 own gr; subst e; have EM : Hid (Cop9 vm v2.heap.size am (n + 1) capm (l ++ [(⟨xa1, xb1, xc1⟩ : Sec)])) := cm; have GM : Hid (Below v2.heap.size v2 vm) := gm; clear own gr at_ cm gm))
  all_goals
    have G3 : Hid (Below w.heap.size w vm) := btrans G2.out GM.out
    have C3 : Hid (Cop9 vm w.heap.size a n cap l) := C2.out.below GM.out
    have E3 : Hid (Cop9 vm v2.heap.size am (n + 1) capm (l ++ [(⟨xa1, xb1, xc1⟩ : Sec)])) := EM.out
    go_wp2_with fail
    refine (dfits_any _ (l ++ [(⟨xa1, xb1, xc1⟩ : Sec)]) _ E3.out.sec HM.out).mono ?_
    rintro e v4 ⟨rfl, g4⟩
    rw [OB.out]
    have G4 : Hid (Below w.heap.size w v4) := btrans G3.out g4
    have C4 : Hid (Cop9 v4 w.heap.size a n cap l) := C3.out.below g4
    have E4 : Hid (Cop9 v4 v2.heap.size am (n + 1) capm (l ++ [(⟨xa1, xb1, xc1⟩ : Sec)])) := E3.out.below g4
    clear g4 G3 C3 E3
    cases ob
    · have r1 := M1.out rfl
      subst r1
      go_wp2_with fail
      refine (mfit_any am (n + 1) capm (l ++ [(⟨xa1, xb1, xc1⟩ : Sec)]) d t p _ E4.out.sec E4.out.cap E4.out.len (by omega)).mono ?_
      rintro e v5 ⟨rfl, g5⟩
      rw [ZB.out]
      have G5 : Hid (Below w.heap.size w v5) := btrans G4.out g5
      have C5 : Hid (Cop9 v5 w.heap.size a n cap l) := C4.out.below g5
      have E5 : Hid (Cop9 v5 v2.heap.size am (n + 1) capm (l ++ [(⟨xa1, xb1, xc1⟩ : Sec)])) := E4.out.below g5
      clear g5 G4 C4 E4
      go_wp2_with fail
      go_ret
      exact ⟨ret_bool (by simp), G5.out⟩
    · go_wp2_with fail
      refine (mfit_any am (n + 1) capm (l ++ [(⟨xa1, xb1, xc1⟩ : Sec)]) d t p _ E4.out.sec E4.out.cap E4.out.len (by omega)).mono ?_
      rintro e v5 ⟨rfl, g5⟩
      rw [ZB.out]
      have G5 : Hid (Below w.heap.size w v5) := btrans G4.out g5
      have C5 : Hid (Cop9 v5 w.heap.size a n cap l) := C4.out.below g5
      have E5 : Hid (Cop9 v5 v2.heap.size am (n + 1) capm (l ++ [(⟨xa1, xb1, xc1⟩ : Sec)])) := E4.out.below g5
      clear g5 G4 C4 E4
      go_wp2_with fail
      refine (mfit_any a n cap l d t p _ C5.out.sec C5.out.cap C5.out.len (by omega)).mono ?_
      rintro e v6 ⟨rfl, g6⟩
      rw [ZA.out]
      have G6 : Hid (Below w.heap.size w v6) := btrans G5.out g6
      have C6 : Hid (Cop9 v6 w.heap.size a n cap l) := C5.out.below g6
      have E6 : Hid (Cop9 v6 v2.heap.size am (n + 1) capm (l ++ [(⟨xa1, xb1, xc1⟩ : Sec)])) := E5.out.below g6
      clear g6 G5 C5 E5
      go_wp2_with fail
      refine (mfit_any a n cap l d t p _ C6.out.sec C6.out.cap C6.out.len (by omega)).mono ?_
      rintro e v7 ⟨rfl, g7⟩
      rw [ZA.out]
      have G7 : Hid (Below w.heap.size w v7) := btrans G6.out g7
      have C7 : Hid (Cop9 v7 w.heap.size a n cap l) := C6.out.below g7
      have E7 : Hid (Cop9 v7 v2.heap.size am (n + 1) capm (l ++ [(⟨xa1, xb1, xc1⟩ : Sec)])) := E6.out.below g7
      clear g7 G6 C6 E6
      go_wp2_with fail
      refine (mfit_any a n cap l d t (p + 1) _ C7.out.sec C7.out.cap C7.out.len (by omega)).mono ?_
      rintro e v8 ⟨rfl, g8⟩
      rw [ZC.out]
      have G8 : Hid (Below w.heap.size w v8) := btrans G7.out g8
      have C8 : Hid (Cop9 v8 w.heap.size a n cap l) := C7.out.below g8
      have E8 : Hid (Cop9 v8 v2.heap.size am (n + 1) capm (l ++ [(⟨xa1, xb1, xc1⟩ : Sec)])) := E7.out.below g8
      clear g8 G7 C7 E7
      go_wp2_with fail
      go_ret
      exact ⟨ret_bool (by first | rfl | (simp; omega)), G8.out⟩

set_option maxRecDepth 100000 in
theorem lifted (os : Os) (started : os.Started) (H : Type) (enc : TypeId × Value → H) :
    ReturnsInHanded {} Tryz.checked os 19 .any (fun w args => (Rows.mostLessSpec.pre enc Tryz.prog Tryz.f19 [] false w args ∧ laidMetH Tryz.prog laid5 w) ∧ sizedMet enc Tryz.prog Tryz.f19 (OpenSpec.ofChange Rows.mostLessSpec) false w args)
      (Rows.mostLessSpec.post enc Tryz.prog Tryz.f19 false true false false) := by
  refine returnsInHanded_of_change_and (C := Tryz.checked) (X := fun w _ => laidMetH Tryz.prog laid5 w) (fun _ _ _ hh h => h.of_heap hh) own started (by kernel_rfl) Tryz.func19
    (ChangeSpec.witness_shaped (enc := enc) (C := Tryz.checked) (os := os) (X := fun w _ => laidMetH Tryz.prog laid5 w) false (World.doorLaid Tryz.prog 62 os) #[.slice none 0 0, .agg #[.int .i64 0, .int .i64 0, .int .i64 0], .int .i64 0, .int .i64 0, .int .i64 0] 8 rfl (World.shaped_of_RefB (by kernel_rfl) (by kernel_rfl)) (by kernel_rfl) (by kernel_rfl) (by kernel_rfl) (door_met os _)) ?_
  intro W base args ds gs before hval0 hW _ _ hL _
  have hval : ∀ (j : Nat) t v, Tryz.f19.params[j]? = some t → args[j]? = some v → Value.okWide Tryz.prog W .any base t v := hval0
  have hW' := hW
  obtain ⟨p, q, hA0, hV, rfl, hfz, hnd⟩ := hW
  have hA : DataW.TrodAll enc Tryz.prog W 0 (fun _ => true) true Tryz.f19.params.toList args.toList ds p := hA0
  rw [Tryz.params19] at hA hval
  obtain ⟨v0, vs0, d0, ds0, p0, q0, hargs, rfl, rfl, h0, r0⟩ := trodAll_cons hA
  obtain ⟨v1, vs1, d1, ds1, p1, q1, rfl, rfl, rfl, h1, r1⟩ := trodAll_cons r0
  obtain ⟨v2, vs2, d2, ds2, p2, q2, rfl, rfl, rfl, h2, r2⟩ := trodAll_cons r1
  obtain ⟨v3, vs3, d3, ds3, p3, q3, rfl, rfl, rfl, h3, r3⟩ := trodAll_cons r2
  obtain ⟨v4, vs4, d4, ds4, p4, q4, rfl, rfl, rfl, h4, r4⟩ := trodAll_cons r3
  obtain ⟨rfl, rfl, rfl⟩ := trodAll_nil r4
  obtain rfl : args = #[v0, v1, v2, v3, v4] := by cases args; simp_all
  obtain ⟨rfl, rfl⟩ := trodVars_none hV
  obtain ⟨s0, n0, m0, rfl⟩ := okWide_slice Tryz.underlying22 (hval 0 22 v0 rfl rfl)
  have k0 := h0
  have lt0 : ∀ x ∈ p0, x.block < W.heap.size := by obtain ⟨m, hm⟩ := k0; exact DataW.trod_lt m _ _ _ hm
  obtain ⟨z0, w0⟩ := (by obtain ⟨fuel, hf⟩ := h0; exact open_loads hf : ∃ zs, ALds W s0 n0 m0 zs)
  have k1 := h1
  have lt1 : ∀ x ∈ p1, x.block < W.heap.size := by obtain ⟨m, hm⟩ := k1; exact DataW.trod_lt m _ _ _ hm
  obtain ⟨xa1, xb1, xc1, rfl, x10, x11, x12⟩ := open_load9 (hval 1 31 v1 rfl rfl) h1
  obtain ⟨a2, rfl, rfl, rfl, w2⟩ := open_int Tryz.underlying2 (hval 2 2 v2 rfl rfl) h2
  obtain ⟨a3, rfl, rfl, rfl, w3⟩ := open_int Tryz.underlying2 (hval 3 2 v3 rfl rfl) h3
  obtain ⟨a4, rfl, rfl, rfl, w4⟩ := open_int Tryz.underlying2 (hval 4 2 v4 rfl rfl) h4
  clear hA0 hval0
  simp only [List.append_nil] at hW'
  refine (walk s0 n0 m0 z0 xa1 xb1 xc1 a2 a3 a4 W (env_of_laid hL) w0 x10 x11 x12 w2 w3 w4).mono fun e W' ⟨he, bel⟩ => ?_
  subst he
  exact ⟨_, rfl, _, _, _, [], _, [], hW', trodAll_mk1 (shut_bool Tryz.underlying4 _), (trodAll_cons_mk (Below.trod laidOut (by kernel_rfl) (of_decide_eq_true (by kernel_rfl)) k0 bel lt0) (trodAll_cons_mk (Below.trod laidOut (by kernel_rfl) (of_decide_eq_true (by kernel_rfl)) k1 bel lt1) (trodAll_cons_mk (shut_int Tryz.underlying2 w2) (trodAll_cons_mk (shut_int Tryz.underlying2 w3) (trodAll_cons_mk (shut_int Tryz.underlying2 w4) trodAll_mk0))))), rfl, bel.frame _, fun h => by cases h⟩

theorem closed : joinedFacts Tryz.pinned.checked.prog 19 Tryz.f19 Rows.mostLessSpec Rows.mostLessRow = true := by
  generalize hP : Tryz.pinned.checked.prog = P
  simp only [joinedFacts, Bool.and_eq_true]
  subst hP
  refine ⟨⟨⟨⟨⟨⟨⟨⟨⟨⟨⟨⟨⟨⟨⟨⟨⟨⟨⟨⟨⟨⟨⟨⟨⟨⟨⟨⟨⟨⟨⟨?k1, ?k2⟩, ?k3⟩, ?k4⟩, ?k5⟩, ?k6⟩, ?k7⟩, ?k8⟩, ?k9⟩, ?k10⟩, ?k11⟩, ?k12⟩, ?k13⟩, ?k14⟩, ?k15⟩, ?k16⟩, ?k17⟩, ?k18⟩, ?k19⟩, ?k20⟩, ?k21⟩, ?k22⟩, ?k23⟩, ?k24⟩, ?k25⟩, ?k26⟩, ?k27⟩, ?k28⟩, ?k29⟩, ?k30⟩, ?k31⟩, ?k32⟩
  case k26 => exact head_enter
  case k27 => show (false == Tryz.prog.liftsFinal) = true; rw [head_lifts]; rfl
  case k28 => exact head_make
  all_goals kernel_rfl
theorem over : Rows.mostLessRow.holds Tryz.pinned (OpenSpec.ofChange Rows.mostLessSpec) :=
  OpenClaim.holds_of_wide 19 Tryz.f19 rfl rfl rfl rfl rfl rfl rfl ⟨rfl, rfl, rfl, rfl, rfl⟩ rfl rfl rfl rfl rfl (by kernel_rfl) Tryz.func19 closed
    (of_decide_eq_true (by kernel_rfl)) (by unfold Func.isWrapper; first | (rw [if_pos (by decide +kernel)]; kernel_rfl) | (rw [if_neg (by decide +kernel)]; exact ⟨rfl, rfl⟩))
    (fun os started H enc _ => lifted os started H enc)

theorem proved : Rows.MostLessCardSaid :=
  Claim7.holds_tied_plain_at .later [] [.data, .data, .data, .sentinel, .sentinel] true (true, "5593ad2a5a772f8be195e0fe692033ff87e224b9e1f3bacf87f13d01f91435b9") true
    over (fun _ h => by cases h) (by kernel_rfl) (fun _ h => by cases h) mostLess_row_tie rfl ⟨rfl, rfl⟩ head_main rfl
    (fun f fn hf hfn => by
      obtain rfl : f = 19 := Option.some.inj ((show Tryz.prog.funcNamed "hortator/hortatorlaw9.MostLess" = some 19 by kernel_rfl).symm.trans hf) |>.symm
      obtain rfl : fn = Tryz.f19 := (Option.some.inj (Tryz.func19.symm.trans hfn)).symm
      exact ⟨by kernel_rfl, fun j t ht => by
        rw [Tryz.params19] at ht
        match j, ht with
        | 0, ht => obtain rfl : t = 22 := by simpa using ht.symm
                   exact (show Tryz.prog.wantsStandIn 22 = false by kernel_rfl)
        | 1, ht => obtain rfl : t = 31 := by simpa using ht.symm
                   exact (show Tryz.prog.wantsStandIn 31 = false by kernel_rfl)
        | 2, ht => obtain rfl : t = 2 := by simpa using ht.symm
                   exact (show Tryz.prog.wantsStandIn 2 = false by kernel_rfl)
        | 3, ht => obtain rfl : t = 2 := by simpa using ht.symm
                   exact (show Tryz.prog.wantsStandIn 2 = false by kernel_rfl)
        | 4, ht => obtain rfl : t = 2 := by simpa using ht.symm
                   exact (show Tryz.prog.wantsStandIn 2 = false by kernel_rfl)
        | (_ + 5), ht => simp at ht⟩)
    (by kernel_rfl)
end Go.Proofs.YtpbjodbcmaaheaaGreatDoor.mostLess
