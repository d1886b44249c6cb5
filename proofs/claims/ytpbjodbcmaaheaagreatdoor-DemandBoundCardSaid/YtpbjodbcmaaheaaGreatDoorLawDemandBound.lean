/-
PROVED: the statement hortatorlaw9.DemandBound answers true over the landed packages: what has to be done by a time is never more than what was asked by then; both rise.
  CONDITIONS: the listed variables of strconv and math/bits hold what the program's text lays (the card ties them).
-/
import Derived.Test.YtpbjodbcmaaheaaGreatDoorRows
import Derived.Test.YtpbjodbcmaaheaaGreatDoorTie
import Derived.Test.YtpbjodbcmaaheaaGreatDoorCards
import Derived.WalkKit
import Derived.ProofKit
import Derived.OpenShut
import Derived.ShutString
import Derived.ChangeOld
import Derived.Below
import Derived.SevenTiedAt
import Derived.Test.YtpbjodbcmaaheaaGreatDoorLaid
import Derived.Test.YtpbjodbcmaaheaaGreatDoorHead
import Derived.Carry
import Derived.Deep.Cut
import Derived.Deep.CutRange
import Derived.Deep.RegionWith
import Derived.Deep.RegionHeld3
import Derived.Deep.LoopGhost
import Derived.Deep.QuietTactic
import Derived.BigQuiet
import Derived.Test.YtpbjodbcmaaheaaGreatDoorArgs9J
import Derived.Test.YtpbjodbcmaaheaaGreatDoorBegun9
import Derived.Test.YtpbjodbcmaaheaaGreatDoorBits9
import Derived.Test.YtpbjodbcmaaheaaGreatDoorBMath5
namespace Go.Proofs.YtpbjodbcmaaheaaGreatDoor.demandBound
open Go.ChangeShapes Go.WideShapes Go.ChangeAt Go.RowKit
open Go.ChangeMaps (open_string shut_string)
set_option linter.unusedVariables false

theorem own : ownKnob Tryz.prog.godebug = none := by kernel_rfl
theorem laidOut : laidOutB Tryz.prog = true := by kernel_rfl

set_option maxHeartbeats 8000000 in
set_option maxRecDepth 100000 in
theorem walk (s0 : Option Addr) (n0 m0 : Nat) (z0 : List Sec) (a1 : Int) (w : World) (hE : Env w) (w0 : ALds w s0 n0 m0 z0) (w1 : (Lit.int .i64 a1).wf = true) :
    Calls Tryz.prog 15 #[.slice s0 n0 m0, .int .i64 a1] w fun e w' => e = .returned (.bool true) ∧ Below w.heap.size w w' := by
  obtain ⟨l1, h1⟩ := bounds_i64 w1
  have HE : Hid (Env w) := hE
  have HA : Hid (ALds w s0 n0 m0 z0) := w0
  clear hE w0
  go_enter Tryz.func15, Tryz.ntmps15
  go_wp2_with fail
  refine (begun9_any w HE.out).mono ?_
  rintro e v1 ⟨rfl, g1⟩
  have G1 : Hid (Below w.heap.size w v1) := g1
  clear g1
  go_wp2_with fail
  refine (lloads_at s0 n0 m0 z0 w _ G1.out HA.out).mono ?_
  rintro e v2 ⟨a, n, cap, l, rfl, hl, n10, c2, g2⟩
  have G2 : Hid (Below w.heap.size w v2) := g2
  have C2 : Hid (Cop9 v2 w.heap.size a n cap l) := c2
  have HL : Hid (l.length ≤ 1000000) := by have := c2.len; show _ ≤ _; omega
  have HS : Hid (l.length ≤ 1000) := by have := c2.len; show _ ≤ _; omega
  clear g2 hl c2
  by_cases t0 : a1 < 0
  · go_wp2_with fail
    go_ret
    exact ⟨ret_bool (by simp), G2.out⟩
  by_cases t1 : 19999 < a1
  · go_wp2_with fail
    go_ret
    exact ⟨ret_bool (by simp), G2.out⟩
  cases hl : ldsB l
  · have HB : Hid (ldsB l = false) := hl
    clear hl
    go_wp2_with fail
    refine (rloads_any _ l _ C2.out.sec HL.out).mono ?_
    rintro e v3 ⟨rfl, g3⟩
    rw [HB.out]
    have G3 : Hid (Below w.heap.size w v3) := btrans G2.out g3
    have C3 : Hid (Cop9 v3 w.heap.size a n cap l) := C2.out.below g3
    clear g3 G2 C2
    go_wp2_with fail
    go_ret
    exact ⟨ret_bool (by simp), G3.out⟩
  · have HB : Hid (ldsB l = true) := hl
    have u1 := due_ask (ldsB_all hl) (t := a1) (by omega)
    have u2 := due_mono (ldsB_all hl) (s := a1) (t := a1 + 1) (by omega)
    have u3 := ask_mono (ldsB_all hl) (s := a1) (t := a1 + 1) (by omega)
    have E1 : Hid (dueV l a1 = dueL l a1) := dueV_is hl (by omega) (by omega)
    have E2 : Hid (dueV l (a1 + 1) = dueL l (a1 + 1)) := dueV_is hl (by omega) (by omega)
    have E3 : Hid (askV l a1 = askL l a1) := askV_is hl (by omega) (by omega)
    have E4 : Hid (askV l (a1 + 1) = askL l (a1 + 1)) := askV_is hl (by omega) (by omega)
    generalize dueL l a1 = x1 at u1 u2 E1
    generalize dueL l (a1 + 1) = x2 at u2 E2
    generalize askL l a1 = y1 at u1 u3 E3
    generalize askL l (a1 + 1) = y2 at u3 E4
    clear hl
    go_wp2_with fail
    refine (rloads_any _ l _ C2.out.sec HL.out).mono ?_
    rintro e v3 ⟨rfl, g3⟩
    rw [HB.out]
    have G3 : Hid (Below w.heap.size w v3) := btrans G2.out g3
    have C3 : Hid (Cop9 v3 w.heap.size a n cap l) := C2.out.below g3
    clear g3 G2 C2
    go_wp2_with fail
    refine (dbnd_any _ l a1 _ C3.out.sec HL.out).mono ?_
    rintro e v4 ⟨rfl, g4⟩
    rw [E1.out]
    have G4 : Hid (Below w.heap.size w v4) := btrans G3.out g4
    have C4 : Hid (Cop9 v4 w.heap.size a n cap l) := C3.out.below g4
    clear g4 G3 C3
    go_wp2_with fail
    refine (basked_any _ l a1 _ C4.out.sec HL.out).mono ?_
    rintro e v5 ⟨rfl, g5⟩
    rw [E3.out]
    have G5 : Hid (Below w.heap.size w v5) := btrans G4.out g5
    have C5 : Hid (Cop9 v5 w.heap.size a n cap l) := C4.out.below g5
    clear g5 G4 C4
    go_wp2_with fail
    refine (dbnd_any _ l a1 _ C5.out.sec HL.out).mono ?_
    rintro e v6 ⟨rfl, g6⟩
    rw [E1.out]
    have G6 : Hid (Below w.heap.size w v6) := btrans G5.out g6
    have C6 : Hid (Cop9 v6 w.heap.size a n cap l) := C5.out.below g6
    clear g6 G5 C5
    go_wp2_with fail
    refine (dbnd_any _ l (a1 + 1) _ C6.out.sec HL.out).mono ?_
    rintro e v7 ⟨rfl, g7⟩
    rw [E2.out]
    have G7 : Hid (Below w.heap.size w v7) := btrans G6.out g7
    have C7 : Hid (Cop9 v7 w.heap.size a n cap l) := C6.out.below g7
    clear g7 G6 C6
    go_wp2_with fail
    refine (basked_any _ l a1 _ C7.out.sec HL.out).mono ?_
    rintro e v8 ⟨rfl, g8⟩
    rw [E3.out]
    have G8 : Hid (Below w.heap.size w v8) := btrans G7.out g8
    have C8 : Hid (Cop9 v8 w.heap.size a n cap l) := C7.out.below g8
    clear g8 G7 C7
    go_wp2_with fail
    refine (basked_any _ l (a1 + 1) _ C8.out.sec HL.out).mono ?_
    rintro e v9 ⟨rfl, g9⟩
    rw [E4.out]
    have G9 : Hid (Below w.heap.size w v9) := btrans G8.out g9
    have C9 : Hid (Cop9 v9 w.heap.size a n cap l) := C8.out.below g9
    clear g9 G8 C8
    go_wp2_with fail
    go_ret
    exact ⟨ret_bool (by first | rfl | (simp; omega)), G9.out⟩

set_option maxRecDepth 100000 in
theorem lifted (os : Os) (started : os.Started) (H : Type) (enc : TypeId × Value → H) :
    ReturnsInHanded {} Tryz.checked os 15 .any (fun w args => (Rows.demandBoundSpec.pre enc Tryz.prog Tryz.f15 [] false w args ∧ laidMetH Tryz.prog laid5 w) ∧ sizedMet enc Tryz.prog Tryz.f15 (OpenSpec.ofChange Rows.demandBoundSpec) false w args)
      (Rows.demandBoundSpec.post enc Tryz.prog Tryz.f15 false true false false) := by
  refine returnsInHanded_of_change_and (C := Tryz.checked) (X := fun w _ => laidMetH Tryz.prog laid5 w) (fun _ _ _ hh h => h.of_heap hh) own started (by kernel_rfl) Tryz.func15
    (ChangeSpec.witness_shaped (enc := enc) (C := Tryz.checked) (os := os) (X := fun w _ => laidMetH Tryz.prog laid5 w) false (World.doorLaid Tryz.prog 62 os) #[.slice none 0 0, .int .i64 0] 8 rfl (World.shaped_of_RefB (by kernel_rfl) (by kernel_rfl)) (by kernel_rfl) (by kernel_rfl) (by kernel_rfl) (door_met os _)) ?_
  intro W base args ds gs before hval0 hW _ _ hL _
  have hval : ∀ (j : Nat) t v, Tryz.f15.params[j]? = some t → args[j]? = some v → Value.okWide Tryz.prog W .any base t v := hval0
  have hW' := hW
  obtain ⟨p, q, hA0, hV, rfl, hfz, hnd⟩ := hW
  have hA : DataW.TrodAll enc Tryz.prog W 0 (fun _ => true) true Tryz.f15.params.toList args.toList ds p := hA0
  rw [Tryz.params15] at hA hval
  obtain ⟨v0, vs0, d0, ds0, p0, q0, hargs, rfl, rfl, h0, r0⟩ := trodAll_cons hA
  obtain ⟨v1, vs1, d1, ds1, p1, q1, rfl, rfl, rfl, h1, r1⟩ := trodAll_cons r0
  obtain ⟨rfl, rfl, rfl⟩ := trodAll_nil r1
  obtain rfl : args = #[v0, v1] := by cases args; simp_all
  obtain ⟨rfl, rfl⟩ := trodVars_none hV
  obtain ⟨s0, n0, m0, rfl⟩ := okWide_slice Tryz.underlying22 (hval 0 22 v0 rfl rfl)
  have k0 := h0
  have lt0 : ∀ x ∈ p0, x.block < W.heap.size := by obtain ⟨m, hm⟩ := k0; exact DataW.trod_lt m _ _ _ hm
  obtain ⟨z0, w0⟩ := (by obtain ⟨fuel, hf⟩ := h0; exact open_loads hf : ∃ zs, ALds W s0 n0 m0 zs)
  obtain ⟨a1, rfl, rfl, rfl, w1⟩ := open_int Tryz.underlying2 (hval 1 2 v1 rfl rfl) h1
  clear hA0 hval0
  simp only [List.append_nil] at hW'
  refine (walk s0 n0 m0 z0 a1 W (env_of_laid hL) w0 w1).mono fun e W' ⟨he, bel⟩ => ?_
  subst he
  exact ⟨_, rfl, _, _, _, [], _, [], hW', trodAll_mk1 (shut_bool Tryz.underlying4 _), (trodAll_cons_mk (Below.trod laidOut (by kernel_rfl) (of_decide_eq_true (by kernel_rfl)) k0 bel lt0) (trodAll_cons_mk (shut_int Tryz.underlying2 w1) trodAll_mk0)), rfl, bel.frame _, fun h => by cases h⟩

theorem closed : joinedFacts Tryz.pinned.checked.prog 15 Tryz.f15 Rows.demandBoundSpec Rows.demandBoundRow = true := by
  generalize hP : Tryz.pinned.checked.prog = P
  simp only [joinedFacts, Bool.and_eq_true]
  subst hP
  refine ⟨⟨⟨⟨⟨⟨⟨⟨⟨⟨⟨⟨⟨⟨⟨⟨⟨⟨⟨⟨⟨⟨⟨⟨⟨⟨⟨⟨⟨⟨⟨?k1, ?k2⟩, ?k3⟩, ?k4⟩, ?k5⟩, ?k6⟩, ?k7⟩, ?k8⟩, ?k9⟩, ?k10⟩, ?k11⟩, ?k12⟩, ?k13⟩, ?k14⟩, ?k15⟩, ?k16⟩, ?k17⟩, ?k18⟩, ?k19⟩, ?k20⟩, ?k21⟩, ?k22⟩, ?k23⟩, ?k24⟩, ?k25⟩, ?k26⟩, ?k27⟩, ?k28⟩, ?k29⟩, ?k30⟩, ?k31⟩, ?k32⟩
  case k26 => exact head_enter
  case k27 => show (false == Tryz.prog.liftsFinal) = true; rw [head_lifts]; rfl
  case k28 => exact head_make
  all_goals kernel_rfl
theorem over : Rows.demandBoundRow.holds Tryz.pinned (OpenSpec.ofChange Rows.demandBoundSpec) :=
  OpenClaim.holds_of_wide 15 Tryz.f15 rfl rfl rfl rfl rfl rfl rfl ⟨rfl, rfl, rfl, rfl, rfl⟩ rfl rfl rfl rfl rfl (by kernel_rfl) Tryz.func15 closed
    (of_decide_eq_true (by kernel_rfl)) (by unfold Func.isWrapper; first | (rw [if_pos (by decide +kernel)]; kernel_rfl) | (rw [if_neg (by decide +kernel)]; exact ⟨rfl, rfl⟩))
    (fun os started H enc _ => lifted os started H enc)

theorem proved : Rows.DemandBoundCardSaid :=
  Claim7.holds_tied_plain_at .later [] [.data, .data, .data, .sentinel, .sentinel] true (true, "5593ad2a5a772f8be195e0fe692033ff87e224b9e1f3bacf87f13d01f91435b9") true
    over (fun _ h => by cases h) (by kernel_rfl) (fun _ h => by cases h) demandBound_row_tie rfl ⟨rfl, rfl⟩ head_main rfl
    (fun f fn hf hfn => by
      obtain rfl : f = 15 := Option.some.inj ((show Tryz.prog.funcNamed "hortator/hortatorlaw9.DemandBound" = some 15 by kernel_rfl).symm.trans hf) |>.symm
      obtain rfl : fn = Tryz.f15 := (Option.some.inj (Tryz.func15.symm.trans hfn)).symm
      exact ⟨by kernel_rfl, fun j t ht => by
        rw [Tryz.params15] at ht
        match j, ht with
        | 0, ht => obtain rfl : t = 22 := by simpa using ht.symm
                   exact (show Tryz.prog.wantsStandIn 22 = false by kernel_rfl)
        | 1, ht => obtain rfl : t = 2 := by simpa using ht.symm
                   exact (show Tryz.prog.wantsStandIn 2 = false by kernel_rfl)
        | (_ + 2), ht => simp at ht⟩)
    (by kernel_rfl)
end Go.Proofs.YtpbjodbcmaaheaaGreatDoor.demandBound
