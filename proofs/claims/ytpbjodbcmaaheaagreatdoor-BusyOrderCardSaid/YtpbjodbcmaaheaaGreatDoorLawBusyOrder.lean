/-
PROVED: the statement hortatorlaw9.BusyOrder answers true over the landed packages: in which order loads stand turns nothing.
  CONDITIONS: the listed variables of strconv and math/bits hold what the program's text lays (the card ties them).
-/
import Derived.Test.YtpbjodbcmaaheaaGreatDoorRows
import Derived.Test.YtpbjodbcmaaheaaGreatDoorTie
import Derived.Test.YtpbjodbcmaaheaaGreatDoorCards
import Derived.WalkKit
import Derived.ProofKit
import Derived.OpenShut
import Derived.ShutString
import Derived.ChangeOld
import Derived.Below
import Derived.SevenTiedAt
import Derived.Test.YtpbjodbcmaaheaaGreatDoorLaid
import Derived.Test.YtpbjodbcmaaheaaGreatDoorHead
import Derived.Carry
import Derived.Deep.Cut
import Derived.Deep.CutRange
import Derived.Deep.RegionWith
import Derived.Deep.RegionHeld3
import Derived.Deep.LoopGhost
import Derived.Deep.QuietTactic
import Derived.BigQuiet
import Derived.Test.YtpbjodbcmaaheaaGreatDoorArgs9J
import Derived.Test.YtpbjodbcmaaheaaGreatDoorBegun9
import Derived.Test.YtpbjodbcmaaheaaGreatDoorBits9
import Derived.Test.YtpbjodbcmaaheaaGreatDoorBMath5
import Derived.Test.YtpbjodbcmaaheaaGreatDoorApp96
namespace Go.Proofs.YtpbjodbcmaaheaaGreatDoor.busyOrder
open Go.ChangeShapes Go.WideShapes Go.ChangeAt Go.RowKit
open Go.ChangeMaps (open_string shut_string)
set_option linter.unusedVariables false

theorem own : ownKnob Tryz.prog.godebug = none := by kernel_rfl
theorem laidOut : laidOutB Tryz.prog = true := by kernel_rfl

set_option maxHeartbeats 8000000 in
set_option maxRecDepth 100000 in
theorem walk (s0 : Option Addr) (n0 m0 : Nat) (z0 : List Sec) (a1 : Int) (w : World) (hE : Env w) (w0 : ALds w s0 n0 m0 z0) (w1 : (Lit.int .i64 a1).wf = true) :
    Calls Tryz.prog 13 #[.slice s0 n0 m0, .int .i64 a1] w fun e w' => e = .returned (.bool true) ∧ Below w.heap.size w w' := by
  obtain ⟨i0, hi0, hz0, hz1, hz2⟩ := info_parts infoL
  obtain ⟨l1, h1⟩ := bounds_i64 w1
  have HE : Hid (Env w) := hE
  have HA : Hid (ALds w s0 n0 m0 z0) := w0
  clear hE w0
  go_enter Tryz.func13, Tryz.ntmps13
  go_wp2_with fail
  refine (begun9_any w HE.out).mono ?_
  rintro e v1 ⟨rfl, g1⟩
  have G1 : Hid (Below w.heap.size w v1) := g1
  clear g1
  go_wp2_with fail
  refine (lloads_at s0 n0 m0 z0 w _ G1.out HA.out).mono ?_
  rintro e v2 ⟨a, n, cap, l, rfl, hl, n10, c2, g2⟩
  have G2 : Hid (Below w.heap.size w v2) := g2
  have C2 : Hid (Cop9 v2 w.heap.size a n cap l) := c2
  have HL : Hid (l.length ≤ 1000000) := by have := c2.len; show _ ≤ _; omega
  have HS : Hid (l.length ≤ 1000) := by have := c2.len; show _ ≤ _; omega
  clear g2 hl c2
  by_cases hn0 : n = 0
  · subst hn0
    go_wp2_with fail
    refine (dfits_any _ [] _ (.inl ⟨rfl, _, _, rfl⟩) (by simp)).mono ?_
    rintro e v3 ⟨rfl, g3⟩
    rw [fit_nil]
    have G3 : Hid (Below w.heap.size w v3) := btrans G2.out g3
    clear g3
    go_wp2_with fail
    go_ret
    exact ⟨ret_bool (rfl), G3.out⟩
  · have hn1 : ((n : Int) == 0) = false := by simp; omega
    have m1 := T.t_lt a1 n (by omega)
    obtain ⟨D, hD⟩ : ∃ D, a1.tmod n = D := ⟨_, rfl⟩
    rw [hD] at m1
    obtain ⟨m3, m4⟩ := m1
    obtain ⟨k, hk⟩ : ∃ k : Nat, (D + n) % n = k := ⟨((D + n) % n).toNat, by rw [Int.toNat_of_nonneg (Int.emod_nonneg _ (by omega))]⟩
    have kn : k < n := by have := Int.emod_lt_of_pos (D + n) (b := (n : Int)) (by omega); omega
    obtain ⟨g, rfl, hg, hN, hcap⟩ := C2.out.at (by omega)
    have N2 : Hid (News v2 ⟨g, 0, none⟩ l) := hN
    have HK : Hid (l.length = n) := C2.out.len
    have ncap : n ≤ cap := C2.out.cap
    have L1 : Hid ((secC (l.drop k)).length = (n - k) * 3) := by unfold Hid; rw [secC_length, List.length_drop, HK.out]
    have L2 : Hid ((secC (l.take k)).length = k * 3) := by unfold Hid; rw [secC_length, List.length_take, HK.out]; omega
    have q0 : (0 : Int) ≤ (k : Int) := by omega
    have q1 : (k : Int) ≤ (n : Int) := by omega
    have q2 : (n : Int) ≤ (cap : Int) := by omega
    have q3 : (k : Int) ≤ (cap : Int) := by omega
    have q4 : ¬ cap = k := by omega
    clear hN hn0
    go_wp2_with fail
    simp only [hk]
    go_region_law (first
      | (refine step_append_at _ (by rfl) (.const (.slice none 0 0)) (.tmp 37) 22 (by rfl) v2.heap.size 31 i0 _ 3 24 Tryz.underlying22 hi0 hz0 hz1 hz2 rfl (by omega) (.slice none 0 0) 0 [] (by rfl) (World.ownsRow_nil _ _ _ _) ⟨g, k * 3, none⟩ (n - k) (cap - k) (secC (l.drop k)) (by rfl) L1.out ((N2.out.below (bdrew _)).drop k) (secC_one _) (by unfold maxLen; omega) (by omega) (by simp) ?_; intro y1 w1 own1 gr1 at1; rw [Nat.zero_add, List.nil_append] at own1; have GR : Hid (v2.drew.grownBy w1 none) := gr1; have OW : Hid (w1.ownsRow v2.heap.size 31 3 y1 (n - k) (secC (l.drop k))) := own1; have N3 : Hid (News w1 ⟨g, 0, none⟩ l) := N2.out.below ((bdrew v2).trans (gr_bel gr1 (fun k hk => by have h0 : (none : Option Nat) = some k := hk; cases h0) (Nat.le_refl _))); clear own1 gr1 at1)
      | (refine step_append_at _ (by rfl) (.tmp 38) (.tmp 41) 22 (by rfl) v2.heap.size 31 i0 _ 3 24 Tryz.underlying22 hi0 hz0 hz1 hz2 rfl (by omega) y1 (n - k) (secC (l.drop k)) (by rfl) OW.out ⟨g, 0, none⟩ k cap (secC (l.take k)) (by rfl) L2.out (N3.out.take k) (secC_one _) (by unfold maxLen; omega) (by omega) (by have := GR.out.size; exact this) ?_; intro y2 v3 own2 gr2 at2; obtain ⟨a2, cap2, e⟩ := own_form own2; subst e; obtain ⟨o2, g3⟩ := rot_end HK.out (by omega) (bdrew v2) (Nat.le_refl _) GR.out OW.out gr2 own2; have O3 : Hid (OwnL v3 v2.heap.size (.slice a2 (n - k + k) cap2) (l.drop k ++ l.take k)) := o2; have G3 : Hid (Below w.heap.size w v3) := btrans G2.out g3; have C3 : Hid (Cop9 v3 w.heap.size (some ⟨g, 0, none⟩) n cap l) := C2.out.below g3; clear own2 gr2 at2 o2 g3)
      | fail)
    all_goals
      have R := rot_all l k
      obtain ⟨⟨r1, r2⟩, ⟨r3, r4⟩, r5⟩ := R
      have HR : Hid ((l.drop k ++ l.take k).length ≤ 1000000) := by show _ ≤ _; rw [List.length_append, List.length_drop, List.length_take]; have := HK.out; omega
      obtain ⟨z, hz⟩ : ∃ z, tN l = z := ⟨_, rfl⟩
      obtain ⟨t, ht⟩ : ∃ t, tOk l = t := ⟨_, rfl⟩
      obtain ⟨x, hx⟩ : ∃ x, oN l = x := ⟨_, rfl⟩
      obtain ⟨b, hb⟩ : ∃ b, oOk l = b := ⟨_, rfl⟩
      obtain ⟨f, hf⟩ : ∃ f, fitB l = f := ⟨_, rfl⟩
      have Z : Hid (tN l = z ∧ tN (l.drop k ++ l.take k) = z) := ⟨hz, r2.trans hz⟩
      have TT : Hid (tOk l = t ∧ tOk (l.drop k ++ l.take k) = t) := ⟨ht, r1.trans ht⟩
      have XX : Hid (oN l = x ∧ oN (l.drop k ++ l.take k) = x) := ⟨hx, r4.trans hx⟩
      have BB : Hid (oOk l = b ∧ oOk (l.drop k ++ l.take k) = b) := ⟨hb, r3.trans hb⟩
      have FF : Hid (fitB l = f ∧ fitB (l.drop k ++ l.take k) = f) := ⟨hf, r5.trans hf⟩
      clear r1 r2 r3 r4 r5 hz ht hx hb hf
      go_wp2_with fail
      refine (btime_any _ l _ C3.out.sec HL.out).mono ?_
      rintro e v4 ⟨rfl, g4⟩
      rw [Z.out.1, TT.out.1]
      have G4 : Hid (Below w.heap.size w v4) := btrans G3.out g4
      have C4 : Hid (Cop9 v4 w.heap.size (some ⟨g, 0, none⟩) n cap l) := C3.out.below g4
      have O4 : Hid (OwnL v4 v2.heap.size (.slice a2 (n - k + k) cap2) (l.drop k ++ l.take k)) := O3.out.below g4
      clear g4
      go_wp2_with fail
      refine (btime_any _ (l.drop k ++ l.take k) _ O4.out.secs HR.out).mono ?_
      rintro e v5 ⟨rfl, g5⟩
      rw [Z.out.2, TT.out.2]
      have G5 : Hid (Below w.heap.size w v5) := btrans G4.out g5
      have C5 : Hid (Cop9 v5 w.heap.size (some ⟨g, 0, none⟩) n cap l) := C4.out.below g5
      have O5 : Hid (OwnL v5 v2.heap.size (.slice a2 (n - k + k) cap2) (l.drop k ++ l.take k)) := O4.out.below g5
      clear g5
      go_wp2_with fail
      refine (dfirst_any _ l _ C5.out.sec HL.out).mono ?_
      rintro e v6 ⟨rfl, g6⟩
      rw [XX.out.1, BB.out.1]
      have G6 : Hid (Below w.heap.size w v6) := btrans G5.out g6
      have C6 : Hid (Cop9 v6 w.heap.size (some ⟨g, 0, none⟩) n cap l) := C5.out.below g6
      have O6 : Hid (OwnL v6 v2.heap.size (.slice a2 (n - k + k) cap2) (l.drop k ++ l.take k)) := O5.out.below g6
      clear g6
      go_wp2_with fail
      refine (dfirst_any _ (l.drop k ++ l.take k) _ O6.out.secs HR.out).mono ?_
      rintro e v7 ⟨rfl, g7⟩
      rw [XX.out.2, BB.out.2]
      have G7 : Hid (Below w.heap.size w v7) := btrans G6.out g7
      have C7 : Hid (Cop9 v7 w.heap.size (some ⟨g, 0, none⟩) n cap l) := C6.out.below g7
      have O7 : Hid (OwnL v7 v2.heap.size (.slice a2 (n - k + k) cap2) (l.drop k ++ l.take k)) := O6.out.below g7
      clear g7
      go_wp2_with fail
      refine (dfits_any _ l _ C7.out.sec HL.out).mono ?_
      rintro e v8 ⟨rfl, g8⟩
      rw [FF.out.1]
      have G8 : Hid (Below w.heap.size w v8) := btrans G7.out g8
      have C8 : Hid (Cop9 v8 w.heap.size (some ⟨g, 0, none⟩) n cap l) := C7.out.below g8
      have O8 : Hid (OwnL v8 v2.heap.size (.slice a2 (n - k + k) cap2) (l.drop k ++ l.take k)) := O7.out.below g8
      clear g8
      go_wp2_with fail
      refine (dfits_any _ (l.drop k ++ l.take k) _ O8.out.secs HR.out).mono ?_
      rintro e v9 ⟨rfl, g9⟩
      rw [FF.out.2]
      have G9 : Hid (Below w.heap.size w v9) := btrans G8.out g9
      have C9 : Hid (Cop9 v9 w.heap.size (some ⟨g, 0, none⟩) n cap l) := C8.out.below g9
      have O9 : Hid (OwnL v9 v2.heap.size (.slice a2 (n - k + k) cap2) (l.drop k ++ l.take k)) := O8.out.below g9
      clear g9
      go_wp2_with fail
      go_ret
      exact ⟨ret_bool (by simp), G9.out⟩

set_option maxRecDepth 100000 in
theorem lifted (os : Os) (started : os.Started) (H : Type) (enc : TypeId × Value → H) :
    ReturnsInHanded {} Tryz.checked os 13 .any (fun w args => (Rows.busyOrderSpec.pre enc Tryz.prog Tryz.f13 [] false w args ∧ laidMetH Tryz.prog laid5 w) ∧ sizedMet enc Tryz.prog Tryz.f13 (OpenSpec.ofChange Rows.busyOrderSpec) false w args)
      (Rows.busyOrderSpec.post enc Tryz.prog Tryz.f13 false true false false) := by
  refine returnsInHanded_of_change_and (C := Tryz.checked) (X := fun w _ => laidMetH Tryz.prog laid5 w) (fun _ _ _ hh h => h.of_heap hh) own started (by kernel_rfl) Tryz.func13
    (ChangeSpec.witness_shaped (enc := enc) (C := Tryz.checked) (os := os) (X := fun w _ => laidMetH Tryz.prog laid5 w) false (World.doorLaid Tryz.prog 62 os) #[.slice none 0 0, .int .i64 0] 8 rfl (World.shaped_of_RefB (by kernel_rfl) (by kernel_rfl)) (by kernel_rfl) (by kernel_rfl) (by kernel_rfl) (door_met os _)) ?_
  intro W base args ds gs before hval0 hW _ _ hL _
  have hval : ∀ (j : Nat) t v, Tryz.f13.params[j]? = some t → args[j]? = some v → Value.okWide Tryz.prog W .any base t v := hval0
  have hW' := hW
  obtain ⟨p, q, hA0, hV, rfl, hfz, hnd⟩ := hW
  have hA : DataW.TrodAll enc Tryz.prog W 0 (fun _ => true) true Tryz.f13.params.toList args.toList ds p := hA0
  rw [Tryz.params13] at hA hval
  obtain ⟨v0, vs0, d0, ds0, p0, q0, hargs, rfl, rfl, h0, r0⟩ := trodAll_cons hA
  obtain ⟨v1, vs1, d1, ds1, p1, q1, rfl, rfl, rfl, h1, r1⟩ := trodAll_cons r0
  obtain ⟨rfl, rfl, rfl⟩ := trodAll_nil r1
  obtain rfl : args = #[v0, v1] := by cases args; simp_all
  obtain ⟨rfl, rfl⟩ := trodVars_none hV
  obtain ⟨s0, n0, m0, rfl⟩ := okWide_slice Tryz.underlying22 (hval 0 22 v0 rfl rfl)
  have k0 := h0
  have lt0 : ∀ x ∈ p0, x.block < W.heap.size := by obtain ⟨m, hm⟩ := k0; exact DataW.trod_lt m _ _ _ hm
  obtain ⟨z0, w0⟩ := (by obtain ⟨fuel, hf⟩ := h0; exact open_loads hf : ∃ zs, ALds W s0 n0 m0 zs)
  obtain ⟨a1, rfl, rfl, rfl, w1⟩ := open_int Tryz.underlying3 (hval 1 3 v1 rfl rfl) h1
  clear hA0 hval0
  simp only [List.append_nil] at hW'
  refine (walk s0 n0 m0 z0 a1 W (env_of_laid hL) w0 w1).mono fun e W' ⟨he, bel⟩ => ?_
  subst he
  exact ⟨_, rfl, _, _, _, [], _, [], hW', trodAll_mk1 (shut_bool Tryz.underlying4 _), (trodAll_cons_mk (Below.trod laidOut (by kernel_rfl) (of_decide_eq_true (by kernel_rfl)) k0 bel lt0) (trodAll_cons_mk (shut_int Tryz.underlying3 w1) trodAll_mk0)), rfl, bel.frame _, fun h => by cases h⟩

theorem closed : joinedFacts Tryz.pinned.checked.prog 13 Tryz.f13 Rows.busyOrderSpec Rows.busyOrderRow = true := by
  generalize hP : Tryz.pinned.checked.prog = P
  simp only [joinedFacts, Bool.and_eq_true]
  subst hP
  refine ⟨⟨⟨⟨⟨⟨⟨⟨⟨⟨⟨⟨⟨⟨⟨⟨⟨⟨⟨⟨⟨⟨⟨⟨⟨⟨⟨⟨⟨⟨⟨?k1, ?k2⟩, ?k3⟩, ?k4⟩, ?k5⟩, ?k6⟩, ?k7⟩, ?k8⟩, ?k9⟩, ?k10⟩, ?k11⟩, ?k12⟩, ?k13⟩, ?k14⟩, ?k15⟩, ?k16⟩, ?k17⟩, ?k18⟩, ?k19⟩, ?k20⟩, ?k21⟩, ?k22⟩, ?k23⟩, ?k24⟩, ?k25⟩, ?k26⟩, ?k27⟩, ?k28⟩, ?k29⟩, ?k30⟩, ?k31⟩, ?k32⟩
  case k26 => exact head_enter
  case k27 => show (false == Tryz.prog.liftsFinal) = true; rw [head_lifts]; rfl
  case k28 => exact head_make
  all_goals kernel_rfl
theorem over : Rows.busyOrderRow.holds Tryz.pinned (OpenSpec.ofChange Rows.busyOrderSpec) :=
  OpenClaim.holds_of_wide 13 Tryz.f13 rfl rfl rfl rfl rfl rfl rfl ⟨rfl, rfl, rfl, rfl, rfl⟩ rfl rfl rfl rfl rfl (by kernel_rfl) Tryz.func13 closed
    (of_decide_eq_true (by kernel_rfl)) (by unfold Func.isWrapper; first | (rw [if_pos (by decide +kernel)]; kernel_rfl) | (rw [if_neg (by decide +kernel)]; exact ⟨rfl, rfl⟩))
    (fun os started H enc _ => lifted os started H enc)

theorem proved : Rows.BusyOrderCardSaid :=
  Claim7.holds_tied_plain_at .later [] [.data, .data, .data, .sentinel, .sentinel] true (true, "5593ad2a5a772f8be195e0fe692033ff87e224b9e1f3bacf87f13d01f91435b9") true
    over (fun _ h => by cases h) (by kernel_rfl) (fun _ h => by cases h) busyOrder_row_tie rfl ⟨rfl, rfl⟩ head_main rfl
    (fun f fn hf hfn => by
      obtain rfl : f = 13 := Option.some.inj ((show Tryz.prog.funcNamed "hortator/hortatorlaw9.BusyOrder" = some 13 by kernel_rfl).symm.trans hf) |>.symm
      obtain rfl : fn = Tryz.f13 := (Option.some.inj (Tryz.func13.symm.trans hfn)).symm
      exact ⟨by kernel_rfl, fun j t ht => by
        rw [Tryz.params13] at ht
        match j, ht with
        | 0, ht => obtain rfl : t = 22 := by simpa using ht.symm
                   exact (show Tryz.prog.wantsStandIn 22 = false by kernel_rfl)
        | 1, ht => obtain rfl : t = 3 := by simpa using ht.symm
                   exact (show Tryz.prog.wantsStandIn 3 = false by kernel_rfl)
        | (_ + 2), ht => simp at ht⟩)
    (by kernel_rfl)
end Go.Proofs.YtpbjodbcmaaheaaGreatDoor.busyOrder
