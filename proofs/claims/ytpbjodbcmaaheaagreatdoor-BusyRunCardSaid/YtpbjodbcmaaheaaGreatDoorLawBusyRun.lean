/-
PROVED: the statement hortatorlaw9.BusyRun answers true over the landed packages: a core that is run tick by tick, all asking at once and as often as they may, is busy just so long.
  CONDITIONS: the listed variables of strconv and math/bits hold what the program's text lays (the card ties them).
-/
import Derived.Test.YtpbjodbcmaaheaaGreatDoorRows
import Derived.Test.YtpbjodbcmaaheaaGreatDoorTie
import Derived.Test.YtpbjodbcmaaheaaGreatDoorCards
import Derived.WalkKit
import Derived.ProofKit
import Derived.OpenShut
import Derived.ShutString
import Derived.ChangeOld
import Derived.Below
import Derived.SevenTiedAt
import Derived.Test.YtpbjodbcmaaheaaGreatDoorLaid
import Derived.Test.YtpbjodbcmaaheaaGreatDoorHead
import Derived.Carry
import Derived.Deep.Cut
import Derived.Deep.CutRange
import Derived.Deep.RegionWith
import Derived.Deep.RegionHeld3
import Derived.Deep.LoopGhost
import Derived.Deep.QuietTactic
import Derived.BigQuiet
import Derived.Test.YtpbjodbcmaaheaaGreatDoorArgs9J
import Derived.Test.YtpbjodbcmaaheaaGreatDoorBegun9
import Derived.Test.YtpbjodbcmaaheaaGreatDoorBits9
import Derived.Test.YtpbjodbcmaaheaaGreatDoorBMath5
import Derived.Test.YtpbjodbcmaaheaaGreatDoorBMath6
namespace Go.Proofs.YtpbjodbcmaaheaaGreatDoor.busyRun
open Go.ChangeShapes Go.WideShapes Go.ChangeAt Go.RowKit
open Go.ChangeMaps (open_string shut_string)
set_option linter.unusedVariables false

theorem own : ownKnob Tryz.prog.godebug = none := by kernel_rfl
theorem laidOut : laidOutB Tryz.prog = true := by kernel_rfl

set_option maxHeartbeats 8000000 in
set_option maxRecDepth 100000 in
theorem walk (s0 : Option Addr) (n0 m0 : Nat) (z0 : List Sec) (w : World) (hE : Env w) (w0 : ALds w s0 n0 m0 z0) :
    Calls Tryz.prog 4 #[.slice s0 n0 m0] w fun e w' => e = .returned (.bool true) ∧ Below w.heap.size w w' := by
  have HE : Hid (Env w) := hE
  have HA : Hid (ALds w s0 n0 m0 z0) := w0
  clear hE w0
  go_enter Tryz.func4, Tryz.ntmps4
  go_wp2_with fail
  refine (begun9_any w HE.out).mono ?_
  rintro e v1 ⟨rfl, g1⟩
  have G1 : Hid (Below w.heap.size w v1) := g1
  clear g1
  go_wp2_with fail
  refine (lloads_at s0 n0 m0 z0 w _ G1.out HA.out).mono ?_
  rintro e v2 ⟨a, n, cap, l, rfl, hl, n10, c2, g2⟩
  have G2 : Hid (Below w.heap.size w v2) := g2
  have C2 : Hid (Cop9 v2 w.heap.size a n cap l) := c2
  have HL : Hid (l.length ≤ 1000000) := by have := c2.len; show _ ≤ _; omega
  have HS : Hid (l.length ≤ 1000) := by have := c2.len; show _ ≤ _; omega
  clear g2 hl c2
  obtain ⟨z, hz⟩ : ∃ z, tN l = z := ⟨_, rfl⟩
  have HZ : Hid (tN l = z) := hz
  clear hz
  cases hb : ldsB l
  · have HB : Hid (ldsB l = false) := hb
    have HT : Hid (tOk l = false) := (time_bad hb).1
    have z0 : z = 0 := by rw [← HZ.out]; exact (time_bad hb).2
    subst z0
    clear hb
    go_wp2_with fail
    refine (btime_any _ l _ C2.out.sec HL.out).mono ?_
    rintro e v3 ⟨rfl, g3⟩
    rw [HT.out, HZ.out]
    have G3 : Hid (Below w.heap.size w v3) := btrans G2.out g3
    have C3 : Hid (Cop9 v3 w.heap.size a n cap l) := C2.out.below g3
    clear g3 G2 C2
    go_wp2_with fail
    refine (rloads_any _ l _ C3.out.sec HL.out).mono ?_
    rintro e v4 ⟨rfl, g4⟩
    rw [HB.out]
    have G4 : Hid (Below w.heap.size w v4) := btrans G3.out g4
    have C4 : Hid (Cop9 v4 w.heap.size a n cap l) := C3.out.below g4
    clear g4 G3 C3
    go_wp2_with fail
    refine (rloads_any _ l _ C4.out.sec HL.out).mono ?_
    rintro e v5 ⟨rfl, g5⟩
    rw [HB.out]
    have G5 : Hid (Below w.heap.size w v5) := btrans G4.out g5
    have C5 : Hid (Cop9 v5 w.heap.size a n cap l) := C4.out.below g5
    clear g5 G4 C4
    go_wp2_with fail
    go_ret
    exact ⟨ret_bool (by simp), G5.out⟩
  · have HB : Hid (ldsB l = true) := hb
    clear hb
    by_cases hn0 : n = 0
    · subst hn0
      have e0 : l = [] := List.length_eq_zero_iff.1 C2.out.len
      have HT : Hid (tOk l = true) := by unfold Hid; rw [e0]; exact time_nil.1
      have z0 : z = 0 := by rw [← HZ.out, e0]; exact time_nil.2
      subst z0
      clear e0
      go_wp2_with fail
      refine (btime_any _ l _ C2.out.sec HL.out).mono ?_
      rintro e v3 ⟨rfl, g3⟩
      rw [HT.out, HZ.out]
      have G3 : Hid (Below w.heap.size w v3) := btrans G2.out g3
      have C3 : Hid (Cop9 v3 w.heap.size a 0 cap l) := C2.out.below g3
      clear g3 G2 C2
      go_wp2_with fail
      refine (rloads_any _ l _ C3.out.sec HL.out).mono ?_
      rintro e v4 ⟨rfl, g4⟩
      rw [HB.out]
      have G4 : Hid (Below w.heap.size w v4) := btrans G3.out g4
      have C4 : Hid (Cop9 v4 w.heap.size a 0 cap l) := C3.out.below g4
      clear g4 G3 C3
      go_wp2_with fail
      refine (rloads_any _ l _ C4.out.sec HL.out).mono ?_
      rintro e v5 ⟨rfl, g5⟩
      rw [HB.out]
      have G5 : Hid (Below w.heap.size w v5) := btrans G4.out g5
      have C5 : Hid (Cop9 v5 w.heap.size a 0 cap l) := C4.out.below g5
      clear g5 G4 C4
      go_wp2_with fail
      go_ret
      exact ⟨ret_bool (by simp), G5.out⟩
    · have hn1 : ((n : Int) == 0) = false := by simp; omega
      have HE0 : Hid (l ≠ []) := by rintro rfl; exact hn0 C2.out.len.symm
      obtain ⟨o, ho⟩ : ∃ o, tOk l = o := ⟨_, rfl⟩
      have HO : Hid (tOk l = o) := ho
      clear ho hn0
      go_wp2_with fail
      refine (btime_any _ l _ C2.out.sec HL.out).mono ?_
      rintro e v3 ⟨rfl, g3⟩
      rw [HO.out, HZ.out]
      have G3 : Hid (Below w.heap.size w v3) := btrans G2.out g3
      have C3 : Hid (Cop9 v3 w.heap.size a n cap l) := C2.out.below g3
      clear g3 G2 C2
      go_wp2_with fail
      refine (rloads_any _ l _ C3.out.sec HL.out).mono ?_
      rintro e v4 ⟨rfl, g4⟩
      rw [HB.out]
      have G4 : Hid (Below w.heap.size w v4) := btrans G3.out g4
      have C4 : Hid (Cop9 v4 w.heap.size a n cap l) := C3.out.below g4
      clear g4 G3 C3
      go_wp2_with fail
      go_loop [6, 7] (fun y x => ∃ t : Int, 0 ≤ t ∧ t ≤ 3001 ∧ x = .int .i64 t ∧ y = .int .i64 (askL l t - t) ∧ Hid (Up l t)) (fun _ x => (3002 - intOf x).toNat)
      case atStart => exact ⟨0, by omega, by omega, rfl, by rw [ask_zero]; rfl, fun s h1 h2 => by omega⟩
      case round =>
        obtain ⟨t, t0, t1, rfl, rfl, HU⟩ := hrel
        by_cases ht : t ≤ 3000
        · obtain ⟨q, hq⟩ : ∃ q, askL l t = q := ⟨_, rfl⟩
          have HQ : Hid (askL l t = q) := hq
          have q0 : 0 ≤ q := by rw [← hq]; exact ask_nonneg (ldsB_all HB.out) t0
          have q1 : q ≤ 9600000000 := by
            rw [← hq]
            have := ask_bd (ldsB_all HB.out) (t := t) t0 (by omega)
            have := C4.out.len
            omega
          rw [hq]
          clear hq
          by_cases hd : 0 < t ∧ q = t
          · obtain ⟨d0, d1⟩ := hd
            subst d1
            have HR := time_found HB.out HE0.out d0 (by omega) HQ.out HU.out
            rw [HO.out, HZ.out] at HR
            obtain ⟨r1, r2⟩ := HR
            subst r1
            subst r2
            have s0 : z - z = 0 := by omega
            go_wp2_with fail
            go_ret
            exact ⟨ret_bool (by first | rfl | (simp; done) | (simp; omega)), G4.out⟩
          · have HU2 : Hid (Up l (t + 1)) := fun s s1 s2 => by
              by_cases hs : s < t
              · exact HU.out s s1 hs
              · have hst : s = t := by omega
                subst hst
                have := HU.out.le HB.out HE0.out (by omega)
                rw [HQ.out] at this ⊢
                omega
            have HS2 : Hid (∀ k, 0 ≤ stepL (l.take k) t ∧ stepL (l.take k) t ≤ 200000) := fun k => stepL_bd (ldsB_all HB.out) k C4.out.len n10
            have D : Hid (t = 0 ∨ (0 < t ∧ ¬ q - t = 0)) := by show _ ∨ _; omega
            clear hd
            rcases D.out with d0 | ⟨d0, d1⟩
            · have d1 : ¬ 0 < t := by omega
              clear d0
              go_wp2_with fail
              go_loop [6, 8] (fun y i => ∃ k : Nat, k ≤ n ∧ i = .int .i64 k ∧ y = .int .i64 (q - t + stepL (l.take k) t)) (fun _ i => n - (intOf i).toNat)
              case atStart => exact ⟨0, Nat.zero_le _, rfl, by simp [stepL]⟩
              case round =>
                obtain ⟨k, hk, rfl, rfl⟩ := hrel
                obtain ⟨p1, p2⟩ := HS2.out k
                by_cases hlt : k < n
                · obtain ⟨⟨c, d, T⟩, hx⟩ : ∃ x, l[k]? = some x := ⟨_, List.getElem?_eq_getElem (by rw [C4.out.len]; exact hlt)⟩
                  obtain ⟨b, e, hb, hb', x1, x2, x3⟩ := secs_at' C4.out.sec hx (Below.refl _ _)
                  subst e
                  have HT : Hid (stepL (l.take (k + 1)) t = stepL (l.take k) t + if t % T = 0 then c else 0) := stepL_take hx t
                  have hs := ldB_iff.1 (ldsB_all HB.out _ (List.mem_of_getElem? hx))
                  simp only at hs
                  obtain ⟨⟨c1, c2⟩, ⟨T1, T2⟩, -⟩ := hs
                  clear hx
                  generalize stepL (l.take k) t = X at p1 p2 HT ⊢
                  by_cases e : t % T = 0
                  · have HT2 : Hid (stepL (l.take (k + 1)) t = X + c) := by unfold Hid; rw [HT.out, if_pos e]
                    have e4 : (t % T == 0) = true := by simp [e]
                    clear HT e
                    go_wp2_with fail
                    go_round
                    case rel => exact ⟨k + 1, by omega, by go_num, by rw [HT2.out]; go_num⟩
                    case measure => simp [intOf]; omega
                  · have HT2 : Hid (stepL (l.take (k + 1)) t = X) := by unfold Hid; rw [HT.out, if_neg e]; omega
                    have e4 : (t % T == 0) = false := by simp [e]
                    clear HT
                    go_wp2_with fail
                    go_round
                    case rel => exact ⟨k + 1, by omega, by go_num, by rw [HT2.out]⟩
                    case measure => simp [intOf]; omega
                · have HE3 : Hid (q - t + stepL (l.take k) t - 1 = askL l (t + 1) - (t + 1)) := by unfold Hid; rw [take_all C4.out.len.symm hlt, ask_succ (ldsB_all HB.out), HQ.out]; omega
                  generalize stepL (l.take k) t = X at p1 p2 HE3 ⊢
                  go_wp2_with fail
                  go_round
                  case rel => exact ⟨t + 1, by omega, by omega, by go_num, by rw [← HE3.out], HU2.out⟩
                  case measure => simp [intOf]; omega
            · go_wp2_with fail
              go_loop [6, 8] (fun y i => ∃ k : Nat, k ≤ n ∧ i = .int .i64 k ∧ y = .int .i64 (q - t + stepL (l.take k) t)) (fun _ i => n - (intOf i).toNat)
              case atStart => exact ⟨0, Nat.zero_le _, rfl, by simp [stepL]⟩
              case round =>
                obtain ⟨k, hk, rfl, rfl⟩ := hrel
                obtain ⟨p1, p2⟩ := HS2.out k
                by_cases hlt : k < n
                · obtain ⟨⟨c, d, T⟩, hx⟩ : ∃ x, l[k]? = some x := ⟨_, List.getElem?_eq_getElem (by rw [C4.out.len]; exact hlt)⟩
                  obtain ⟨b, e, hb, hb', x1, x2, x3⟩ := secs_at' C4.out.sec hx (Below.refl _ _)
                  subst e
                  have HT : Hid (stepL (l.take (k + 1)) t = stepL (l.take k) t + if t % T = 0 then c else 0) := stepL_take hx t
                  have hs := ldB_iff.1 (ldsB_all HB.out _ (List.mem_of_getElem? hx))
                  simp only at hs
                  obtain ⟨⟨c1, c2⟩, ⟨T1, T2⟩, -⟩ := hs
                  clear hx
                  generalize stepL (l.take k) t = X at p1 p2 HT ⊢
                  by_cases e : t % T = 0
                  · have HT2 : Hid (stepL (l.take (k + 1)) t = X + c) := by unfold Hid; rw [HT.out, if_pos e]
                    have e4 : (t % T == 0) = true := by simp [e]
                    clear HT e
                    go_wp2_with fail
                    go_round
                    case rel => exact ⟨k + 1, by omega, by go_num, by rw [HT2.out]; go_num⟩
                    case measure => simp [intOf]; omega
                  · have HT2 : Hid (stepL (l.take (k + 1)) t = X) := by unfold Hid; rw [HT.out, if_neg e]; omega
                    have e4 : (t % T == 0) = false := by simp [e]
                    clear HT
                    go_wp2_with fail
                    go_round
                    case rel => exact ⟨k + 1, by omega, by go_num, by rw [HT2.out]⟩
                    case measure => simp [intOf]; omega
                · have HE3 : Hid (q - t + stepL (l.take k) t - 1 = askL l (t + 1) - (t + 1)) := by unfold Hid; rw [take_all C4.out.len.symm hlt, ask_succ (ldsB_all HB.out), HQ.out]; omega
                  generalize stepL (l.take k) t = X at p1 p2 HE3 ⊢
                  go_wp2_with fail
                  go_round
                  case rel => exact ⟨t + 1, by omega, by omega, by go_num, by rw [← HE3.out], HU2.out⟩
                  case measure => simp [intOf]; omega
        · have HR : Hid (o = true → 3000 < z) := fun h => by
            refine Classical.byContradiction fun hc => ?_
            have := time_ok (by rw [HO.out]; exact h) HE0.out
            rw [HZ.out] at this
            have := HU.out z this.1 (by omega)
            omega
          cases o
          · go_wp2_with fail
            go_ret
            exact ⟨ret_bool (by simp), G4.out⟩
          · have h3 := HR.out rfl
            go_wp2_with fail
            go_ret
            exact ⟨ret_bool (by first | rfl | (simp; omega)), G4.out⟩

set_option maxRecDepth 100000 in
theorem lifted (os : Os) (started : os.Started) (H : Type) (enc : TypeId × Value → H) :
    ReturnsInHanded {} Tryz.checked os 4 .any (fun w args => (Rows.busyRunSpec.pre enc Tryz.prog Tryz.f4 [] false w args ∧ laidMetH Tryz.prog laid5 w) ∧ sizedMet enc Tryz.prog Tryz.f4 (OpenSpec.ofChange Rows.busyRunSpec) false w args)
      (Rows.busyRunSpec.post enc Tryz.prog Tryz.f4 false true false false) := by
  refine returnsInHanded_of_change_and (C := Tryz.checked) (X := fun w _ => laidMetH Tryz.prog laid5 w) (fun _ _ _ hh h => h.of_heap hh) own started (by kernel_rfl) Tryz.func4
    (ChangeSpec.witness_shaped (enc := enc) (C := Tryz.checked) (os := os) (X := fun w _ => laidMetH Tryz.prog laid5 w) false (World.doorLaid Tryz.prog 62 os) #[.slice none 0 0] 8 rfl (World.shaped_of_RefB (by kernel_rfl) (by kernel_rfl)) (by kernel_rfl) (by kernel_rfl) (by kernel_rfl) (door_met os _)) ?_
  intro W base args ds gs before hval0 hW _ _ hL _
  have hval : ∀ (j : Nat) t v, Tryz.f4.params[j]? = some t → args[j]? = some v → Value.okWide Tryz.prog W .any base t v := hval0
  have hW' := hW
  obtain ⟨p, q, hA0, hV, rfl, hfz, hnd⟩ := hW
  have hA : DataW.TrodAll enc Tryz.prog W 0 (fun _ => true) true Tryz.f4.params.toList args.toList ds p := hA0
  rw [Tryz.params4] at hA hval
  obtain ⟨v0, vs0, d0, ds0, p0, q0, hargs, rfl, rfl, h0, r0⟩ := trodAll_cons hA
  obtain ⟨rfl, rfl, rfl⟩ := trodAll_nil r0
  obtain rfl : args = #[v0] := by cases args; simp_all
  obtain ⟨rfl, rfl⟩ := trodVars_none hV
  obtain ⟨s0, n0, m0, rfl⟩ := okWide_slice Tryz.underlying22 (hval 0 22 v0 rfl rfl)
  have k0 := h0
  have lt0 : ∀ x ∈ p0, x.block < W.heap.size := by obtain ⟨m, hm⟩ := k0; exact DataW.trod_lt m _ _ _ hm
  obtain ⟨z0, w0⟩ := (by obtain ⟨fuel, hf⟩ := h0; exact open_loads hf : ∃ zs, ALds W s0 n0 m0 zs)
  clear hA0 hval0
  simp only [List.append_nil] at hW'
  refine (walk s0 n0 m0 z0 W (env_of_laid hL) w0).mono fun e W' ⟨he, bel⟩ => ?_
  subst he
  exact ⟨_, rfl, _, _, _, [], _, [], hW', trodAll_mk1 (shut_bool Tryz.underlying4 _), (trodAll_cons_mk (Below.trod laidOut (by kernel_rfl) (of_decide_eq_true (by kernel_rfl)) k0 bel lt0) trodAll_mk0), rfl, bel.frame _, fun h => by cases h⟩

theorem closed : joinedFacts Tryz.pinned.checked.prog 4 Tryz.f4 Rows.busyRunSpec Rows.busyRunRow = true := by
  generalize hP : Tryz.pinned.checked.prog = P
  simp only [joinedFacts, Bool.and_eq_true]
  subst hP
  refine ⟨⟨⟨⟨⟨⟨⟨⟨⟨⟨⟨⟨⟨⟨⟨⟨⟨⟨⟨⟨⟨⟨⟨⟨⟨⟨⟨⟨⟨⟨⟨?k1, ?k2⟩, ?k3⟩, ?k4⟩, ?k5⟩, ?k6⟩, ?k7⟩, ?k8⟩, ?k9⟩, ?k10⟩, ?k11⟩, ?k12⟩, ?k13⟩, ?k14⟩, ?k15⟩, ?k16⟩, ?k17⟩, ?k18⟩, ?k19⟩, ?k20⟩, ?k21⟩, ?k22⟩, ?k23⟩, ?k24⟩, ?k25⟩, ?k26⟩, ?k27⟩, ?k28⟩, ?k29⟩, ?k30⟩, ?k31⟩, ?k32⟩
  case k26 => exact head_enter
  case k27 => show (false == Tryz.prog.liftsFinal) = true; rw [head_lifts]; rfl
  case k28 => exact head_make
  all_goals kernel_rfl
theorem over : Rows.busyRunRow.holds Tryz.pinned (OpenSpec.ofChange Rows.busyRunSpec) :=
  OpenClaim.holds_of_wide 4 Tryz.f4 rfl rfl rfl rfl rfl rfl rfl ⟨rfl, rfl, rfl, rfl, rfl⟩ rfl rfl rfl rfl rfl (by kernel_rfl) Tryz.func4 closed
    (of_decide_eq_true (by kernel_rfl)) (by unfold Func.isWrapper; first | (rw [if_pos (by decide +kernel)]; kernel_rfl) | (rw [if_neg (by decide +kernel)]; exact ⟨rfl, rfl⟩))
    (fun os started H enc _ => lifted os started H enc)

theorem proved : Rows.BusyRunCardSaid :=
  Claim7.holds_tied_plain_at .later [] [.data, .data, .data, .sentinel, .sentinel] true (true, "5593ad2a5a772f8be195e0fe692033ff87e224b9e1f3bacf87f13d01f91435b9") true
    over (fun _ h => by cases h) (by kernel_rfl) (fun _ h => by cases h) busyRun_row_tie rfl ⟨rfl, rfl⟩ head_main rfl
    (fun f fn hf hfn => by
      obtain rfl : f = 4 := Option.some.inj ((show Tryz.prog.funcNamed "hortator/hortatorlaw9.BusyRun" = some 4 by kernel_rfl).symm.trans hf) |>.symm
      obtain rfl : fn = Tryz.f4 := (Option.some.inj (Tryz.func4.symm.trans hfn)).symm
      exact ⟨by kernel_rfl, fun j t ht => by
        rw [Tryz.params4] at ht
        match j, ht with
        | 0, ht => obtain rfl : t = 22 := by simpa using ht.symm
                   exact (show Tryz.prog.wantsStandIn 22 = false by kernel_rfl)
        | (_ + 1), ht => simp at ht⟩)
    (by kernel_rfl)
end Go.Proofs.YtpbjodbcmaaheaaGreatDoor.busyRun
