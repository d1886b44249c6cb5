/-
PROVED: the statement hortatorlaw2.Zeroes answers true over the landed packages: rooms below nought are none.
  CONDITIONS: none beside the row's own.
-/
import Derived.ChangeOld
import Derived.Below
import Derived.Test.YtkbmpoiokdoclaaRows
import Derived.WalkKit
import Derived.ProofKit
import Derived.OpenShut
import Derived.ShutString
import Derived.Test.YtkbmpoiokdoclaaBegun
import Derived.Test.YtkbmpoiokdoclaaStable
import Derived.Test.YtkbmpoiokdoclaaSeatMoreI
import Derived.Test.YtkbmpoiokdoclaaRingTakeI
import Derived.Test.YtkbmpoiokdoclaaBoxOpsI
import Derived.Test.YtkbmpoiokdoclaaLineDueI
namespace Go.Proofs.Ytkbmpoiokdoclaa.zeroes
open Go.ChangeShapes Go.WideShapes Go.ChangeAt Go.RowKit
open Go.ChangeMaps (open_string shut_string)
set_option linter.unusedVariables false

theorem own : ownKnob Try.prog.godebug = none := by kernel_rfl

set_option maxHeartbeats 8000000 in
set_option maxRecDepth 100000 in
theorem walk (a0 : Int) (w0 : (Lit.int .i64 a0).wf = true) (w : World) :
    Calls Try.prog 4 #[.int .i64 a0] w fun e w' => e = .returned (.bool true) ∧ Below w.heap.size w w' := by
  obtain ⟨b1, b2⟩ := bounds_i64 w0
  have key : ∀ r : Int, r ≤ 0 → HI.roomV r = 0 ∧ RI.roomV r = 0 ∧ SI.roomV r = 0 ∧ BI.roomV r = 0 ∧ HP.roomV r = 0 := by
    intro r hr
    unfold HI.roomV RI.roomV SI.roomV BI.roomV HP.roomV
    refine ⟨?_, ?_, ?_, ?_, ?_⟩ <;> omega
  rcases (by omega : 0 < a0 ∨ ¬ 0 < a0) with hp | hp
  · have K : Hid (HI.roomV (-a0) = 0 ∧ RI.roomV (-a0) = 0 ∧ SI.roomV (-a0) = 0 ∧ BI.roomV (-a0) = 0 ∧ HP.roomV (-a0) = 0) := key _ (by omega)
    clear key
    obtain ⟨r, hr⟩ : ∃ r, r = -a0 := ⟨_, rfl⟩
    have hneg : -a0 = r := hr.symm
    rw [hneg] at K
    have h1 : -9223372036854775808 ≤ r := by omega
    have h2 : r ≤ 9223372036854775807 := by omega
    clear hr
    go_enter Try.func4, Try.ntmps4
    go_wp2_with fail
    refine (begun2_any _).mono ?_
    rintro e W ⟨rfl, g0⟩
    have m0 := (Many.start w).below g0
    have M0 : Hid (Many w _ _ W) := m0
    clear g0 m0
    go_wp2_with fail
    refine (HI.new_any r W h1 h2).mono ?_
    rintro e w1 ⟨rfl, h1', g1⟩
    rw [K.out.1] at h1'
    have M1 : Hid (Many w _ _ w1) := M0.out.add 0 (f := foot W.heap.size (.slice none 0 0)) (p := fun w' => HI.Heaps w' W.heap.size 0 0 (.slice none 0 0) []) g1 h1' h1'.foot_lt h1'.foot_ge HI.stable
    clear M0 g1 h1'
    go_wp2_with fail
    refine (RI.new_any r w1 h1 h2).mono ?_
    rintro e w2 ⟨rfl, h2', g2⟩
    rw [K.out.2.1] at h2'
    have M2 : Hid (Many w _ _ w2) := M1.out.add 1 (f := foot w1.heap.size (.slice none 0 0)) (p := fun w' => RI.Rings w' w1.heap.size 0 (.slice none 0 0) []) g2 h2' h2'.foot_lt h2'.foot_ge RI.stable
    clear M1 g2 h2'
    go_wp2_with fail
    refine (SI.new_any r w2 h1 h2).mono ?_
    rintro e w3 ⟨rfl, h3, g3⟩
    rw [K.out.2.2.1] at h3
    have M3 : Hid (Many w _ _ w3) := M2.out.add 2 (f := foot w2.heap.size (.slice none 0 0)) (p := fun w' => SI.Seats w' w2.heap.size 0 (.slice none 0 0) []) g3 h3 h3.foot_lt h3.foot_ge SI.stable
    clear M2 g3 h3
    go_wp2_with fail
    refine (BI.new_any r w3 h1 h2).mono ?_
    rintro e w4 ⟨rfl, h4, g4⟩
    rw [K.out.2.2.2.1] at h4
    have M4 : Hid (Many w _ _ w4) := M3.out.add 3 (f := BI.footB (w3.heap.size + 1) w3.heap.size []) (p := fun w' => BI.Boxes w' (w3.heap.size + 1) w3.heap.size 0 []) g4 h4 (BI.footB_lt h4) (by intro k hk; simp [BI.footB] at hk; omega) BI.stable
    clear M3 g4 h4
    go_wp2_with fail
    refine (LI.new_any r w4 h1 h2).mono ?_
    rintro e w5 ⟨lb, rfl, hlb, h5, g5⟩
    rw [K.out.2.2.2.2] at h5
    have M5 : Hid (Many w _ _ w5) := M4.out.add 4 (f := LI.footL lb w4.heap.size (.slice none 0 0) (.slice none 0 0) []) (p := fun w' => LI.Lines w' lb w4.heap.size 0 0 (.slice none 0 0) (.slice none 0 0) [] []) g5 h5 h5.foot_lt (by intro k hk; simp [LI.footL, foot, Value.ownBlock] at hk; omega) LI.stable
    clear M4 g5 h5
    go_wp2_with fail
    refine (HI.put_full 1 1 1 w5 (M5.out.holds 0) (F := []) trivial (by simp) (by simp)).mono ?_
    rintro e w6 ⟨rfl, g6⟩
    have M6 : Hid (Many w _ _ w6) := M5.out.below g6
    clear M5 g6
    go_wp2_with fail
    refine (RI.put_full 1 w6 (M6.out.holds 1) (by simp)).mono ?_
    rintro e w7 ⟨rfl, g7⟩
    have M7 : Hid (Many w _ _ w7) := M6.out.below g7
    clear M6 g7
    go_wp2_with fail
    refine (SI.add_full 1 w7 (M7.out.holds 2) ⟨by simp, by simp, by simp⟩ (by simp)).mono ?_
    rintro e w' ⟨rfl, hw⟩
    subst w'
    go_wp2_with fail
    refine (BI.put_full 1 w7 (M7.out.holds 3) rfl).mono ?_
    rintro e w8 ⟨rfl, g8⟩
    have M8 : Hid (Many w _ _ w8) := M7.out.below g8
    clear M7 g8
    go_wp2_with fail
    refine (LI.put_full 1 1 w8 (M8.out.holds 4) (by simp) (by simp)).mono ?_
    rintro e w9 ⟨rfl, g9⟩
    have M9 : Hid (Many w _ _ w9) := M8.out.below g9
    clear M8 g9
    go_wp2_with fail
    refine (RI.ring_room w9 (M9.out.holds 1)).mono ?_
    rintro e w10 ⟨rfl, g10⟩
    have M10 : Hid (Many w _ _ w10) := M9.out.below g10
    clear M9 g10
    go_wp2_with fail
    refine (HI.heap_len w10 (M10.out.holds 0)).mono ?_
    rintro e w' ⟨rfl, hw⟩
    subst w'
    go_wp2_with fail
    refine (RI.ring_len w10 (M10.out.holds 1)).mono ?_
    rintro e w' ⟨rfl, hw⟩
    subst w'
    go_wp2_with fail
    refine (BI.len_any w10 (M10.out.holds 3)).mono ?_
    rintro e w' ⟨rfl, hw⟩
    subst w'
    go_wp2_with fail
    refine (LI.len_any (M10.out.holds 4)).mono ?_
    rintro e w' ⟨rfl, hw⟩
    subst w'
    go_wp2_with fail
    refine (SI.ids_any w10 (M10.out.holds 2)).mono ?_
    rintro e w11 ⟨u, rfl, own11, g11⟩
    have M11 : Hid (Many w _ _ w11) := M10.out.below g11
    obtain ⟨na, ncap, rfl⟩ : ∃ a cap, u = .slice a 0 cap := by
      rcases own11.2 with ⟨rfl, _⟩ | ⟨g, cap, cur, rfl, _⟩
      · exact ⟨none, 0, rfl⟩
      · exact ⟨_, _, rfl⟩
    clear M10 g11 own11
    go_wp2
    go_ret
    exact ⟨rfl, M11.out.bel⟩
  · have K : Hid (HI.roomV a0 = 0 ∧ RI.roomV a0 = 0 ∧ SI.roomV a0 = 0 ∧ BI.roomV a0 = 0 ∧ HP.roomV a0 = 0) := key _ (by omega)
    clear key
    obtain ⟨r, hr⟩ : ∃ r, r = a0 := ⟨_, rfl⟩
    subst hr
    have h1 : -9223372036854775808 ≤ r := by omega
    have h2 : r ≤ 9223372036854775807 := by omega
    go_enter Try.func4, Try.ntmps4
    go_wp2_with fail
    refine (begun2_any _).mono ?_
    rintro e W ⟨rfl, g0⟩
    have m0 := (Many.start w).below g0
    have M0 : Hid (Many w _ _ W) := m0
    clear g0 m0
    go_wp2_with fail
    refine (HI.new_any r W h1 h2).mono ?_
    rintro e w1 ⟨rfl, h1', g1⟩
    rw [K.out.1] at h1'
    have M1 : Hid (Many w _ _ w1) := M0.out.add 0 (f := foot W.heap.size (.slice none 0 0)) (p := fun w' => HI.Heaps w' W.heap.size 0 0 (.slice none 0 0) []) g1 h1' h1'.foot_lt h1'.foot_ge HI.stable
    clear M0 g1 h1'
    go_wp2_with fail
    refine (RI.new_any r w1 h1 h2).mono ?_
    rintro e w2 ⟨rfl, h2', g2⟩
    rw [K.out.2.1] at h2'
    have M2 : Hid (Many w _ _ w2) := M1.out.add 1 (f := foot w1.heap.size (.slice none 0 0)) (p := fun w' => RI.Rings w' w1.heap.size 0 (.slice none 0 0) []) g2 h2' h2'.foot_lt h2'.foot_ge RI.stable
    clear M1 g2 h2'
    go_wp2_with fail
    refine (SI.new_any r w2 h1 h2).mono ?_
    rintro e w3 ⟨rfl, h3, g3⟩
    rw [K.out.2.2.1] at h3
    have M3 : Hid (Many w _ _ w3) := M2.out.add 2 (f := foot w2.heap.size (.slice none 0 0)) (p := fun w' => SI.Seats w' w2.heap.size 0 (.slice none 0 0) []) g3 h3 h3.foot_lt h3.foot_ge SI.stable
    clear M2 g3 h3
    go_wp2_with fail
    refine (BI.new_any r w3 h1 h2).mono ?_
    rintro e w4 ⟨rfl, h4, g4⟩
    rw [K.out.2.2.2.1] at h4
    have M4 : Hid (Many w _ _ w4) := M3.out.add 3 (f := BI.footB (w3.heap.size + 1) w3.heap.size []) (p := fun w' => BI.Boxes w' (w3.heap.size + 1) w3.heap.size 0 []) g4 h4 (BI.footB_lt h4) (by intro k hk; simp [BI.footB] at hk; omega) BI.stable
    clear M3 g4 h4
    go_wp2_with fail
    refine (LI.new_any r w4 h1 h2).mono ?_
    rintro e w5 ⟨lb, rfl, hlb, h5, g5⟩
    rw [K.out.2.2.2.2] at h5
    have M5 : Hid (Many w _ _ w5) := M4.out.add 4 (f := LI.footL lb w4.heap.size (.slice none 0 0) (.slice none 0 0) []) (p := fun w' => LI.Lines w' lb w4.heap.size 0 0 (.slice none 0 0) (.slice none 0 0) [] []) g5 h5 h5.foot_lt (by intro k hk; simp [LI.footL, foot, Value.ownBlock] at hk; omega) LI.stable
    clear M4 g5 h5
    go_wp2_with fail
    refine (HI.put_full 1 1 1 w5 (M5.out.holds 0) (F := []) trivial (by simp) (by simp)).mono ?_
    rintro e w6 ⟨rfl, g6⟩
    have M6 : Hid (Many w _ _ w6) := M5.out.below g6
    clear M5 g6
    go_wp2_with fail
    refine (RI.put_full 1 w6 (M6.out.holds 1) (by simp)).mono ?_
    rintro e w7 ⟨rfl, g7⟩
    have M7 : Hid (Many w _ _ w7) := M6.out.below g7
    clear M6 g7
    go_wp2_with fail
    refine (SI.add_full 1 w7 (M7.out.holds 2) ⟨by simp, by simp, by simp⟩ (by simp)).mono ?_
    rintro e w' ⟨rfl, hw⟩
    subst w'
    go_wp2_with fail
    refine (BI.put_full 1 w7 (M7.out.holds 3) rfl).mono ?_
    rintro e w8 ⟨rfl, g8⟩
    have M8 : Hid (Many w _ _ w8) := M7.out.below g8
    clear M7 g8
    go_wp2_with fail
    refine (LI.put_full 1 1 w8 (M8.out.holds 4) (by simp) (by simp)).mono ?_
    rintro e w9 ⟨rfl, g9⟩
    have M9 : Hid (Many w _ _ w9) := M8.out.below g9
    clear M8 g9
    go_wp2_with fail
    refine (RI.ring_room w9 (M9.out.holds 1)).mono ?_
    rintro e w10 ⟨rfl, g10⟩
    have M10 : Hid (Many w _ _ w10) := M9.out.below g10
    clear M9 g10
    go_wp2_with fail
    refine (HI.heap_len w10 (M10.out.holds 0)).mono ?_
    rintro e w' ⟨rfl, hw⟩
    subst w'
    go_wp2_with fail
    refine (RI.ring_len w10 (M10.out.holds 1)).mono ?_
    rintro e w' ⟨rfl, hw⟩
    subst w'
    go_wp2_with fail
    refine (BI.len_any w10 (M10.out.holds 3)).mono ?_
    rintro e w' ⟨rfl, hw⟩
    subst w'
    go_wp2_with fail
    refine (LI.len_any (M10.out.holds 4)).mono ?_
    rintro e w' ⟨rfl, hw⟩
    subst w'
    go_wp2_with fail
    refine (SI.ids_any w10 (M10.out.holds 2)).mono ?_
    rintro e w11 ⟨u, rfl, own11, g11⟩
    have M11 : Hid (Many w _ _ w11) := M10.out.below g11
    obtain ⟨na, ncap, rfl⟩ : ∃ a cap, u = .slice a 0 cap := by
      rcases own11.2 with ⟨rfl, _⟩ | ⟨g, cap, cur, rfl, _⟩
      · exact ⟨none, 0, rfl⟩
      · exact ⟨_, _, rfl⟩
    clear M10 g11 own11
    go_wp2
    go_ret
    exact ⟨rfl, M11.out.bel⟩

set_option maxRecDepth 100000 in
theorem lifted (os : Os) (started : os.Started) (H : Type) (enc : TypeId × Value → H) :
    ReturnsInHanded {} Try.checked os 4 .any (Rows.zeroesSpec.pre6 enc Try.prog Try.f4 Rows.zeroesRow.domain false) (Rows.zeroesSpec.post enc Try.prog Try.f4 false true false false) := by
  refine returnsInHanded_of_change (C := Try.checked) own started (by kernel_rfl) Try.func4
    (ChangeSpec.witness6 (enc := enc) (C := Try.checked) false ⟨#[], #[.int .i64 0], []⟩ 8 (by kernel_rfl) (by kernel_rfl) (by kernel_rfl) (by kernel_rfl)) ?_
  intro W base args ds gs before hval0 hW hcnd _
  have hval : ∀ (j : Nat) t v, Try.f4.params[j]? = some t → args[j]? = some v → Value.okWide Try.prog W .any base t v := hval0
  have hW' := hW
  obtain ⟨p, q, hA0, hV, rfl, hfz, hnd⟩ := hW
  have hA : DataW.TrodAll enc Try.prog W 0 (fun _ => true) true Try.f4.params.toList args.toList ds p := hA0
  rw [Try.params4] at hA hval
  obtain ⟨v0, vs0, d0, ds0, p0, q0, hargs, rfl, rfl, h0, r0⟩ := trodAll_cons hA
  obtain ⟨rfl, rfl, rfl⟩ := trodAll_nil r0
  obtain rfl : args = #[v0] := by cases args; simp_all
  obtain ⟨rfl, rfl⟩ := trodVars_none hV
  obtain ⟨a0, rfl, rfl, rfl, w0⟩ := open_int Try.underlying3 (hval 0 3 v0 rfl rfl) h0
  clear hA0 hval0
  refine (walk a0 w0 W).mono fun e W' ⟨he, bel⟩ => ?_
  subst he
  exact ⟨_, rfl, _, _, _, [], _, [], hW', trodAll_mk1 (shut_bool Try.underlying4 _), (trodAll_cons_mk (shut_int Try.underlying3 w0) trodAll_mk0), rfl, bel.frame _, fun h => by cases h⟩

theorem over : Rows.zeroesRow.holds Try.pinned (OpenSpec.ofChange Rows.zeroesSpec) :=
  OpenClaim.holds_of_wide 4 Try.f4 rfl rfl rfl rfl rfl rfl rfl ⟨rfl, rfl, rfl, rfl, rfl⟩ rfl rfl rfl rfl rfl (by kernel_rfl) Try.func4 (by kernel_rfl)
    (of_decide_eq_true (by kernel_rfl)) (by unfold Func.isWrapper; first | (rw [if_pos (by decide +kernel)]; kernel_rfl) | (rw [if_neg (by decide +kernel)]; exact ⟨rfl, rfl⟩))
    (fun os started H enc _ => lifted os started H enc)

theorem proved : Rows.ZeroesSaid :=
  over
end Go.Proofs.Ytkbmpoiokdoclaa.zeroes
