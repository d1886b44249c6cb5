/-
PROVED: for every int64 and either end of all whole numbers the statement hortatorlaw1.TickEdges answers true over the landed package tick: sums, products, the whole sum and the order are the reference's there.
  CONDITIONS: none beside the row's own.
-/
import Derived.ChangeOld
import Derived.Below
import Derived.Test.YtkalbnhhgobheaaRows
import Derived.WalkKit
import Derived.ProofKit
import Derived.OpenShut
import Derived.ShutString
import Derived.Test.YtkalbnhhgobheaaBegun
import Derived.Test.YtkalbnhhgobheaaRefLess
import Derived.Test.YtkalbnhhgobheaaRefFour
import Derived.Test.YtkalbnhhgobheaaMath2
namespace Go.Proofs.Ytkalbnhhgobheaa.tickEdges
open Go.ChangeShapes Go.WideShapes Go.ChangeAt Go.RowKit
open Go.ChangeMaps (open_string shut_string)
set_option linter.unusedVariables false

theorem own : ownKnob Try.prog.godebug = none := by kernel_rfl

set_option maxHeartbeats 4000000 in
theorem walk (a0 : Int) (a1 : Bool) (w0 : (Lit.int .i64 a0).wf = true) (w : World) :
    Calls Try.prog 8 #[.int .i64 a0, .bool a1] w fun e w' => e = .returned (.bool true) ∧ Below w.heap.size w w' := by
  obtain ⟨p0, p1⟩ := bounds_i64 w0
  clear w0
  obtain ⟨z, hz, z0, z1⟩ : ∃ z, bits .and .i64 (wrap64 (-a0)) 4611686018427387903 = z ∧ 0 ≤ z ∧ z ≤ 4611686018427387903 := ⟨_, rfl, by rw [and_mask62]; omega, by rw [and_mask62]; omega⟩
  obtain ⟨y, hy, y0, y1⟩ : ∃ y, bits .and .i64 (-a0) 4611686018427387903 = y ∧ 0 ≤ y ∧ y ≤ 4611686018427387903 := ⟨_, rfl, by rw [and_mask62]; omega, by rw [and_mask62]; omega⟩
  cases a1
  · have l1 : lessB 9223372036854775807 1 a0 1 = false := by unfold lessB; rw [decide_eq_false (p := 9223372036854775807 * 1 < a0 * 1) (by omega)]; rfl
    by_cases ha : a0 < 9223372036854775807
    · have l2 : lessB a0 1 9223372036854775807 1 = true := (less_iff (by omega) (by omega)).2 (by omega)
      have d1 : decide (9223372036854775807 < a0) = false := decide_eq_false (by omega)
      have d2 : decide (a0 < 9223372036854775807) = true := decide_eq_true (by omega)
      go_enter Try.func8, Try.ntmps8
      go_wp2_with (first
        | (go_at_call 10; refine (begun_any _).mono ?_; rintro e w1 ⟨rfl, g1⟩)
        | (go_at_call 11; refine (add_any _ _ _ (by omega) (by omega) p0 p1).mono ?_; rintro e w' ⟨rfl, rfl⟩)
        | (go_at_call 12; refine (mul_any _ _ _ (by omega) (by omega) p0 p1).mono ?_; rintro e w' ⟨rfl, rfl⟩)
        | (go_at_call 13; refine (ref_add_any _ _ _ (by omega) (by omega) p0 p1).mono ?_; rintro e w2 ⟨rfl, g2⟩)
        | (go_at_call 14; refine (ref_mul_any _ _ _ (by omega) (by omega) p0 p1).mono ?_; rintro e w3 ⟨rfl, g3⟩)
        | (go_at_call 21; refine (sum_four _ _ _ _ _ (by omega) (by omega) p0 p1 (by omega) (by omega) p0 p1).mono ?_; rintro e w' ⟨rfl, rfl⟩)
        | (go_at_call 22; refine (ref_sum_four _ _ _ _ _ _ (by omega) (by omega) p0 p1 (by omega) (by omega) p0 p1 (by simp)).mono ?_; rintro e w4 ⟨rfl, g4⟩)
        | (go_at_call 19; refine (less_any _ _ _ _ _ (by omega) (by omega) (by omega) (by omega) (by omega) (by omega)).mono ?_; rintro e w' ⟨rfl, rfl⟩))
      go_ret
      exact ⟨rfl, edges_end g1 g2 g3 g4⟩
    · have l2 : lessB a0 1 9223372036854775807 1 = false := by unfold lessB; rw [decide_eq_false (p := a0 * 1 < 9223372036854775807 * 1) (by omega)]; rfl
      have d1 : decide (9223372036854775807 < a0) = false := decide_eq_false (by omega)
      have d2 : decide (a0 < 9223372036854775807) = false := decide_eq_false (by omega)
      go_enter Try.func8, Try.ntmps8
      go_wp2_with (first
        | (go_at_call 10; refine (begun_any _).mono ?_; rintro e w1 ⟨rfl, g1⟩)
        | (go_at_call 11; refine (add_any _ _ _ (by omega) (by omega) p0 p1).mono ?_; rintro e w' ⟨rfl, rfl⟩)
        | (go_at_call 12; refine (mul_any _ _ _ (by omega) (by omega) p0 p1).mono ?_; rintro e w' ⟨rfl, rfl⟩)
        | (go_at_call 13; refine (ref_add_any _ _ _ (by omega) (by omega) p0 p1).mono ?_; rintro e w2 ⟨rfl, g2⟩)
        | (go_at_call 14; refine (ref_mul_any _ _ _ (by omega) (by omega) p0 p1).mono ?_; rintro e w3 ⟨rfl, g3⟩)
        | (go_at_call 21; refine (sum_four _ _ _ _ _ (by omega) (by omega) p0 p1 (by omega) (by omega) p0 p1).mono ?_; rintro e w' ⟨rfl, rfl⟩)
        | (go_at_call 22; refine (ref_sum_four _ _ _ _ _ _ (by omega) (by omega) p0 p1 (by omega) (by omega) p0 p1 (by simp)).mono ?_; rintro e w4 ⟨rfl, g4⟩)
        | (go_at_call 19; refine (less_any _ _ _ _ _ (by omega) (by omega) (by omega) (by omega) (by omega) (by omega)).mono ?_; rintro e w' ⟨rfl, rfl⟩))
      go_ret
      exact ⟨rfl, edges_end g1 g2 g3 g4⟩
  · have l1 : lessB a0 1 (-9223372036854775808) 1 = false := by unfold lessB; rw [decide_eq_false (p := a0 * 1 < -9223372036854775808 * 1) (by omega)]; rfl
    by_cases ha : -9223372036854775808 < a0
    · have l2 : lessB (-9223372036854775808) 1 a0 1 = true := (less_iff (by omega) (by omega)).2 (by omega)
      have d1 : decide (a0 < -9223372036854775808) = false := decide_eq_false (by omega)
      have d2 : decide (-9223372036854775808 < a0) = true := decide_eq_true (by omega)
      go_enter Try.func8, Try.ntmps8
      go_wp2_with (first
        | (go_at_call 10; refine (begun_any _).mono ?_; rintro e w1 ⟨rfl, g1⟩)
        | (go_at_call 11; refine (add_any _ _ _ (by omega) (by omega) p0 p1).mono ?_; rintro e w' ⟨rfl, rfl⟩)
        | (go_at_call 12; refine (mul_any _ _ _ (by omega) (by omega) p0 p1).mono ?_; rintro e w' ⟨rfl, rfl⟩)
        | (go_at_call 13; refine (ref_add_any _ _ _ (by omega) (by omega) p0 p1).mono ?_; rintro e w2 ⟨rfl, g2⟩)
        | (go_at_call 14; refine (ref_mul_any _ _ _ (by omega) (by omega) p0 p1).mono ?_; rintro e w3 ⟨rfl, g3⟩)
        | (go_at_call 21; refine (sum_four _ _ _ _ _ (by omega) (by omega) p0 p1 (by omega) (by omega) p0 p1).mono ?_; rintro e w' ⟨rfl, rfl⟩)
        | (go_at_call 22; refine (ref_sum_four _ _ _ _ _ _ (by omega) (by omega) p0 p1 (by omega) (by omega) p0 p1 (by simp)).mono ?_; rintro e w4 ⟨rfl, g4⟩)
        | (go_at_call 19; refine (less_any _ _ _ _ _ (by omega) (by omega) (by omega) (by omega) (by omega) (by omega)).mono ?_; rintro e w' ⟨rfl, rfl⟩))
      go_ret
      exact ⟨rfl, edges_end g1 g2 g3 g4⟩
    · have l2 : lessB (-9223372036854775808) 1 a0 1 = false := by unfold lessB; rw [decide_eq_false (p := -9223372036854775808 * 1 < a0 * 1) (by omega)]; rfl
      have d1 : decide (a0 < -9223372036854775808) = false := decide_eq_false (by omega)
      have d2 : decide (-9223372036854775808 < a0) = false := decide_eq_false (by omega)
      go_enter Try.func8, Try.ntmps8
      go_wp2_with (first
        | (go_at_call 10; refine (begun_any _).mono ?_; rintro e w1 ⟨rfl, g1⟩)
        | (go_at_call 11; refine (add_any _ _ _ (by omega) (by omega) p0 p1).mono ?_; rintro e w' ⟨rfl, rfl⟩)
        | (go_at_call 12; refine (mul_any _ _ _ (by omega) (by omega) p0 p1).mono ?_; rintro e w' ⟨rfl, rfl⟩)
        | (go_at_call 13; refine (ref_add_any _ _ _ (by omega) (by omega) p0 p1).mono ?_; rintro e w2 ⟨rfl, g2⟩)
        | (go_at_call 14; refine (ref_mul_any _ _ _ (by omega) (by omega) p0 p1).mono ?_; rintro e w3 ⟨rfl, g3⟩)
        | (go_at_call 21; refine (sum_four _ _ _ _ _ (by omega) (by omega) p0 p1 (by omega) (by omega) p0 p1).mono ?_; rintro e w' ⟨rfl, rfl⟩)
        | (go_at_call 22; refine (ref_sum_four _ _ _ _ _ _ (by omega) (by omega) p0 p1 (by omega) (by omega) p0 p1 (by simp)).mono ?_; rintro e w4 ⟨rfl, g4⟩)
        | (go_at_call 19; refine (less_any _ _ _ _ _ (by omega) (by omega) (by omega) (by omega) (by omega) (by omega)).mono ?_; rintro e w' ⟨rfl, rfl⟩))
      go_ret
      exact ⟨rfl, edges_end g1 g2 g3 g4⟩

set_option maxRecDepth 100000 in
theorem lifted (os : Os) (started : os.Started) (H : Type) (enc : TypeId × Value → H) :
    ReturnsInHanded {} Try.checked os 8 .any (Rows.tickEdgesSpec.pre6 enc Try.prog Try.f8 Rows.tickEdgesRow.domain false) (Rows.tickEdgesSpec.post enc Try.prog Try.f8 false true false false) := by
  refine returnsInHanded_of_change (C := Try.checked) own started (by kernel_rfl) Try.func8
    (ChangeSpec.witness6 (enc := enc) (C := Try.checked) false ⟨#[], #[.int .i64 0, .bool false], []⟩ 8 (by kernel_rfl) (by kernel_rfl) (by kernel_rfl) (by kernel_rfl)) ?_
  intro W base args ds gs before hval0 hW hcnd _
  have hval : ∀ (j : Nat) t v, Try.f8.params[j]? = some t → args[j]? = some v → Value.okWide Try.prog W .any base t v := hval0
  have hW' := hW
  obtain ⟨p, q, hA0, hV, rfl, hfz, hnd⟩ := hW
  have hA : DataW.TrodAll enc Try.prog W 0 (fun _ => true) true Try.f8.params.toList args.toList ds p := hA0
  rw [Try.params8] at hA hval
  obtain ⟨v0, vs0, d0, ds0, p0, q0, hargs, rfl, rfl, h0, r0⟩ := trodAll_cons hA
  obtain ⟨v1, vs1, d1, ds1, p1, q1, rfl, rfl, rfl, h1, r1⟩ := trodAll_cons r0
  obtain ⟨rfl, rfl, rfl⟩ := trodAll_nil r1
  obtain rfl : args = #[v0, v1] := by cases args; simp_all
  obtain ⟨rfl, rfl⟩ := trodVars_none hV
  obtain ⟨a0, rfl, rfl, rfl, w0⟩ := open_int Try.underlying2 (hval 0 2 v0 rfl rfl) h0
  obtain ⟨a1, rfl, rfl, rfl⟩ := open_bool Try.underlying4 (hval 1 4 v1 rfl rfl) h1
  clear hA0 hval0
  refine (walk a0 a1 w0 W).mono fun e W' ⟨he, bel⟩ => ?_
  subst he
  exact ⟨_, rfl, _, _, _, [], _, [], hW', trodAll_mk1 (shut_bool Try.underlying4 _), (trodAll_cons_mk (shut_int Try.underlying2 w0) (trodAll_cons_mk (shut_bool Try.underlying4 _) trodAll_mk0)), rfl, bel.frame _, fun h => by cases h⟩

theorem over : Rows.tickEdgesRow.holds Try.pinned (OpenSpec.ofChange Rows.tickEdgesSpec) :=
  OpenClaim.holds_of_wide 8 Try.f8 rfl rfl rfl rfl rfl rfl rfl ⟨rfl, rfl, rfl, rfl, rfl⟩ rfl rfl rfl rfl rfl (by kernel_rfl) Try.func8 (by kernel_rfl)
    (of_decide_eq_true (by kernel_rfl)) (by unfold Func.isWrapper; first | (rw [if_pos (by decide +kernel)]; kernel_rfl) | (rw [if_neg (by decide +kernel)]; exact ⟨rfl, rfl⟩))
    (fun os started H enc _ => lifted os started H enc)

theorem proved : Rows.TickEdgesSaid :=
  over
end Go.Proofs.Ytkalbnhhgobheaa.tickEdges
