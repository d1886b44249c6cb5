/-
PROVED: for every two int64 a, b the statement hortatorlaw1.TickDown answers true over the landed package tick: rounded down, what is left lies from nought to b; by what is not above nought nothing is divided.
  CONDITIONS: none beside the row's own.
-/
import Derived.ChangeOld
import Derived.Below
import Derived.Test.YtkalbnhhgobheaaRows
import Derived.WalkKit
import Derived.ProofKit
import Derived.OpenShut
import Derived.ShutString
import Derived.Test.YtkalbnhhgobheaaBegun
namespace Go.Proofs.Ytkalbnhhgobheaa.tickDown
open Go.ChangeShapes Go.WideShapes Go.ChangeAt Go.RowKit
open Go.ChangeMaps (open_string shut_string)
set_option linter.unusedVariables false

theorem own : ownKnob Try.prog.godebug = none := by kernel_rfl

set_option maxHeartbeats 4000000 in
theorem walk (a0 : Int) (a1 : Int) (w0 : (Lit.int .i64 a0).wf = true) (w1 : (Lit.int .i64 a1).wf = true) (w : World) :
    Calls Try.prog 9 #[.int .i64 a0, .int .i64 a1] w fun e w' => e = .returned (.bool true) ∧ Below w.heap.size w w' := by
  obtain ⟨p0, p1⟩ := bounds_i64 w0
  obtain ⟨q0, q1⟩ := bounds_i64 w1
  clear w0 w1
  by_cases hb : 0 < a1
  · have e1 : downV a0 a1 = a0 / a1 := if_neg (by omega)
    have db := div_bd (show 1 ≤ a1 by omega) p0 p1
    have em := Int.mul_ediv_add_emod a0 a1
    have r0 := Int.emod_nonneg a0 (show a1 ≠ 0 by omega)
    have r1 := Int.emod_lt_of_pos a0 hb
    have ec : a0 / a1 * a1 = a1 * (a0 / a1) := Int.mul_comm _ _
    by_cases hf : a0 / a1 * a1 < -9223372036854775808
    · have KB : fitB (a0 / a1 * a1) = false := fitB_no (.inl hf)
      clear em ec r0 r1 hf
      go_enter Try.func9, Try.ntmps9
      go_wp2_with (first
        | (go_at_call 10; refine (begun_any _).mono ?_; rintro e w1 ⟨rfl, g1⟩)
        | (go_at_call 17; refine (down_any _ _ _ p0 p1 q1).mono ?_; rintro e w' ⟨rfl, rfl⟩)
        | (go_at_call 12; refine (mul_any _ _ _ db.1 db.2 q0 q1).mono ?_; rintro e w' ⟨rfl, rfl⟩))
      go_ret
      exact ⟨rfl, g1⟩
    · have KB : fitB (a0 / a1 * a1) = true := fitB_yes (by omega) (by omega)
      have KV : fitV (a0 / a1 * a1) = a0 / a1 * a1 := fitV_yes (by omega) (by omega)
      have k1 : 0 ≤ a0 - a0 / a1 * a1 := by omega
      have k2 : a0 - a0 / a1 * a1 < a1 := by omega
      clear em ec r0 r1 hf
      go_enter Try.func9, Try.ntmps9
      go_wp2_with (first
        | (go_at_call 10; refine (begun_any _).mono ?_; rintro e w1 ⟨rfl, g1⟩)
        | (go_at_call 17; refine (down_any _ _ _ p0 p1 q1).mono ?_; rintro e w' ⟨rfl, rfl⟩)
        | (go_at_call 12; refine (mul_any _ _ _ db.1 db.2 q0 q1).mono ?_; rintro e w' ⟨rfl, rfl⟩))
      go_ret
      exact ⟨rfl, g1⟩
  · have u1 : upV a0 a1 = 0 := if_pos (by omega)
    have u2 : downV a0 a1 = 0 := if_pos (by omega)
    have u3 : lessB 1 a1 2 1 = false := by unfold lessB; rw [decide_eq_false (by omega)]; rfl
    have u4 : lessB 1 1 2 a1 = false := by unfold lessB; rw [decide_eq_false (p := 1 ≤ a1) (by omega)]; rfl
    go_enter Try.func9, Try.ntmps9
    go_wp2_with (first
      | (go_at_call 10; refine (begun_any _).mono ?_; rintro e w1 ⟨rfl, g1⟩)
      | (go_at_call 15; refine (up_any _ _ _ p0 p1 q1).mono ?_; rintro e w' ⟨rfl, rfl⟩)
      | (go_at_call 17; refine (down_any _ _ _ p0 p1 q1).mono ?_; rintro e w' ⟨rfl, rfl⟩)
      | (go_at_call 19; refine (less_any _ _ _ _ _ (by omega) (by omega) (by omega) (by omega) (by omega) (by omega)).mono ?_; rintro e w' ⟨rfl, rfl⟩))
    go_ret
    exact ⟨rfl, g1⟩

set_option maxRecDepth 100000 in
theorem lifted (os : Os) (started : os.Started) (H : Type) (enc : TypeId × Value → H) :
    ReturnsInHanded {} Try.checked os 9 .any (Rows.tickDownSpec.pre6 enc Try.prog Try.f9 Rows.tickDownRow.domain false) (Rows.tickDownSpec.post enc Try.prog Try.f9 false true false false) := by
  refine returnsInHanded_of_change (C := Try.checked) own started (by kernel_rfl) Try.func9
    (ChangeSpec.witness6 (enc := enc) (C := Try.checked) false ⟨#[], #[.int .i64 0, .int .i64 0], []⟩ 8 (by kernel_rfl) (by kernel_rfl) (by kernel_rfl) (by kernel_rfl)) ?_
  intro W base args ds gs before hval0 hW hcnd _
  have hval : ∀ (j : Nat) t v, Try.f9.params[j]? = some t → args[j]? = some v → Value.okWide Try.prog W .any base t v := hval0
  have hW' := hW
  obtain ⟨p, q, hA0, hV, rfl, hfz, hnd⟩ := hW
  have hA : DataW.TrodAll enc Try.prog W 0 (fun _ => true) true Try.f9.params.toList args.toList ds p := hA0
  rw [Try.params9] at hA hval
  obtain ⟨v0, vs0, d0, ds0, p0, q0, hargs, rfl, rfl, h0, r0⟩ := trodAll_cons hA
  obtain ⟨v1, vs1, d1, ds1, p1, q1, rfl, rfl, rfl, h1, r1⟩ := trodAll_cons r0
  obtain ⟨rfl, rfl, rfl⟩ := trodAll_nil r1
  obtain rfl : args = #[v0, v1] := by cases args; simp_all
  obtain ⟨rfl, rfl⟩ := trodVars_none hV
  obtain ⟨a0, rfl, rfl, rfl, w0⟩ := open_int Try.underlying2 (hval 0 2 v0 rfl rfl) h0
  obtain ⟨a1, rfl, rfl, rfl, w1⟩ := open_int Try.underlying2 (hval 1 2 v1 rfl rfl) h1
  clear hA0 hval0
  refine (walk a0 a1 w0 w1 W).mono fun e W' ⟨he, bel⟩ => ?_
  subst he
  exact ⟨_, rfl, _, _, _, [], _, [], hW', trodAll_mk1 (shut_bool Try.underlying4 _), (trodAll_cons_mk (shut_int Try.underlying2 w0) (trodAll_cons_mk (shut_int Try.underlying2 w1) trodAll_mk0)), rfl, bel.frame _, fun h => by cases h⟩

theorem over : Rows.tickDownRow.holds Try.pinned (OpenSpec.ofChange Rows.tickDownSpec) :=
  OpenClaim.holds_of_wide 9 Try.f9 rfl rfl rfl rfl rfl rfl rfl ⟨rfl, rfl, rfl, rfl, rfl⟩ rfl rfl rfl rfl rfl (by kernel_rfl) Try.func9 (by kernel_rfl)
    (of_decide_eq_true (by kernel_rfl)) (by unfold Func.isWrapper; first | (rw [if_pos (by decide +kernel)]; kernel_rfl) | (rw [if_neg (by decide +kernel)]; exact ⟨rfl, rfl⟩))
    (fun os started H enc _ => lifted os started H enc)

theorem proved : Rows.TickDownSaid :=
  over
end Go.Proofs.Ytkalbnhhgobheaa.tickDown
