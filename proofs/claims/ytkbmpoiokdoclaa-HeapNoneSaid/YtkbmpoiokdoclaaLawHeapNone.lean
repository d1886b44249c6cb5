/-
PROVED: the statement hortatorlaw2.HeapNone answers true over the landed packages: no heap, no ring, no seats, no box, no line take nothing and have nothing.
  CONDITIONS: none beside the row's own.
-/
import Derived.ChangeOld
import Derived.Below
import Derived.Test.YtkbmpoiokdoclaaRows
import Derived.WalkKit
import Derived.ProofKit
import Derived.OpenShut
import Derived.ShutString
import Derived.Test.YtkbmpoiokdoclaaNil
namespace Go.Proofs.Ytkbmpoiokdoclaa.heapNone
open Go.ChangeShapes Go.WideShapes Go.ChangeAt Go.RowKit
open Go.ChangeMaps (open_string shut_string)
set_option linter.unusedVariables false

theorem own : ownKnob Try.prog.godebug = none := by kernel_rfl

set_option maxHeartbeats 8000000 in
set_option maxRecDepth 100000 in
theorem walk  (w : World) :
    Calls Try.prog 3 #[] w fun e w' => e = .returned (.bool true) ∧ Below w.heap.size w w' := by
  have G : Below w.heap.size w w := Below.refl _ _
  go_enter Try.func3, Try.ntmps3
  go_wp2_with (first | (go_at_call 15; refine (N.hfirst _).mono ?_; rintro e w1 ⟨rfl, g1⟩; replace G := below_step G g1; clear g1) | (go_at_call 16; refine (N.htake _).mono ?_; rintro e w1 ⟨rfl, g1⟩; replace G := below_step G g1; clear g1) | (go_at_call 17; refine (N.hkey _ _).mono ?_; rintro e w1 ⟨rfl, hw⟩; subst w1) | (go_at_call 18; refine (N.rfirst _).mono ?_; rintro e w1 ⟨rfl, g1⟩; replace G := below_step G g1; clear g1) | (go_at_call 19; refine (N.rtake _).mono ?_; rintro e w1 ⟨rfl, g1⟩; replace G := below_step G g1; clear g1) | (go_at_call 20; refine (N.rat _).mono ?_; rintro e w1 ⟨rfl, g1⟩; replace G := below_step G g1; clear g1) | (go_at_call 21; refine (N.sget _ _).mono ?_; rintro e w1 ⟨rfl, g1⟩; replace G := below_step G g1; clear g1) | (go_at_call 22; refine (N.btake _).mono ?_; rintro e w1 ⟨rfl, g1⟩; replace G := below_step G g1; clear g1) | (go_at_call 23; refine (N.beither _).mono ?_; rintro e w1 ⟨rfl, g1⟩; replace G := below_step G g1; clear g1) | (go_at_call 24; refine (N.lnext _).mono ?_; rintro e w1 ⟨rfl, hw⟩; subst w1) | (go_at_call 25; refine (begun2_any _).mono ?_; rintro e w1 ⟨rfl, g1⟩; replace G := below_step G g1; clear g1) | (go_at_call 26; refine (N.hput _ _ _ _).mono ?_; rintro e w1 ⟨rfl, hw⟩; subst w1) | (go_at_call 27; refine (N.hdrop _ _).mono ?_; rintro e w1 ⟨rfl, hw⟩; subst w1) | (go_at_call 28; refine (N.hlen _).mono ?_; rintro e w1 ⟨rfl, hw⟩; subst w1) | (go_at_call 29; refine (N.rput _ _).mono ?_; rintro e w1 ⟨rfl, hw⟩; subst w1) | (go_at_call 30; refine (N.rlen _).mono ?_; rintro e w1 ⟨rfl, hw⟩; subst w1) | (go_at_call 31; refine (N.rroom _).mono ?_; rintro e w1 ⟨rfl, hw⟩; subst w1) | (go_at_call 32; refine (N.sadd _ _).mono ?_; rintro e w1 ⟨rfl, hw⟩; subst w1) | (go_at_call 33; refine (N.sset _ _ _).mono ?_; rintro e w1 ⟨rfl, hw⟩; subst w1) | (go_at_call 34; refine (N.sdrop _ _).mono ?_; rintro e w1 ⟨rfl, hw⟩; subst w1) | (go_at_call 35; refine (N.sids _).mono ?_; rintro e w1 ⟨rfl, hw⟩; subst w1) | (go_at_call 36; refine (N.bput _ _).mono ?_; rintro e w1 ⟨rfl, g1⟩; replace G := below_step G g1; clear g1) | (go_at_call 37; refine (N.blen _).mono ?_; rintro e w1 ⟨rfl, hw⟩; subst w1) | (go_at_call 38; refine (N.lput _ _ _).mono ?_; rintro e w1 ⟨rfl, hw⟩; subst w1) | (go_at_call 39; refine (N.ldue _ _).mono ?_; rintro e w1 ⟨rfl, hw⟩; subst w1) | (go_at_call 40; refine (N.ldrop _ _).mono ?_; rintro e w1 ⟨rfl, hw⟩; subst w1) | (go_at_call 41; refine (N.llen _).mono ?_; rintro e w1 ⟨rfl, hw⟩; subst w1))
  go_ret
  exact ⟨rfl, G⟩

set_option maxRecDepth 100000 in
theorem lifted (os : Os) (started : os.Started) (H : Type) (enc : TypeId × Value → H) :
    ReturnsInHanded {} Try.checked os 3 .any (Rows.heapNoneSpec.pre6 enc Try.prog Try.f3 Rows.heapNoneRow.domain false) (Rows.heapNoneSpec.post enc Try.prog Try.f3 false true false false) := by
  refine returnsInHanded_of_change (C := Try.checked) own started (by kernel_rfl) Try.func3
    (ChangeSpec.witness6 (enc := enc) (C := Try.checked) false ⟨#[], #[], []⟩ 8 (by kernel_rfl) (by kernel_rfl) (by kernel_rfl) (by kernel_rfl)) ?_
  intro W base args ds gs before hval0 hW hcnd _
  have hval : ∀ (j : Nat) t v, Try.f3.params[j]? = some t → args[j]? = some v → Value.okWide Try.prog W .any base t v := hval0
  have hW' := hW
  obtain ⟨p, q, hA0, hV, rfl, hfz, hnd⟩ := hW
  have hA : DataW.TrodAll enc Try.prog W 0 (fun _ => true) true Try.f3.params.toList args.toList ds p := hA0
  rw [Try.params3] at hA hval
  obtain ⟨rfl, rfl, rfl⟩ := trodAll_none hA
  obtain ⟨rfl, rfl⟩ := trodVars_none hV
  clear hA0 hval0
  refine (walk  W).mono fun e W' ⟨he, bel⟩ => ?_
  subst he
  exact ⟨_, rfl, _, _, _, [], _, [], hW', trodAll_mk1 (shut_bool Try.underlying4 _), rfl, rfl, bel.frame _, fun h => by cases h⟩

theorem over : Rows.heapNoneRow.holds Try.pinned (OpenSpec.ofChange Rows.heapNoneSpec) :=
  OpenClaim.holds_of_wide 3 Try.f3 rfl rfl rfl rfl rfl rfl rfl ⟨rfl, rfl, rfl, rfl, rfl⟩ rfl rfl rfl rfl rfl (by kernel_rfl) Try.func3 (by kernel_rfl)
    (of_decide_eq_true (by kernel_rfl)) (by unfold Func.isWrapper; first | (rw [if_pos (by decide +kernel)]; kernel_rfl) | (rw [if_neg (by decide +kernel)]; exact ⟨rfl, rfl⟩))
    (fun os started H enc _ => lifted os started H enc)

theorem proved : Rows.HeapNoneSaid :=
  over
end Go.Proofs.Ytkbmpoiokdoclaa.heapNone
