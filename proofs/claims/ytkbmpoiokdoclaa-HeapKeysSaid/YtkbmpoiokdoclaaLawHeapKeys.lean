/-
PROVED: the statement hortatorlaw2.HeapKeys answers true over the landed packages.
  CONDITIONS: none beside the row's own.
-/
import Derived.ChangeOld
import Derived.Below
import Derived.Test.YtkbmpoiokdoclaaRows
import Derived.WalkKit
import Derived.ProofKit
import Derived.OpenShut
import Derived.ShutString
import Derived.Test.YtkbmpoiokdoclaaStable
namespace Go.Proofs.Ytkbmpoiokdoclaa.heapKeys
open Go.ChangeShapes Go.WideShapes Go.ChangeAt Go.RowKit
open Go.ChangeMaps (open_string shut_string)
set_option linter.unusedVariables false

theorem own : ownKnob Try.prog.godebug = none := by kernel_rfl

set_option maxHeartbeats 8000000 in
set_option maxRecDepth 100000 in
theorem walk (a0 : Int) (a1 : Int) (a2 : Int) (w0 : (Lit.int .i64 a0).wf = true) (w1 : (Lit.int .i64 a1).wf = true) (w2 : (Lit.int .i64 a2).wf = true) (w : World) :
    Calls Try.prog 5 #[.int .i64 a0, .int .i64 a1, .int .i64 a2] w fun e w' => e = .returned (.bool true) ∧ Below w.heap.size w w' := by
  have first : ∀ x : Ent Int, IsFirst [(⟨2, a1, 0, 2⟩ : Ent Int), ⟨1, a2, 0, 3⟩] x → (a2 < a1 → x.v = 1) ∧ (¬ a2 < a1 → x.v = 2) := by
    intro x hx
    have hm := hx.1
    simp at hm
    have h1 := hx.2 ⟨2, a1, 0, 2⟩ (by simp)
    have h2 := hx.2 ⟨1, a2, 0, 3⟩ (by simp)
    unfold Le Lt at h1 h2
    rcases hm with rfl | rfl <;> simp at h1 h2 ⊢ <;> omega
  have FI : Hid (∀ x : Ent Int, IsFirst [(⟨2, a1, 0, 2⟩ : Ent Int), ⟨1, a2, 0, 3⟩] x → (a2 < a1 → x.v = 1) ∧ (¬ a2 < a1 → x.v = 2)) := first
  clear first
  by_cases hcb : a2 < a1
  all_goals
    go_enter Try.func5, Try.ntmps5
    go_wp2_with fail
    refine (begun2_any _).mono ?_
    rintro e W ⟨rfl, g0⟩
    have m0 := (Many.start w).below g0
    have M0 : Hid (Many w _ _ W) := m0
    clear g0 m0
    go_wp2_with fail
    refine (HI.new_any 3 W (by omega) (by omega)).mono ?_
    rintro e w1 ⟨rfl, h1, g1⟩
    have M1 : Hid (Many w _ _ w1) := M0.out.add 0 (f := foot W.heap.size (.slice none 0 0)) (p := fun w' => HI.Heaps w' W.heap.size 3 0 (.slice none 0 0) []) g1 h1 h1.foot_lt h1.foot_ge HI.stable
    clear M0 g1 h1
    go_wp2_with fail
    refine (HI.put_new 1 a0 0 w1 (M1.out.holds 0) trivial (by simp) (by simp) (by omega) (by omega)).mono ?_
    rintro e w2 ⟨v2, rfl, h2, o2, f2⟩
    have M2 : Hid (Many w _ _ w2) := M1.out.turn 0 (f := foot W.heap.size v2) (p := fun w' => HI.Heaps w' W.heap.size 3 1 v2 [⟨1, a0, 0, 1⟩]) o2 h2 h2.foot_lt f2 HI.stable
    clear M1 h2 o2 f2
    go_wp2_with fail
    refine (HI.put_new 2 a1 0 w2 (M2.out.holds 0) trivial (by simp) (by simp) (by omega) (by omega)).mono ?_
    rintro e w3 ⟨v3, rfl, h3, o3, f3⟩
    have M3 : Hid (Many w _ _ w3) := M2.out.turn 0 (f := foot W.heap.size v3) (p := fun w' => HI.Heaps w' W.heap.size 3 2 v3 [⟨1, a0, 0, 1⟩, ⟨2, a1, 0, 2⟩]) o3 h3 h3.foot_lt f3 HI.stable
    clear M2 h3 o3 f3
    go_wp2_with fail
    refine (HI.put_there 1 a2 0 w3 (M3.out.holds 0) (F := []) trivial (by simp) (by omega) (by omega)).mono ?_
    rintro e w4 ⟨rfl, h4, o4⟩
    have M4 : Hid (Many w _ _ w4) := M3.out.turn 0 (f := foot W.heap.size v3) (p := fun w' => HI.Heaps w' W.heap.size 3 3 v3 [⟨2, a1, 0, 2⟩, ⟨1, a2, 0, 3⟩]) o4 h4 h4.foot_lt (fun k hk => .inl hk) HI.stable
    clear M3 h4 o4
    go_wp2_with fail
    refine (HI.key_some ⟨1, a2, 0, 3⟩ w4 (M4.out.holds 0) (F := []) trivial (by simp)).mono ?_
    rintro e w5 ⟨rfl, g5⟩
    have M5 : Hid (Many w _ _ w5) := M4.out.below g5
    clear M4 g5
    go_wp2_with fail
    refine (HI.take_some w5 (M5.out.holds 0) (by simp)).mono ?_
    rintro e w6 ⟨x, v6, hx, rfl, h6, f6, o6⟩
    first
    | (have hx1 : x.v = 1 := (FI.out x hx).1 hcb
       rw [hx1] at h6
       have M6 : Hid (Many w _ _ w6) := M5.out.turn 0 (f := foot W.heap.size v6) (p := fun w' => HI.Heaps w' W.heap.size 3 3 v6 [⟨2, a1, 0, 2⟩]) o6 (by simpa [less] using h6) h6.foot_lt (by rw [f6]; exact fun k hk => .inl hk) HI.stable
       have mk1 : mkI x.v = .int .i64 1 := by rw [hx1]; rfl
       have mk2 : mkI 2 = .int .i64 2 := rfl)
    | (have hx1 : x.v = 2 := (FI.out x hx).2 hcb
       rw [hx1] at h6
       have M6 : Hid (Many w _ _ w6) := M5.out.turn 0 (f := foot W.heap.size v6) (p := fun w' => HI.Heaps w' W.heap.size 3 3 v6 [⟨1, a2, 0, 3⟩]) o6 (by simpa [less] using h6) h6.foot_lt (by rw [f6]; exact fun k hk => .inl hk) HI.stable
       have mk1 : mkI x.v = .int .i64 2 := by rw [hx1]; rfl
       have mk2 : mkI 1 = .int .i64 1 := rfl)
    clear M5 hx h6 f6 o6 hx1
    go_wp2_with fail
    refine (HI.take_some w6 (M6.out.holds 0) (by simp)).mono ?_
    rintro e w7 ⟨y, v7, hy, rfl, h7, f7, o7⟩
    obtain rfl := List.mem_singleton.1 hy.1
    have M7 : Hid (Many w _ _ w7) := M6.out.turn 0 (f := foot W.heap.size v7) (p := fun w' => HI.Heaps w' W.heap.size 3 3 v7 []) o7 (by simpa [less] using h7) h7.foot_lt (by rw [f7]; exact fun k hk => .inl hk) HI.stable
    clear M6 hy h7 f7 o7
    go_wp2_with fail
    refine (HI.heap_len w7 (M7.out.holds 0)).mono ?_
    rintro e w' ⟨rfl, hw⟩
    subst w'
    go_wp2
    go_ret
    exact ⟨rfl, M7.out.bel⟩

set_option maxRecDepth 100000 in
theorem lifted (os : Os) (started : os.Started) (H : Type) (enc : TypeId × Value → H) :
    ReturnsInHanded {} Try.checked os 5 .any (Rows.heapKeysSpec.pre6 enc Try.prog Try.f5 Rows.heapKeysRow.domain false) (Rows.heapKeysSpec.post enc Try.prog Try.f5 false true false false) := by
  refine returnsInHanded_of_change (C := Try.checked) own started (by kernel_rfl) Try.func5
    (ChangeSpec.witness6 (enc := enc) (C := Try.checked) false ⟨#[], #[.int .i64 0, .int .i64 0, .int .i64 0], []⟩ 8 (by kernel_rfl) (by kernel_rfl) (by kernel_rfl) (by kernel_rfl)) ?_
  intro W base args ds gs before hval0 hW hcnd _
  have hval : ∀ (j : Nat) t v, Try.f5.params[j]? = some t → args[j]? = some v → Value.okWide Try.prog W .any base t v := hval0
  have hW' := hW
  obtain ⟨p, q, hA0, hV, rfl, hfz, hnd⟩ := hW
  have hA : DataW.TrodAll enc Try.prog W 0 (fun _ => true) true Try.f5.params.toList args.toList ds p := hA0
  rw [Try.params5] at hA hval
  obtain ⟨v0, vs0, d0, ds0, p0, q0, hargs, rfl, rfl, h0, r0⟩ := trodAll_cons hA
  obtain ⟨v1, vs1, d1, ds1, p1, q1, rfl, rfl, rfl, h1, r1⟩ := trodAll_cons r0
  obtain ⟨v2, vs2, d2, ds2, p2, q2, rfl, rfl, rfl, h2, r2⟩ := trodAll_cons r1
  obtain ⟨rfl, rfl, rfl⟩ := trodAll_nil r2
  obtain rfl : args = #[v0, v1, v2] := by cases args; simp_all
  obtain ⟨rfl, rfl⟩ := trodVars_none hV
  obtain ⟨a0, rfl, rfl, rfl, w0⟩ := open_int Try.underlying2 (hval 0 2 v0 rfl rfl) h0
  obtain ⟨a1, rfl, rfl, rfl, w1⟩ := open_int Try.underlying2 (hval 1 2 v1 rfl rfl) h1
  obtain ⟨a2, rfl, rfl, rfl, w2⟩ := open_int Try.underlying2 (hval 2 2 v2 rfl rfl) h2
  clear hA0 hval0
  refine (walk a0 a1 a2 w0 w1 w2 W).mono fun e W' ⟨he, bel⟩ => ?_
  subst he
  exact ⟨_, rfl, _, _, _, [], _, [], hW', trodAll_mk1 (shut_bool Try.underlying4 _), (trodAll_cons_mk (shut_int Try.underlying2 w0) (trodAll_cons_mk (shut_int Try.underlying2 w1) (trodAll_cons_mk (shut_int Try.underlying2 w2) trodAll_mk0))), rfl, bel.frame _, fun h => by cases h⟩

theorem over : Rows.heapKeysRow.holds Try.pinned (OpenSpec.ofChange Rows.heapKeysSpec) :=
  OpenClaim.holds_of_wide 5 Try.f5 rfl rfl rfl rfl rfl rfl rfl ⟨rfl, rfl, rfl, rfl, rfl⟩ rfl rfl rfl rfl rfl (by kernel_rfl) Try.func5 (by kernel_rfl)
    (of_decide_eq_true (by kernel_rfl)) (by unfold Func.isWrapper; first | (rw [if_pos (by decide +kernel)]; kernel_rfl) | (rw [if_neg (by decide +kernel)]; exact ⟨rfl, rfl⟩))
    (fun os started H enc _ => lifted os started H enc)

theorem proved : Rows.HeapKeysSaid :=
  over
end Go.Proofs.Ytkbmpoiokdoclaa.heapKeys
