/-
PROVED: for every list of int64 the statement hortatorlaw1.TickSum answers true over the landed package tick: of its first thirty times the whole sum is the reference's, whatever runs over in between, and the list reads as it did.
  CONDITIONS: none beside the row's own.
-/
import Derived.Test.YtkalbnhhgobheaaRows
import Derived.WalkKit
import Derived.ProofKit
import Derived.OpenShut
import Derived.ShutString
import Derived.ChangeOld
import Derived.Below
import Derived.Test.YtkalbnhhgobheaaRow
namespace Go.Proofs.Ytkalbnhhgobheaa.tickSum
open Go.ChangeShapes Go.WideShapes Go.ChangeAt Go.RowKit
open Go.ChangeMaps (open_string shut_string)
set_option linter.unusedVariables false

theorem own : ownKnob Try.prog.godebug = none := by kernel_rfl
theorem laidOut : laidOutB Try.prog = true := by kernel_rfl

def IsRow (k : IntKind) (w : World) (a : Option Addr) (len cap : Nat) (zs : List Int) : Prop :=
  (a = none ∧ len = 0 ∧ cap = 0 ∧ zs = []) ∨
  ∃ x, a = some x ∧ len ≤ cap ∧ cap ≤ maxLen ∧ zs.length = cap ∧ (∀ i, i < zs.length → w.cell? (x.add i) = some (.int k (zs.getD i 0))) ∧ ∀ n ∈ zs, (Lit.int k n).wf = true

set_option maxHeartbeats 4000000 in
theorem walk (a0 : Option Addr) (len0 cap0 : Nat) (z0 : List Int) (w : World) (w0 : IsRow .i64 w a0 len0 cap0 z0) :
    Calls Try.prog 4 #[.slice a0 len0 cap0] w fun e w' => e = .returned (.bool true) ∧ Below w.heap.size w w' := by
  rcases w0 with ⟨rfl, rfl, rfl, rfl⟩ | ⟨x, rfl, hl, hm, hz, hcell, hwz⟩
  · have R : RowAt w none [] := .inl rfl
    have A : AllIn [] := allIn_nil
    have HL : ([] : List Int).length = 0 := rfl
    have B : ([] : List Int).length ≤ 1000 := by simp
    have s1 : ∀ (cap : Nat) (w : World), RowAt w none [] → Calls Try.prog 21 #[.slice none 0 cap] w fun e w' => e = .returned (.tuple #[.int .i64 (fitV (sumL [])), .bool (fitB (sumL []))]) ∧ w' = w := fun cap w h => HL ▸ sum_any none cap [] w h A B
    have s2 : ∀ (cap : Nat) (w : World), RowAt w none [] → Calls Try.prog 22 #[.slice none 0 cap] w fun e w' => e = .returned (.tuple #[.int .i64 (fitV (sumL [])), .bool (fitB (sumL []))]) ∧ Below w.heap.size w w' := fun cap w h => HL ▸ ref_sum_any none cap [] w h A B
    clear HL A B
    go_enter Try.func4, Try.ntmps4
    go_wp2_with (first
      | (go_at_call 10; refine (begun_any _).mono ?_; rintro e w1 ⟨rfl, g1⟩)
      | (go_at_call 21; refine (s1 _ _ (R.below g1)).mono ?_; rintro e w' ⟨rfl, rfl⟩)
      | (go_at_call 22; refine (s2 _ _ (R.below g1)).mono ?_; rintro e w2 ⟨rfl, g2⟩))
    go_ret
    exact ⟨rfl, below_step g1 g2⟩
  · unfold maxLen at hm
    by_cases h30 : len0 ≤ 30
    · have R := row_of hcell len0 (by omega)
      have A := allIn_of hwz len0
      have HL : (z0.take len0).length = len0 := by rw [List.length_take]; omega
      have B : (z0.take len0).length ≤ 1000 := by omega
      clear hcell hwz hz
      generalize z0.take len0 = zs at *
      have s1 : ∀ (cap : Nat) (w : World), RowAt w (some x) zs → Calls Try.prog 21 #[.slice (some x) len0 cap] w fun e w' => e = .returned (.tuple #[.int .i64 (fitV (sumL zs)), .bool (fitB (sumL zs))]) ∧ w' = w := fun cap w h => HL ▸ sum_any (some x) cap zs w h A B
      have s2 : ∀ (cap : Nat) (w : World), RowAt w (some x) zs → Calls Try.prog 22 #[.slice (some x) len0 cap] w fun e w' => e = .returned (.tuple #[.int .i64 (fitV (sumL zs)), .bool (fitB (sumL zs))]) ∧ Below w.heap.size w w' := fun cap w h => HL ▸ ref_sum_any (some x) cap zs w h A B
      clear HL A B
      go_enter Try.func4, Try.ntmps4
      go_wp2_with (first
        | (go_at_call 10; refine (begun_any _).mono ?_; rintro e w1 ⟨rfl, g1⟩)
        | (go_at_call 21; refine (s1 _ _ (R.below g1)).mono ?_; rintro e w' ⟨rfl, rfl⟩)
        | (go_at_call 22; refine (s2 _ _ (R.below g1)).mono ?_; rintro e w2 ⟨rfl, g2⟩))
      go_ret
      exact ⟨rfl, below_step g1 g2⟩
    · have R := row_of hcell 30 (by omega)
      have A := allIn_of hwz 30
      have HL : (z0.take 30).length = 30 := by rw [List.length_take]; omega
      have B : (z0.take 30).length ≤ 1000 := by omega
      clear hcell hwz hz
      generalize z0.take 30 = zs at *
      have s1 : ∀ (cap : Nat) (w : World), RowAt w (some x) zs → Calls Try.prog 21 #[.slice (some x) 30 cap] w fun e w' => e = .returned (.tuple #[.int .i64 (fitV (sumL zs)), .bool (fitB (sumL zs))]) ∧ w' = w := fun cap w h => HL ▸ sum_any (some x) cap zs w h A B
      have s2 : ∀ (cap : Nat) (w : World), RowAt w (some x) zs → Calls Try.prog 22 #[.slice (some x) 30 cap] w fun e w' => e = .returned (.tuple #[.int .i64 (fitV (sumL zs)), .bool (fitB (sumL zs))]) ∧ Below w.heap.size w w' := fun cap w h => HL ▸ ref_sum_any (some x) cap zs w h A B
      clear HL A B
      go_enter Try.func4, Try.ntmps4
      go_wp2_with (first
        | (go_at_call 10; refine (begun_any _).mono ?_; rintro e w1 ⟨rfl, g1⟩)
        | (go_at_call 21; refine (s1 _ _ (R.below g1)).mono ?_; rintro e w' ⟨rfl, rfl⟩)
        | (go_at_call 22; refine (s2 _ _ (R.below g1)).mono ?_; rintro e w2 ⟨rfl, g2⟩))
      go_ret
      exact ⟨rfl, below_step g1 g2⟩

set_option maxRecDepth 100000 in
theorem lifted (os : Os) (started : os.Started) (H : Type) (enc : TypeId × Value → H) :
    ReturnsInHanded {} Try.checked os 4 .any (Rows.tickSumSpec.pre6 enc Try.prog Try.f4 Rows.tickSumRow.domain false) (Rows.tickSumSpec.post enc Try.prog Try.f4 false true false false) := by
  refine returnsInHanded_of_change (C := Try.checked) own started (by kernel_rfl) Try.func4
    (ChangeSpec.witness6 (enc := enc) (C := Try.checked) false ⟨#[], #[.slice none 0 0], []⟩ 8 (by kernel_rfl) (by kernel_rfl) (by kernel_rfl) (by kernel_rfl)) ?_
  intro W base args ds gs before hval0 hW hcnd _
  have hval : ∀ (j : Nat) t v, Try.f4.params[j]? = some t → args[j]? = some v → Value.okWide Try.prog W .any base t v := hval0
  have hW' := hW
  obtain ⟨p, q, hA0, hV, rfl, hfz, hnd⟩ := hW
  have hA : DataW.TrodAll enc Try.prog W 0 (fun _ => true) true Try.f4.params.toList args.toList ds p := hA0
  rw [Try.params4] at hA hval
  obtain ⟨v0, vs0, d0, ds0, p0, q0, hargs, rfl, rfl, h0, r0⟩ := trodAll_cons hA
  obtain ⟨rfl, rfl, rfl⟩ := trodAll_nil r0
  obtain rfl : args = #[v0] := by cases args; simp_all
  obtain ⟨rfl, rfl⟩ := trodVars_none hV
  obtain ⟨a0, len0, cap0, rfl⟩ := okWide_slice Try.underlying27 (hval 0 27 v0 rfl rfl)
  have k0 := h0
  have lt0 : ∀ x ∈ p0, x.block < W.heap.size := by obtain ⟨m, hm⟩ := k0; exact DataW.trod_lt m _ _ _ hm
  obtain ⟨z0, w0⟩ : ∃ zs, IsRow .i64 W a0 len0 cap0 zs := by
    obtain ⟨fuel, hf⟩ := h0
    rcases open_ints Try.underlying27 Try.underlying2 (by kernel_rfl) hf with ⟨hcs, _⟩ | ⟨x, l, c, zs, hcs, _, hl, hm, hz, _, hcell, hwz⟩
    · simp [Value.cells] at hcs
      obtain ⟨rfl, rfl, rfl⟩ := hcs
      exact ⟨[], .inl ⟨rfl, rfl, rfl, rfl⟩⟩
    · simp [Value.cells] at hcs
      obtain ⟨rfl, rfl, rfl⟩ := hcs
      exact ⟨zs, .inr ⟨_, rfl, hl, hm, by simpa using hz, hcell, hwz⟩⟩
  clear hA0 hval0
  refine (walk a0 len0 cap0 z0 W w0).mono fun e W' ⟨he, bel⟩ => ?_
  subst he
  exact ⟨_, rfl, _, _, _, [], _, [], hW', trodAll_mk1 (shut_bool Try.underlying4 _), (trodAll_cons_mk (Below.trod laidOut (by kernel_rfl) (of_decide_eq_true (by kernel_rfl)) k0 bel lt0) trodAll_mk0), rfl, bel.frame _, fun h => by cases h⟩

theorem over : Rows.tickSumRow.holds Try.pinned (OpenSpec.ofChange Rows.tickSumSpec) :=
  OpenClaim.holds_of_wide 4 Try.f4 rfl rfl rfl rfl rfl rfl rfl ⟨rfl, rfl, rfl, rfl, rfl⟩ rfl rfl rfl rfl rfl (by kernel_rfl) Try.func4 (by kernel_rfl)
    (of_decide_eq_true (by kernel_rfl)) (by unfold Func.isWrapper; first | (rw [if_pos (by decide +kernel)]; kernel_rfl) | (rw [if_neg (by decide +kernel)]; exact ⟨rfl, rfl⟩))
    (fun os started H enc _ => lifted os started H enc)

theorem proved : Rows.TickSumSaid := over
end Go.Proofs.Ytkalbnhhgobheaa.tickSum
