/-
PROVED: the statement hortatorlaw2.RingTurn answers true over the landed packages: a queue that is filled and emptied over and over goes on as it should.
  CONDITIONS: none beside the row's own.
-/
import Derived.ChangeOld
import Derived.Below
import Derived.Test.YtkbmpoiokdoclaaRows
import Derived.WalkKit
import Derived.ProofKit
import Derived.OpenShut
import Derived.ShutString
import Derived.Test.YtkbmpoiokdoclaaBegun
import Derived.Test.YtkbmpoiokdoclaaRingMoreI
namespace Go.Proofs.Ytkbmpoiokdoclaa.ringTurn
open Go.ChangeShapes Go.WideShapes Go.ChangeAt Go.RowKit
open Go.ChangeMaps (open_string shut_string)
set_option linter.unusedVariables false

theorem own : ownKnob Try.prog.godebug = none := by kernel_rfl

set_option maxHeartbeats 8000000 in
set_option maxRecDepth 100000 in
theorem walk (a0 : Int) (a1 : Int) (w0 : (Lit.int .i64 a0).wf = true) (w1 : (Lit.int .i64 a1).wf = true) (w : World) :
    Calls Try.prog 8 #[.int .i64 a0, .int .i64 a1] w fun e w' => e = .returned (.bool true) ∧ Below w.heap.size w w' := by
  obtain ⟨b1, b2⟩ := bounds_i64 w0
  obtain ⟨c1, c2⟩ := bounds_i64 w1
  rcases (by omega : a0 < 1 ∨ (¬ a0 < 1 ∧ 20 < a0) ∨ (¬ a0 < 1 ∧ ¬ 20 < a0 ∧ a1 < 0) ∨ (¬ a0 < 1 ∧ ¬ 20 < a0 ∧ ¬ a1 < 0 ∧ 200 < a1) ∨ ((¬ a0 < 1 ∧ ¬ 20 < a0 ∧ ¬ a1 < 0 ∧ ¬ 200 < a1))) with h | ⟨h, h'⟩ | ⟨h, h', h''⟩ | ⟨h, h', h'', h'''⟩ | ⟨h, h', h'', h'''⟩
  iterate 4
    · go_enter Try.func8, Try.ntmps8
      go_wp2_with fail
      refine (begun2_any _).mono ?_
      rintro e W ⟨rfl, g0⟩
      go_wp2
      go_ret
      exact ⟨rfl, g0⟩
  obtain ⟨n, rfl⟩ : ∃ n : Nat, a1 = n := ⟨a1.toNat, by omega⟩
  obtain ⟨m, rfl⟩ : ∃ m : Nat, a0 = m := ⟨a0.toNat, by omega⟩
  have hm0 : 0 < m := by omega
  have hm1 : m ≤ 20 := by omega
  have hn1 : n ≤ 200 := by omega
  have hroom : RI.roomV m = (m : Int) := by unfold RI.roomV; omega
  have HR : Hid (RI.roomV m = (m : Int)) := hroom
  clear hroom
  go_enter Try.func8, Try.ntmps8
  go_wp2_with fail
  refine (begun2_any _).mono ?_
  rintro e W ⟨rfl, g0⟩
  have M0 : Hid (Few w [] W) := (Few.start w).below g0
  clear g0
  go_wp2_with fail
  refine (RI.new_any m W b1 b2).mono ?_
  rintro e w1 ⟨rfl, h1, g1⟩
  rw [HR.out] at h1
  have M1 : Hid (Few w [(foot W.heap.size (.slice none 0 0), fun u => RI.Rings u W.heap.size m (.slice none 0 0) [])] w1) := M0.out.add g1 h1 h1.foot_lt h1.foot_ge RI.keeps
  clear M0 g1 h1
  obtain ⟨B, hB⟩ : ∃ B, B = W.heap.size := ⟨_, rfl⟩
  rw [← hB]
  rw [← hB] at M1
  clear hB
  go_wp2
  go_loopw [7, 8, 9] (fun s7 s8 s9 wr => ∃ (i F L : Nat) (v : Value), i ≤ n ∧ L ≤ m ∧ F ≤ 20 * i ∧ s7 = .int .i64 (F + L : Nat) ∧ s8 = .int .i64 F ∧ s9 = .int .i64 i ∧ Few w [(foot B v, fun u => RI.Rings u B m v (run F L))] wr) (fun _ _ i _ => n - (intOf i).toNat)
  case atStart => exact ⟨0, 0, 0, _, by omega, by omega, by omega, rfl, rfl, rfl, M1.out⟩
  case round =>
    clear M1
    obtain ⟨i, F, L, v, hi, hL, hF, rfl, rfl, rfl, M⟩ := hrel
    by_cases hin : i < n
    · go_wp2
      go_loopw [7] (fun s7 wr => ∃ (L : Nat) (v : Value), L ≤ m ∧ s7 = .int .i64 (F + L : Nat) ∧ Few w [(foot B v, fun u => RI.Rings u B m v (run F L))] wr) (fun s _ => F + m - (intOf s).toNat)
      case atStart => exact ⟨L, v, hL, rfl, M⟩
      case round =>
        clear M
        obtain ⟨L2, v2, hL2, rfl, M2⟩ := hrel
        have HM : Hid (Few w [(foot B v2, fun u => RI.Rings u B m v2 (run F L2))] wr) := M2
        clear M2
        by_cases hlt : L2 < m
        · go_wp2_with fail
          refine (RI.put_ok (F + L2 : Nat) wr (HM.out.holds 0) (by rw [run_length]; omega)).mono ?_
          rintro e w2 ⟨v3, rfl, h2, o2, f2⟩
          rw [← run_snoc] at h2
          go_wp2
          go_roundw
          case rel => exact ⟨L2 + 1, v3, hlt, by go_num, RI.few_put HM.out 0 rfl h2 o2 f2⟩
          case measure => simp [intOf]; omega
        · obtain rfl : L2 = m := by omega
          go_wp2_with fail
          refine (RI.put_full (F + L2 : Nat) wr (HM.out.holds 0) (by rw [run_length]; omega)).mono ?_
          rintro e w2 ⟨rfl, g2⟩
          have M2 : Hid (Few w [(foot B v2, fun u => RI.Rings u B L2 v2 (run F L2))] w2) := HM.out.below g2
          clear HM g2
          have rl := RI.ring_len w2 (M2.out.holds 0)
          rw [run_length] at rl
          go_wp2_with fail
          refine rl.mono ?_
          rintro e w' ⟨rfl, hw⟩
          subst w'
          obtain ⟨r, hr⟩ : ∃ r, r = i % L2 := ⟨_, rfl⟩
          have hr1 : r < L2 := by rw [hr]; exact Nat.mod_lt _ hm0
          have hmod : (i : Int).tmod (L2 : Int) = (r : Int) := by rw [hr]; rfl
          have hsub : (F : Int) + (L2 : Int) - (F : Int) = (L2 : Int) := by omega
          clear rl hr
          go_wp2
          go_loopw [8, 10] (fun s8 s10 wr => ∃ k : Nat, k ≤ r + 1 ∧ s8 = .int .i64 (F + k : Nat) ∧ s10 = .int .i64 k ∧ Few w [(foot B v2, fun u => RI.Rings u B L2 v2 (run (F + k) (L2 - k)))] wr) (fun _ s _ => r + 1 - (intOf s).toNat)
          case atStart => exact ⟨0, by omega, rfl, rfl, M2.out⟩
          case round =>
            clear M2
            obtain ⟨k, hk, rfl, rfl, M3⟩ := hrel
            by_cases hkr : k ≤ r
            · rw [show L2 - k = (L2 - (k + 1)) + 1 by omega, run_cons] at M3
              have HM : Hid (Few w [(foot B v2, fun u => RI.Rings u B L2 v2 (((F + k : Nat) : Int) :: run (F + k + 1) (L2 - (k + 1))))] wr) := M3
              clear M3
              have mk : mkI ((F : Int) + (k : Int)) = .int .i64 ((F : Int) + (k : Int)) := rfl
              go_wp2_with fail
              refine (RI.take_some wr (HM.out.holds 0)).mono ?_
              rintro e w3 ⟨rfl, h3, o3⟩
              go_wp2
              go_roundw
              case rel =>
                exact ⟨k + 1, by omega, by go_num, by go_num, RI.few_take HM.out 0 rfl h3 o3⟩
              case measure => simp [intOf]; omega
            · have HM : Hid (Few w [(foot B v2, fun u => RI.Rings u B L2 v2 (run (F + k) (L2 - k)))] wr) := M3
              clear M3
              go_wp2
              go_roundw
              case rel => exact ⟨i + 1, F + k, L2 - k, v2, hin, by omega, by omega, by go_num, rfl, by go_num, HM.out⟩
              case measure => simp [intOf]; omega
    · have HM : Hid (Few w [(foot B v, fun u => RI.Rings u B m v (run F L))] wr) := M
      clear M
      go_wp2
      go_ret
      exact ⟨rfl, HM.out.bel⟩

set_option maxRecDepth 100000 in
theorem lifted (os : Os) (started : os.Started) (H : Type) (enc : TypeId × Value → H) :
    ReturnsInHanded {} Try.checked os 8 .any (Rows.ringTurnSpec.pre6 enc Try.prog Try.f8 Rows.ringTurnRow.domain false) (Rows.ringTurnSpec.post enc Try.prog Try.f8 false true false false) := by
  refine returnsInHanded_of_change (C := Try.checked) own started (by kernel_rfl) Try.func8
    (ChangeSpec.witness6 (enc := enc) (C := Try.checked) false ⟨#[], #[.int .i64 0, .int .i64 0], []⟩ 8 (by kernel_rfl) (by kernel_rfl) (by kernel_rfl) (by kernel_rfl)) ?_
  intro W base args ds gs before hval0 hW hcnd _
  have hval : ∀ (j : Nat) t v, Try.f8.params[j]? = some t → args[j]? = some v → Value.okWide Try.prog W .any base t v := hval0
  have hW' := hW
  obtain ⟨p, q, hA0, hV, rfl, hfz, hnd⟩ := hW
  have hA : DataW.TrodAll enc Try.prog W 0 (fun _ => true) true Try.f8.params.toList args.toList ds p := hA0
  rw [Try.params8] at hA hval
  obtain ⟨v0, vs0, d0, ds0, p0, q0, hargs, rfl, rfl, h0, r0⟩ := trodAll_cons hA
  obtain ⟨v1, vs1, d1, ds1, p1, q1, rfl, rfl, rfl, h1, r1⟩ := trodAll_cons r0
  obtain ⟨rfl, rfl, rfl⟩ := trodAll_nil r1
  obtain rfl : args = #[v0, v1] := by cases args; simp_all
  obtain ⟨rfl, rfl⟩ := trodVars_none hV
  obtain ⟨a0, rfl, rfl, rfl, w0⟩ := open_int Try.underlying3 (hval 0 3 v0 rfl rfl) h0
  obtain ⟨a1, rfl, rfl, rfl, w1⟩ := open_int Try.underlying3 (hval 1 3 v1 rfl rfl) h1
  clear hA0 hval0
  refine (walk a0 a1 w0 w1 W).mono fun e W' ⟨he, bel⟩ => ?_
  subst he
  exact ⟨_, rfl, _, _, _, [], _, [], hW', trodAll_mk1 (shut_bool Try.underlying4 _), (trodAll_cons_mk (shut_int Try.underlying3 w0) (trodAll_cons_mk (shut_int Try.underlying3 w1) trodAll_mk0)), rfl, bel.frame _, fun h => by cases h⟩

theorem over : Rows.ringTurnRow.holds Try.pinned (OpenSpec.ofChange Rows.ringTurnSpec) :=
  OpenClaim.holds_of_wide 8 Try.f8 rfl rfl rfl rfl rfl rfl rfl ⟨rfl, rfl, rfl, rfl, rfl⟩ rfl rfl rfl rfl rfl (by kernel_rfl) Try.func8 (by kernel_rfl)
    (of_decide_eq_true (by kernel_rfl)) (by unfold Func.isWrapper; first | (rw [if_pos (by decide +kernel)]; kernel_rfl) | (rw [if_neg (by decide +kernel)]; exact ⟨rfl, rfl⟩))
    (fun os started H enc _ => lifted os started H enc)

theorem proved : Rows.RingTurnSaid :=
  over
end Go.Proofs.Ytkbmpoiokdoclaa.ringTurn
