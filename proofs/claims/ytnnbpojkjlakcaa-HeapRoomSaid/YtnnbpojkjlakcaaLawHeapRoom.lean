/-
PROVED: the statement hortatorlaw2.HeapRoom answers true over the landed packages: as many things as there is room for, and not one more; one that is there may always be put.
  CONDITIONS: none beside the row's own.
-/
import Derived.ChangeOld
import Derived.Below
import Derived.Test.YtnnbpojkjlakcaaRows
import Derived.WalkKit
import Derived.ProofKit
import Derived.OpenShut
import Derived.ShutString
import Derived.Test.YtnnbpojkjlakcaaBegun
import Derived.Test.YtnnbpojkjlakcaaEnts
namespace Go.Proofs.Ytnnbpojkjlakcaa.heapRoom
open Go.ChangeShapes Go.WideShapes Go.ChangeAt Go.RowKit
open Go.ChangeMaps (open_string shut_string)
set_option linter.unusedVariables false

theorem own : ownKnob Try.prog.godebug = none := by kernel_rfl

set_option maxHeartbeats 8000000 in
set_option maxRecDepth 100000 in
theorem walk (a0 : Int) (a1 : Int) (w0 : (Lit.int .i64 a0).wf = true) (w1 : (Lit.int .i64 a1).wf = true) (w : World) :
    Calls Try.prog 5 #[.int .i64 a0, .int .i64 a1] w fun e w' => e = .returned (.bool true) ∧ Below w.heap.size w w' := by
  obtain ⟨b1, b2⟩ := bounds_i64 w0
  obtain ⟨c1, c2⟩ := bounds_i64 w1
  rcases (by omega : a1 < 0 ∨ 1005 < a1 ∨ (0 ≤ a1 ∧ a1 ≤ 1005)) with hn | hn | hn
  iterate 2
    · go_enter Try.func5, Try.ntmps5
      go_wp2_with fail
      refine (begun2_any _).mono ?_
      rintro e W ⟨rfl, g0⟩
      go_wp2
      all_goals
        go_ret
        exact ⟨rfl, g0⟩
  obtain ⟨n, rfl⟩ : ∃ n : Nat, a1 = n := ⟨a1.toNat, by omega⟩
  have hn0 : ¬ (n : Int) < 0 := by omega
  have hn1 : ¬ 1005 < (n : Int) := by omega
  have hn2 : n ≤ 1005 := by omega
  clear hn c1 c2 w1
  obtain ⟨m, hm, hroom⟩ : ∃ m : Nat, (m : Int) = max 0 (min a0 1000) ∧ HI.roomV a0 = (m : Int) := ⟨(max 0 (min a0 1000)).toNat, by omega, by unfold HI.roomV; omega⟩
  have HR : Hid (HI.roomV a0 = (m : Int)) := hroom
  clear hroom
  have hm1 : m ≤ 1000 := by omega
  obtain ⟨E, hE⟩ : ∃ E : Nat → List (Ent Int), E = ents (fun i => -(i : Int)) (fun _ => 0) := ⟨_, rfl⟩
  have HE : Hid (E = ents (fun i => -(i : Int)) (fun _ => 0)) := hE
  clear hE
  go_enter Try.func5, Try.ntmps5
  go_wp2_with fail
  refine (begun2_any _).mono ?_
  rintro e W ⟨rfl, g0⟩
  have M0 : Hid (Few w [] W) := (Few.start w).below g0
  clear g0
  go_upto_region 4 with fail
  go_cut [6] (fun s6 wc => s6 = .int .i64 m ∧ wc = W)
  case first =>
    go_wp2
    all_goals
      go_meet
      exact ⟨congrArg (Value.int .i64) (by omega), rfl⟩
  case rest =>
    obtain ⟨rfl, rfl⟩ := hcut
    clear hm
    go_wp2_with fail
    refine (HI.new_any a0 wc b1 b2).mono ?_
    rintro e w1 ⟨rfl, h1, g1⟩
    rw [HR.out] at h1
    have M1 : Hid (Few w [(foot wc.heap.size (.slice none 0 0), fun u => HI.Heaps u wc.heap.size m 0 (.slice none 0 0) [])] w1) := M0.out.add g1 h1 h1.foot_lt h1.foot_ge HI.keeps
    clear M0 g1 h1 b1 b2 w0 HR
    obtain ⟨B, hB⟩ : ∃ B, B = wc.heap.size := ⟨_, rfl⟩
    rw [← hB]
    rw [← hB] at M1
    clear hB
    go_wp2
    go_loopw [8] (fun s8 wr => ∃ (k : Nat) (v : Value), k ≤ n ∧ s8 = .int .i64 k ∧ Few w [(foot B v, fun u => HI.Heaps u B m (min k m : Nat) v (E (min k m)))] wr) (fun i _ => n - (intOf i).toNat)
    case atStart => exact ⟨0, _, by omega, rfl, by rw [HE.out, show min 0 m = 0 by omega]; exact M1.out⟩
    case round =>
      clear M1
      obtain ⟨k, v, hk, rfl, M⟩ := hrel
      have HM : Hid (Few w [(foot B v, fun u => HI.Heaps u B m (min k m : Nat) v (E (min k m)))] wr) := M
      clear M
      by_cases hkn : k < n
      · by_cases hkm : k < m
        · have put := HI.put_new (k : Int) (-(k : Int)) 0 wr (HM.out.holds 0) trivial (by rw [HE.out]; exact ents_not (by omega)) (by rw [HE.out, ents_length]; omega) (by omega) (by omega)
          have HP : Hid (Calls Try.prog 13 #[.pointer (some ⟨B, 0, none⟩), mkI (k : Int), .int .i64 (-(k : Int)), .int .i64 0] wr fun e w' => ∃ v', e = .returned (.bool true) ∧ HI.Heaps w' B m (((min k m : Nat) : Int) + 1) v' (E (min k m) ++ [⟨(k : Int), -(k : Int), 0, ((min k m : Nat) : Int) + 1⟩]) ∧ Only (foot B v) wr w' ∧ ∀ j ∈ foot B v', j ∈ foot B v ∨ wr.heap.size ≤ j) := put
          clear put
          go_wp2_with fail
          refine HP.out.mono ?_
          rintro e w2 ⟨v2, rfl, h2, o2, f2⟩
          have e1 : E (min (k + 1) m) = E (min k m) ++ [⟨(k : Int), -(k : Int), 0, ((min k m : Nat) : Int) + 1⟩] := by
            rw [HE.out, show min (k + 1) m = k + 1 by omega, show min k m = k by omega, ents_succ]
          rw [← e1, show ((min k m : Nat) : Int) + 1 = ((min (k + 1) m : Nat) : Int) by omega] at h2
          clear e1 HP
          go_wp2
          go_round
          case rel => exact ⟨k + 1, v2, hkn, by go_num, HI.few_put HM.out 0 rfl h2 o2 f2⟩
          case measure => simp [intOf]; omega
        · have put := HI.put_full (k : Int) (-(k : Int)) 0 wr (HM.out.holds 0) (F := []) trivial (by rw [HE.out]; exact ents_not (by omega)) (by rw [HE.out, ents_length]; omega)
          have HP : Hid (Calls Try.prog 13 #[.pointer (some ⟨B, 0, none⟩), mkI (k : Int), .int .i64 (-(k : Int)), .int .i64 0] wr fun e w' => e = .returned (.bool false) ∧ Below wr.heap.size wr w') := put
          clear put
          go_wp2_with fail
          refine HP.out.mono ?_
          rintro e w2 ⟨rfl, g2⟩
          clear HP
          go_wp2
          go_round
          case rel =>
            have e1 : min (k + 1) m = min k m := by omega
            exact ⟨k + 1, v, hkn, by go_num, by rw [e1]; exact HM.out.below g2⟩
          case measure => simp [intOf]; omega
      · obtain rfl : k = n := by omega
        obtain ⟨t, ht⟩ : ∃ t, t = min k m := ⟨_, rfl⟩
        have HT : Hid (t = min k m) := ht
        rw [← ht] at HM
        clear ht
        by_cases ht0 : t = 0
        · subst ht0
          have e0 : E 0 = [] := by rw [HE.out]; rfl
          rw [e0] at HM
          have ht := HT.out
          rcases (by omega : (k ≤ m ∧ k = 0) ∨ (m < k ∧ m = 0)) with ⟨h1, rfl⟩ | ⟨h1, rfl⟩
          all_goals
            clear HT ht e0
            go_wp2_with fail
            refine (HI.first_none wr (HM.out.holds 0)).mono ?_
            rintro e w2 ⟨rfl, g2⟩
            have M2 : Hid (Few w [(foot B v, fun u => HI.Heaps u B _ (0 : Nat) v [])] w2) := HM.out.below g2
            clear HM g2
            go_wp2_with fail
            refine (HI.heap_len w2 (M2.out.holds 0)).mono ?_
            rintro e w' ⟨rfl, hw⟩
            subst w'
            go_wp2_with fail
            refine (HI.heap_len w2 (M2.out.holds 0)).mono ?_
            rintro e w' ⟨rfl, hw⟩
            subst w'
            go_wp2
            go_ret
            exact ⟨rfl, M2.out.bel⟩
        · have first : ∀ x, IsFirst (E t) x → x.v = (t : Int) - 1 := by
            intro x hx
            rw [HE.out] at hx
            obtain ⟨i, hi, rfl⟩ := mem_ents.1 hx.1
            have := hx.2 _ (mem_ents.2 ⟨t - 1, by omega, rfl⟩)
            unfold Le Lt at this
            simp only at this ⊢
            omega
          have FI : Hid (∀ x, IsFirst (E t) x → x.v = (t : Int) - 1) := first
          have ne : E t ≠ [] := by rw [HE.out]; intro e; have := congrArg List.length e; rw [ents_length] at this; simp at this; omega
          have NE : Hid (E t ≠ []) := ne
          have IN : Hid (∃ y ∈ E t, y.v = 0) := by rw [HE.out]; exact ents_in (k := 0) (by omega)
          have LN : Hid ((E t).length = t) := by rw [HE.out]; exact ents_length _ _ _
          clear first ne
          have ht := HT.out
          have htk : (if (k : Int) ≤ m then (k : Int) else m) = t := by split <;> omega
          have t1 : ¬ (t : Int) = 0 := by omega
          have t2 : 0 < (t : Int) := by omega
          have t3 : t ≤ 1000 := by omega
          rcases (by omega : (k ≤ m ∧ (k : Int) = t) ∨ (m < k ∧ (m : Int) = t)) with ⟨h1, h2⟩ | ⟨h1, h2⟩
          all_goals
            have h2' := Int.ofNat_inj.1 h2
            subst h2'
            clear HT ht htk h2
            go_wp2_with fail
            refine (HI.first_some wr (HM.out.holds 0) NE.out).mono ?_
            rintro e w' ⟨x, hx, rfl, hw⟩
            subst w'
            have hv := FI.out x hx
            have mk : mkI x.v = .int .i64 x.v := rfl
            rw [hv] at mk
            have MK := mk
            clear FI hx
            go_wp2_with fail
            refine (HI.heap_len wr (HM.out.holds 0)).mono ?_
            rw [LN.out]
            rintro e w' ⟨rfl, hw⟩
            subst w'
            go_wp2_with fail
            refine (HI.put_there 0 (-5000) 0 wr (HM.out.holds 0) (F := []) trivial IN.out (by omega) (by omega)).mono ?_
            rintro e w3 ⟨rfl, h3, o3⟩
            have ll := less_length (HI.Heaps.items (HM.out.holds 0)) IN.out
            rw [LN.out] at ll
            have M3 := HI.few_set HM.out 0 rfl h3 o3 rfl
            have len := HI.heap_len w3 h3
            rw [List.length_append, show (less (E _) 0).length + [(⟨0, -5000, 0, _⟩ : Ent Int)].length = _ from ll] at len
            clear ll h3 o3
            go_wp2_with fail
            refine len.mono ?_
            rintro e w' ⟨rfl, hw⟩
            subst w'
            go_wp2
            go_ret
            exact ⟨rfl, M3.bel⟩

set_option maxRecDepth 100000 in
theorem lifted (os : Os) (started : os.Started) (H : Type) (enc : TypeId × Value → H) :
    ReturnsInHanded {} Try.checked os 5 .any (Rows.heapRoomSpec.pre6 enc Try.prog Try.f5 Rows.heapRoomRow.domain false) (Rows.heapRoomSpec.post enc Try.prog Try.f5 false true false false) := by
  refine returnsInHanded_of_change (C := Try.checked) own started (by kernel_rfl) Try.func5
    (ChangeSpec.witness6 (enc := enc) (C := Try.checked) false ⟨#[], #[.int .i64 0, .int .i64 0], []⟩ 8 (by kernel_rfl) (by kernel_rfl) (by kernel_rfl) (by kernel_rfl)) ?_
  intro W base args ds gs before hval0 hW hcnd _
  have hval : ∀ (j : Nat) t v, Try.f5.params[j]? = some t → args[j]? = some v → Value.okWide Try.prog W .any base t v := hval0
  have hW' := hW
  obtain ⟨p, q, hA0, hV, rfl, hfz, hnd⟩ := hW
  have hA : DataW.TrodAll enc Try.prog W 0 (fun _ => true) true Try.f5.params.toList args.toList ds p := hA0
  rw [Try.params5] at hA hval
  obtain ⟨v0, vs0, d0, ds0, p0, q0, hargs, rfl, rfl, h0, r0⟩ := trodAll_cons hA
  obtain ⟨v1, vs1, d1, ds1, p1, q1, rfl, rfl, rfl, h1, r1⟩ := trodAll_cons r0
  obtain ⟨rfl, rfl, rfl⟩ := trodAll_nil r1
  obtain rfl : args = #[v0, v1] := by cases args; simp_all
  obtain ⟨rfl, rfl⟩ := trodVars_none hV
  obtain ⟨a0, rfl, rfl, rfl, w0⟩ := open_int Try.underlying3 (hval 0 3 v0 rfl rfl) h0
  obtain ⟨a1, rfl, rfl, rfl, w1⟩ := open_int Try.underlying3 (hval 1 3 v1 rfl rfl) h1
  clear hA0 hval0
  refine (walk a0 a1 w0 w1 W).mono fun e W' ⟨he, bel⟩ => ?_
  subst he
  exact ⟨_, rfl, _, _, _, [], _, [], hW', trodAll_mk1 (shut_bool Try.underlying4 _), (trodAll_cons_mk (shut_int Try.underlying3 w0) (trodAll_cons_mk (shut_int Try.underlying3 w1) trodAll_mk0)), rfl, bel.frame _, fun h => by cases h⟩

theorem over : Rows.heapRoomRow.holds Try.pinned (OpenSpec.ofChange Rows.heapRoomSpec) :=
  OpenClaim.holds_of_wide 5 Try.f5 rfl rfl rfl rfl rfl rfl rfl ⟨rfl, rfl, rfl, rfl, rfl⟩ rfl rfl rfl rfl rfl (by kernel_rfl) Try.func5 (by kernel_rfl)
    (of_decide_eq_true (by kernel_rfl)) (by unfold Func.isWrapper; first | (rw [if_pos (by decide +kernel)]; kernel_rfl) | (rw [if_neg (by decide +kernel)]; exact ⟨rfl, rfl⟩))
    (fun os started H enc _ => lifted os started H enc)

theorem proved : Rows.HeapRoomSaid :=
  over
end Go.Proofs.Ytnnbpojkjlakcaa.heapRoom
