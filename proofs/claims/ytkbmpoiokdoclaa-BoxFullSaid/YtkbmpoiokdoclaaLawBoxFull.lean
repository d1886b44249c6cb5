/-
PROVED: the statement hortatorlaw2.BoxFull answers true over the landed packages: a box takes as many as there is room for.
  CONDITIONS: none beside the row's own.
-/
import Derived.ChangeOld
import Derived.Below
import Derived.Test.YtkbmpoiokdoclaaRows
import Derived.WalkKit
import Derived.ProofKit
import Derived.OpenShut
import Derived.ShutString
import Derived.Test.YtkbmpoiokdoclaaBegun
import Derived.Test.YtkbmpoiokdoclaaBoxMoreI
namespace Go.Proofs.Ytkbmpoiokdoclaa.boxFull
open Go.ChangeShapes Go.WideShapes Go.ChangeAt Go.RowKit
open Go.ChangeMaps (open_string shut_string)
set_option linter.unusedVariables false

theorem own : ownKnob Try.prog.godebug = none := by kernel_rfl

set_option maxHeartbeats 8000000 in
set_option maxRecDepth 100000 in
theorem walk (a0 : Int) (a1 : Int) (w0 : (Lit.int .i64 a0).wf = true) (w1 : (Lit.int .i64 a1).wf = true) (w : World) :
    Calls Try.prog 13 #[.int .i64 a0, .int .i64 a1] w fun e w' => e = .returned (.bool true) ∧ Below w.heap.size w w' := by
  obtain ⟨b1, b2⟩ := bounds_i64 w0
  obtain ⟨c1, c2⟩ := bounds_i64 w1
  rcases (by omega : a1 < 0 ∨ 110 < a1 ∨ (0 ≤ a1 ∧ a1 ≤ 110)) with hn | hn | hn
  · go_enter Try.func13, Try.ntmps13
    go_wp2_with fail
    refine (begun2_any _).mono ?_
    rintro e W ⟨rfl, g0⟩
    go_wp2
    all_goals
      go_ret
      exact ⟨rfl, g0⟩
  · go_enter Try.func13, Try.ntmps13
    go_wp2_with fail
    refine (begun2_any _).mono ?_
    rintro e W ⟨rfl, g0⟩
    go_wp2
    all_goals
      go_ret
      exact ⟨rfl, g0⟩
  obtain ⟨n, rfl⟩ : ∃ n : Nat, a1 = n := ⟨a1.toNat, by omega⟩
  have hn0 : ¬ (n : Int) < 0 := by omega
  have hn1 : ¬ 110 < (n : Int) := by omega
  have hn2 : n ≤ 110 := by omega
  clear hn c1 c2 w1
  go_enter Try.func13, Try.ntmps13
  go_wp2_with fail
  refine (begun2_any _).mono ?_
  rintro e W ⟨rfl, g0⟩
  have M0 : Hid (Few w [] W) := (Few.start w).below g0
  clear g0
  obtain ⟨m, hm, hroom⟩ : ∃ m : Nat, (m : Int) = max 0 (min a0 100) ∧ BI.roomV a0 = m := ⟨(max 0 (min a0 100)).toNat, by omega, rfl⟩
  have HR : Hid (BI.roomV a0 = m) := hroom
  clear hroom
  have hm1 : m ≤ 100 := by omega
  go_upto_region 4 with fail
  go_cut [6] (fun s6 wc => s6 = .int .i64 m ∧ wc = W)
  case first =>
    go_wp2
    all_goals
      go_meet
      exact ⟨congrArg (Value.int .i64) (by omega), rfl⟩
  case rest =>
    obtain ⟨rfl, rfl⟩ := hcut
    clear hm
    go_wp2_with fail
    refine (BI.new_any a0 wc b1 b2).mono ?_
    rintro e w1 ⟨rfl, h1, g1⟩
    rw [HR.out] at h1
    have M1 : Hid (Few w [(BI.footB (wc.heap.size + 1) wc.heap.size [], fun u => BI.Boxes u (wc.heap.size + 1) wc.heap.size m [])] w1) := M0.out.add g1 h1 (BI.foots_lt h1) BI.foot_new BI.keeps
    clear M0 g1 h1
    go_wp2
    go_loopw [8] (fun s8 wr => ∃ (k : Nat) (q : List (Nat × Int)), k ≤ n ∧ s8 = .int .i64 k ∧ q.map (·.2) = upTo (min k m) ∧ Few w [(BI.footB (wc.heap.size + 1) wc.heap.size q, fun u => BI.Boxes u (wc.heap.size + 1) wc.heap.size m q)] wr) (fun i _ => n - (intOf i).toNat)
    case atStart => exact ⟨0, [], by omega, rfl, by simp [upTo], M1.out⟩
    case round =>
      clear M1
      obtain ⟨k, q, hk, rfl, hq, M⟩ := hrel
      have HQ : Hid (q.map (·.2) = upTo (min k m)) := hq
      have hql : q.length = min k m := by have := congrArg List.length hq; simpa [upTo_length] using this
      have HM : Hid (Few w [(BI.footB (wc.heap.size + 1) wc.heap.size q, fun u => BI.Boxes u (wc.heap.size + 1) wc.heap.size m q)] wr) := M
      clear hq M
      by_cases hkn : k < n
      · by_cases hkm : k < m
        · have hl : q.length < m := by omega
          clear hql
          go_wp2_with fail
          refine (BI.put_room k wr (HM.out.holds 0) hl).mono ?_
          rintro e w2 ⟨rfl, h2, o2⟩
          go_wp2
          go_round
          case rel =>
            refine ⟨k + 1, q ++ [(wr.heap.size, (k : Int))], hkn, by go_num, ?_, BI.few_put HM.out 0 rfl h2 o2⟩
            rw [List.map_append, HQ.out, show min k m = k by omega, show min (k + 1) m = k + 1 by omega, upTo_succ]
            rfl
          case measure => simp [intOf]; omega
        · have hl : q.length = m := by omega
          clear hql
          go_wp2_with fail
          refine (BI.put_full k wr (HM.out.holds 0) hl).mono ?_
          rintro e w2 ⟨rfl, g2⟩
          go_wp2
          go_round
          case rel =>
            refine ⟨k + 1, q, hkn, by go_num, ?_, HM.out.below g2⟩
            rw [HQ.out]; congr 1; omega
          case measure => simp [intOf]; omega
      · have hkn2 : k = n := by omega
        subst hkn2
        obtain ⟨t, ht⟩ : ∃ t, t = min k m := ⟨_, rfl⟩
        rw [← ht] at HQ
        have ht1 : t ≤ 100 := by omega
        have HT : Hid (t = min k m) := ht
        clear hql ht
        go_wp2
        go_loopw [9] (fun s9 wr => ∃ (j : Nat) (q : List (Nat × Int)), j ≤ t ∧ s9 = .int .i64 j ∧ q.map (·.2) = (upTo t).drop j ∧ Few w [(BI.footB (wc.heap.size + 1) wc.heap.size q, fun u => BI.Boxes u (wc.heap.size + 1) wc.heap.size m q)] wr) (fun i _ => t - (intOf i).toNat)
        case atStart => exact ⟨0, q, by omega, rfl, HQ.out, HM.out⟩
        case round =>
          clear HQ HM
          obtain ⟨j, q2, hj, rfl, hq2, M2⟩ := hrel
          have HQ : Hid (q2.map (·.2) = (upTo t).drop j) := hq2
          clear hq2
          by_cases hjt : j < t
          · obtain ⟨p, q3, rfl, hp, hq3⟩ := cons_of_map (HQ.out.trans (upTo_drop hjt))
            obtain ⟨p1, p2⟩ := p
            simp only at hp
            subst hp
            have HQ3 : Hid (q3.map (·.2) = (upTo t).drop (j + 1)) := hq3
            have HM : Hid (Few w [(BI.footB (wc.heap.size + 1) wc.heap.size ((p1, (j : Int)) :: q3), fun u => BI.Boxes u (wc.heap.size + 1) wc.heap.size m ((p1, (j : Int)) :: q3))] wr) := M2
            have ht := HT.out
            have h1 : j < k := by omega
            have h2 : j < m := by omega
            have mk : mkI (j : Int) = .int .i64 j := rfl
            clear HQ M2 hq3 ht
            rcases (by omega : (k : Int) ≤ m ∨ (m : Int) < k) with hkm | hkm
            all_goals
              go_wp2_with fail
              refine (BI.take_some wr (HM.out.holds 0)).mono ?_
              rintro e w3 ⟨rfl, h3, o3⟩
              go_wp2
              go_round
              case rel => exact ⟨j + 1, q3, hjt, by go_num, HQ3.out, BI.few_take HM.out 0 rfl h3 o3⟩
              case measure => simp [intOf]; omega
          · have e0 : q2 = [] := by
              have := congrArg List.length HQ.out
              simp [upTo_length] at this
              exact List.eq_nil_of_length_eq_zero (by omega)
            subst e0
            have HM : Hid (Few w [(BI.footB (wc.heap.size + 1) wc.heap.size [], fun u => BI.Boxes u (wc.heap.size + 1) wc.heap.size m [])] wr) := M2
            have ht := HT.out
            clear HQ M2
            rcases (by omega : ((k : Int) ≤ m ∧ ¬ j < k) ∨ ((m : Int) < k ∧ ¬ j < m)) with ⟨hkm, hlt⟩ | ⟨hkm, hlt⟩
            all_goals
              clear ht
              go_wp2_with fail
              refine (BI.take_none wr (HM.out.holds 0)).mono ?_
              rintro e w3 ⟨rfl, g3⟩
              have HM3 : Hid (Few w [(BI.footB (wc.heap.size + 1) wc.heap.size [], fun u => BI.Boxes u (wc.heap.size + 1) wc.heap.size m [])] w3) := HM.out.below g3
              clear HM g3
              go_wp2_with fail
              refine (BI.new_any 0 w3 (by omega) (by omega)).mono ?_
              rintro e w4 ⟨rfl, h4, g4⟩
              have HM4 : Hid (Few w [(BI.footB (wc.heap.size + 1) wc.heap.size [], fun u => BI.Boxes u (wc.heap.size + 1) wc.heap.size m []), (BI.footB (w3.heap.size + 1) w3.heap.size [], fun u => BI.Boxes u (w3.heap.size + 1) w3.heap.size 0 [])] w4) := HM3.out.add g4 h4 (BI.foots_lt h4) BI.foot_new BI.keeps
              clear HM3 g4 h4
              go_wp2_with fail
              refine (BI.either_none w4 (HM4.out.holds 0) (HM4.out.holds 1)).mono ?_
              rintro e w5 ⟨rfl, g5⟩
              go_wp2
              go_ret
              exact ⟨rfl, (HM4.out.below g5).bel⟩

set_option maxRecDepth 100000 in
theorem lifted (os : Os) (started : os.Started) (H : Type) (enc : TypeId × Value → H) :
    ReturnsInHanded {} Try.checked os 13 .any (Rows.boxFullSpec.pre6 enc Try.prog Try.f13 Rows.boxFullRow.domain false) (Rows.boxFullSpec.post enc Try.prog Try.f13 false true false false) := by
  refine returnsInHanded_of_change (C := Try.checked) own started (by kernel_rfl) Try.func13
    (ChangeSpec.witness6 (enc := enc) (C := Try.checked) false ⟨#[], #[.int .i64 0, .int .i64 0], []⟩ 8 (by kernel_rfl) (by kernel_rfl) (by kernel_rfl) (by kernel_rfl)) ?_
  intro W base args ds gs before hval0 hW hcnd _
  have hval : ∀ (j : Nat) t v, Try.f13.params[j]? = some t → args[j]? = some v → Value.okWide Try.prog W .any base t v := hval0
  have hW' := hW
  obtain ⟨p, q, hA0, hV, rfl, hfz, hnd⟩ := hW
  have hA : DataW.TrodAll enc Try.prog W 0 (fun _ => true) true Try.f13.params.toList args.toList ds p := hA0
  rw [Try.params13] at hA hval
  obtain ⟨v0, vs0, d0, ds0, p0, q0, hargs, rfl, rfl, h0, r0⟩ := trodAll_cons hA
  obtain ⟨v1, vs1, d1, ds1, p1, q1, rfl, rfl, rfl, h1, r1⟩ := trodAll_cons r0
  obtain ⟨rfl, rfl, rfl⟩ := trodAll_nil r1
  obtain rfl : args = #[v0, v1] := by cases args; simp_all
  obtain ⟨rfl, rfl⟩ := trodVars_none hV
  obtain ⟨a0, rfl, rfl, rfl, w0⟩ := open_int Try.underlying3 (hval 0 3 v0 rfl rfl) h0
  obtain ⟨a1, rfl, rfl, rfl, w1⟩ := open_int Try.underlying3 (hval 1 3 v1 rfl rfl) h1
  clear hA0 hval0
  refine (walk a0 a1 w0 w1 W).mono fun e W' ⟨he, bel⟩ => ?_
  subst he
  exact ⟨_, rfl, _, _, _, [], _, [], hW', trodAll_mk1 (shut_bool Try.underlying4 _), (trodAll_cons_mk (shut_int Try.underlying3 w0) (trodAll_cons_mk (shut_int Try.underlying3 w1) trodAll_mk0)), rfl, bel.frame _, fun h => by cases h⟩

theorem over : Rows.boxFullRow.holds Try.pinned (OpenSpec.ofChange Rows.boxFullSpec) :=
  OpenClaim.holds_of_wide 13 Try.f13 rfl rfl rfl rfl rfl rfl rfl ⟨rfl, rfl, rfl, rfl, rfl⟩ rfl rfl rfl rfl rfl (by kernel_rfl) Try.func13 (by kernel_rfl)
    (of_decide_eq_true (by kernel_rfl)) (by unfold Func.isWrapper; first | (rw [if_pos (by decide +kernel)]; kernel_rfl) | (rw [if_neg (by decide +kernel)]; exact ⟨rfl, rfl⟩))
    (fun os started H enc _ => lifted os started H enc)

theorem proved : Rows.BoxFullSaid :=
  over
end Go.Proofs.Ytkbmpoiokdoclaa.boxFull
