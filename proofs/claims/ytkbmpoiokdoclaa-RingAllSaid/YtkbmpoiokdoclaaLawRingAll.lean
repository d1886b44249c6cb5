/-
PROVED: the statement hortatorlaw2.RingAll answers true over the landed packages: a queue: what came first goes first; just so many.
  CONDITIONS: none beside the row's own.
-/
import Derived.Test.YtkbmpoiokdoclaaRows
import Derived.WalkKit
import Derived.ProofKit
import Derived.OpenShut
import Derived.ShutString
import Derived.ChangeOld
import Derived.Below
import Derived.Test.YtkbmpoiokdoclaaArgs
import Derived.Test.YtkbmpoiokdoclaaBegun
import Derived.Test.YtkbmpoiokdoclaaRingMoreI
import Derived.Test.YtkbmpoiokdoclaaTail
import Derived.Test.YtkbmpoiokdoclaaArgsMore
namespace Go.Proofs.Ytkbmpoiokdoclaa.ringAll
open Go.ChangeShapes Go.WideShapes Go.ChangeAt Go.RowKit
open Go.ChangeMaps (open_string shut_string)
set_option linter.unusedVariables false

theorem own : ownKnob Try.prog.godebug = none := by kernel_rfl
theorem laidOut : laidOutB Try.prog = true := by kernel_rfl

set_option maxHeartbeats 8000000 in
set_option maxRecDepth 100000 in
theorem walk (a0 : Int) (a1 : Option Addr) (len1 cap1 : Nat) (z1 : List Op4) (w : World) (w0 : (Lit.int .i64 a0).wf = true) (w1 : IsOps w a1 len1 z1) :
    Calls Try.prog 7 #[.int .i64 a0, .slice a1 len1 cap1] w fun e w' => e = .returned (.bool true) ∧ Below w.heap.size w w' := by
  obtain ⟨b1, b2⟩ := bounds_i64 w0
  obtain ⟨hzl, hlen, hops⟩ := w1
  have HO : Hid (∀ i o, z1[i]? = some o → ∃ x, a1 = some x ∧ x.block < w.heap.size ∧ IsOp w x i o) := hops
  have HZ : Hid (z1.length = len1) := hzl
  clear hops hzl
  obtain ⟨i0, hi0, hz0, hz1, hz2⟩ := info_parts infoInt
  obtain ⟨M, hM⟩ : ∃ M : Int, M = max 0 (min a0 1000) := ⟨_, rfl⟩
  have hM0 : 0 ≤ M := by omega
  have hM1 : M ≤ 1000 := by omega
  have HR : Hid (RI.roomV a0 = M) := hM.symm
  go_enter Try.func7, Try.ntmps7
  go_wp2_with fail
  refine (begun2_any _).mono ?_
  rintro e W ⟨rfl, g0⟩
  have M0 : Hid (Few w [] W) := (Few.start w).below g0
  clear g0
  go_wp2_with fail
  refine (RI.new_any a0 W b1 b2).mono ?_
  rintro e w1 ⟨rfl, h1, g1⟩
  rw [HR.out] at h1
  have M1 : Hid (Few w [(foot W.heap.size (.slice none 0 0), fun u => RI.Rings u W.heap.size M (.slice none 0 0) []), ([], fun u => Tail u w.heap.size 3 (.slice none 0 0) [])] w1) := (M0.out.add g1 h1 h1.foot_lt h1.foot_ge RI.keeps).add (Below.refl _ _) (Tail.nil _ _ _) (by simp) (by simp) Tail.keeps
  clear M0 g1 h1
  obtain ⟨B, hB⟩ : ∃ B, B = W.heap.size := ⟨_, rfl⟩
  rw [← hB]
  rw [← hB] at M1
  clear hB
  go_upto_region 5 with fail
  go_cut [7] (fun s7 wc => s7 = .int .i64 M ∧ wc = w1)
  case first =>
    go_wp2
    all_goals
      go_meet
      exact ⟨congrArg (Value.int .i64) (by omega), rfl⟩
  case rest =>
    obtain ⟨rfl, rfl⟩ := hcut
    clear hM
    go_wp2
    go_loopg [8, 9] 60 (fun gk s8 s9 wr => ∃ (k : Nat) (q : List Int) (v : Value), k ≤ len1 ∧ gk + k = 60 ∧ s9 = .int .i64 k ∧ (q.length : Int) ≤ M ∧ Few w [(foot B v, fun x => RI.Rings x B M v q), (s8.ownBlock.toList, fun x => Tail x w.heap.size 3 s8 (q.map mkI))] wr)
    case atStart => exact ⟨0, [], _, by omega, by omega, rfl, by simpa using hM0, M1.out⟩
    case round =>
      clear M1
      skip
      obtain ⟨k, q, v, hk, hgk, rfl, hq, M2⟩ := hrel
      have HM : Hid (Few w [(foot B v, fun x => RI.Rings x B M v q), (u8.ownBlock.toList, fun x => Tail x w.heap.size 3 u8 (q.map mkI))] wr) := M2
      clear M2
      by_cases hkl : k < len1
      · have hkl' : (k : Int) < (len1 : Int) := by omega
        by_cases hk60 : k < 60
        · have hk60' : (k : Int) < 60 := by omega
          obtain ⟨o, ho⟩ : ∃ o, z1[k]? = some o := ⟨_, List.getElem?_eq_getElem (by rw [HZ.out]; exact hkl)⟩
          obtain ⟨x, rfl, hxb, hop⟩ := HO.out k o ho
          obtain ⟨kd, ov, oa, ob⟩ := o
          obtain ⟨y, hy, c0, c1, c2, c3, iv, ia, ib⟩ := op_here hop hxb HM.out.bel
          simp only at c0 c1 c2 c3 iv ia ib
          have HY : Hid (x.add (k * 4) = y) := hy
          clear hop ho
          go_upto_region 11 with fail
          have MA : Hid (Few w [(foot B v, fun x => RI.Rings x B M v q), (u8.ownBlock.toList, fun x => Tail x w.heap.size 3 u8 (q.map mkI)), ([wr.heap.size], OpAt wr.heap.size ⟨kd, ov, oa, ob⟩)] (wr.alloc (.cells #[.int .i64 kd, .int .i64 ov, .int .i64 oa, .int .i64 ob] 60))) := HM.out.add ((Below.refl _ _).alloc (Nat.le_refl _) _) (heap_alloc_new _ _) (by simp) (by simp) OpAt.keeps
          obtain ⟨P, hP⟩ : ∃ P, P = wr.heap.size := ⟨_, rfl⟩
          rw [← hP] at MA ⊢
          clear hP HM c0 c1 c2 c3 hy
          generalize wr.alloc (.cells #[.int .i64 kd, .int .i64 ov, .int .i64 oa, .int .i64 ob] 60) = wa at MA ⊢
          obtain ⟨d0, d1, _, _⟩ := OpAt.cells (MA.out.holds 2)
          go_upto_block 2 with fail
          go_cut [8] (fun s8 wd => ∃ (q : List Int) (v : Value), (q.length : Int) ≤ M ∧ Few w [(foot B v, fun x => RI.Rings x B M v q), (s8.ownBlock.toList, fun x => Tail x w.heap.size 3 s8 (q.map mkI))] wd)
          case first =>
            obtain ⟨iv1, iv2⟩ := iv
            by_cases k0 : kd = 0
            · subst k0
              obtain ⟨ad, cp, hu⟩ := Tail.slice (MA.out.holds 1)
              rw [List.length_map] at hu
              subst hu
              by_cases hroom : (q.length : Int) < M
              · go_wp2_with fail
                refine (RI.put_ok ov wa (MA.out.holds 0) hroom).mono ?_
                rintro e w2 ⟨v2, rfl, h2, o2, f2⟩
                have M2 : Hid (Few w [(foot B v2, fun x => RI.Rings x B M v2 (q ++ [ov])), ((Value.slice ad q.length cp).ownBlock.toList, fun x => Tail x w.heap.size 3 (.slice ad q.length cp) (q.map mkI)), ([P], OpAt P ⟨0, ov, oa, ob⟩)] w2) := RI.few_put MA.out 0 rfl h2 o2 f2
                obtain ⟨_, d1, _, _⟩ := OpAt.cells (M2.out.holds 2)
                have T2 : Hid (Tail w2 w.heap.size 3 (.slice ad q.length cp) (q.map mkI)) := M2.out.holds 1
                have S2 : Hid (w.heap.size ≤ w2.heap.size) := M2.out.bel.size
                clear MA h2 o2 f2 d0
                go_wp2_with (at_builtin; refine wpList_append_tail _ rfl (.tmp 97) (.tmp 100) 42 rfl w.heap.size 3 i0 (.int .i64 0) 8 Try.underlying42 hi0 hz0 hz1 hz2 rfl _ _ rfl (T2.out.below ((Below.refl _ _).alloc (Nat.le_refl _) _)) ⟨w2.heap.size, 0, none⟩ 1 (.int .i64 ov) rfl (cell_lone _ _ _) rfl (by unfold maxLen; rw [List.length_map]; omega) (by rw [List.length_map]; omega) (by have := S2.out; simp; omega) ?_; intro v3 w3 t3 gr3 f3; have M3 : Hid (Few w [(foot B v2, fun x => RI.Rings x B M v2 (q ++ [ov])), (v3.ownBlock.toList, fun x => Tail x w.heap.size 3 v3 (q.map mkI ++ [.int .i64 ov])), ([P], OpAt P ⟨0, ov, oa, ob⟩)] w3) := (few_tail (M2.out.below ((Below.refl _ _).alloc (Nat.le_refl _) _)) 1 rfl t3 gr3 f3); clear t3 gr3 f3 M2 T2 d1)
                go_meet
                refine ⟨q ++ [ov], v2, by simp; omega, ?_⟩
                have e1 : (q ++ [ov]).map mkI = q.map mkI ++ [.int .i64 ov] := by simp [mkI]
                rw [e1]
                exact Few.less (l := [_, _]) M3.out
              · go_wp2_with fail
                refine (RI.put_full ov wa (MA.out.holds 0) (by omega)).mono ?_
                rintro e w2 ⟨rfl, g2⟩
                have M2 : Hid (Few w [(foot B v, fun x => RI.Rings x B M v q), ((Value.slice ad q.length cp).ownBlock.toList, fun x => Tail x w.heap.size 3 (.slice ad q.length cp) (q.map mkI)), ([P], OpAt P ⟨0, ov, oa, ob⟩)] w2) := MA.out.below g2
                clear MA g2 d0 d1
                go_wp2
                go_meet
                exact ⟨q, v, hq, Few.less (l := [_, _]) M2.out⟩
            · by_cases k1 : kd = 1
              · subst k1
                cases q with
                | nil =>
                  obtain ⟨ad, cp, hu⟩ := Tail.slice (MA.out.holds 1)
                  simp only [List.map_nil, List.length_nil] at hu
                  subst hu
                  go_wp2_with fail
                  refine (RI.take_none wa (MA.out.holds 0)).mono ?_
                  rintro e w2 ⟨rfl, g2⟩
                  have M2 : Hid (Few w [(foot B v, fun x => RI.Rings x B M v []), ((Value.slice ad 0 cp).ownBlock.toList, fun x => Tail x w.heap.size 3 (.slice ad 0 cp) []), ([P], OpAt P ⟨1, ov, oa, ob⟩)] w2) := MA.out.below g2
                  clear MA g2 d0 d1
                  go_wp2
                  go_meet
                  exact ⟨[], v, hq, Few.less (l := [_, _]) M2.out⟩
                | cons u q =>
                  obtain ⟨g, f, cp, hu, hcp, hcm, _⟩ := Tail.head (MA.out.holds 1)
                  rw [List.length_map] at hu hcp
                  subst hu
                  unfold maxLen at hcm
                  have hql : q.length < 1000 := by simp at hq; omega
                  have ct := RI.take_some wa (MA.out.holds 0)
                  rw [show mkI u = Value.int .i64 u from rfl] at ct
                  have CT : Hid (Calls Try.prog 19 #[.pointer (some ⟨B, 0, none⟩)] wa fun e w' => e = .returned (.tuple #[.int .i64 u, .bool true]) ∧ RI.Rings w' B M v q ∧ Only (foot B v) wa w') := ct
                  clear ct
                  go_wp2_with fail
                  refine CT.out.mono ?_
                  rintro e w2 ⟨rfl, h2, o2⟩
                  clear CT
                  have M2 : Hid (Few w [(foot B v, fun x => RI.Rings x B M v q), ((Value.slice (some ⟨g, f, none⟩) (q.length + 1) cp).ownBlock.toList, fun x => Tail x w.heap.size 3 (.slice (some ⟨g, f, none⟩) (q.length + 1) cp) (mkI u :: q.map mkI)), ([P], OpAt P ⟨1, ov, oa, ob⟩)] w2) := RI.few_take MA.out 0 rfl h2 o2
                  have cu : w2.cell? ⟨g, f, none⟩ = some (.int .i64 u) := Tail.cellAt (j := 0) (M2.out.holds 1) rfl
                  rcases (by omega : cp = 1 ∨ 1 < cp) with rfl | hcp1
                  · obtain rfl : q = [] := List.eq_nil_of_length_eq_zero (by omega)
                    have T3 : Tail w2 w.heap.size 3 (.slice (some ⟨g, f, none⟩) 0 0) [] := Tail.none (M2.out.holds 1)
                    have M3 : Hid (Few w [(foot B v, fun x => RI.Rings x B M v []), ((Value.slice (some ⟨g, f, none⟩) 0 0).ownBlock.toList, fun x => Tail x w.heap.size 3 (.slice (some ⟨g, f, none⟩) 0 0) []), ([P], OpAt P ⟨1, ov, oa, ob⟩)] w2) := few_head M2.out 1 rfl T3 rfl
                    clear MA M2 T3 h2 o2 d0 d1
                    go_wp2
                    go_meet
                    exact ⟨[], v, by simp; omega, Few.less (l := [_, _]) M3.out⟩
                  · have T3 : Tail w2 w.heap.size 3 (.slice (some ⟨g, f + 1, none⟩) (q.map mkI).length (cp - 1)) (q.map mkI) := Tail.tl (M2.out.holds 1)
                    rw [List.length_map] at T3
                    have M3 : Hid (Few w [(foot B v, fun x => RI.Rings x B M v q), ((Value.slice (some ⟨g, f + 1, none⟩) q.length (cp - 1)).ownBlock.toList, fun x => Tail x w.heap.size 3 (.slice (some ⟨g, f + 1, none⟩) q.length (cp - 1)) (q.map mkI)), ([P], OpAt P ⟨1, ov, oa, ob⟩)] w2) := few_head M2.out 1 rfl T3 rfl
                    clear MA M2 T3 h2 o2 d0 d1
                    go_wp2
                    go_meet
                    exact ⟨q, v, by simp at hq; omega, Few.less (l := [_, _]) M3.out⟩
              · obtain ⟨ad, cp, hu⟩ := Tail.slice (MA.out.holds 1)
                rw [List.length_map] at hu
                subst hu
                rcases (by omega : (0 ≤ ov ∧ ov < (q.length : Int)) ∨ (ov < 0 ∧ ¬ 0 ≤ ov) ∨ (0 ≤ ov ∧ (q.length : Int) ≤ ov ∧ ¬ ov < (q.length : Int))) with ⟨v0, v1⟩ | ⟨v0, v1⟩ | ⟨v0, v1, v3⟩
                · obtain ⟨n, rfl⟩ := Int.eq_ofNat_of_zero_le v0
                  obtain ⟨u, hu⟩ : ∃ u, q[n]? = some u := ⟨_, List.getElem?_eq_getElem (by omega)⟩
                  obtain ⟨g, f, cp', hx, hcp, hcm, _⟩ := Tail.only_some (MA.out.holds 1) (j := n) (u := mkI u) (by simp [hu])
                  simp only [Value.slice.injEq] at hx
                  obtain ⟨rfl, hjunk, rfl⟩ := hx
                  have ct := RI.at_in n wa (MA.out.holds 0) hu
                  rw [show mkI u = Value.int .i64 u from rfl] at ct
                  have CT : Hid (Calls Try.prog 20 #[.pointer (some ⟨B, 0, none⟩), .int .i64 n] wa fun e w' => e = .returned (.tuple #[.int .i64 u, .bool true]) ∧ Below wa.heap.size wa w') := ct
                  have HU : Hid (q[n]? = some u) := hu
                  clear ct hu hjunk
                  rw [List.length_map] at hcp
                  unfold maxLen at hcm
                  go_wp2_with fail
                  refine CT.out.mono ?_
                  rintro e w2 ⟨rfl, g2⟩
                  clear CT
                  have M2 : Hid (Few w [(foot B v, fun x => RI.Rings x B M v q), ((Value.slice (some ⟨g, f, none⟩) q.length cp).ownBlock.toList, fun x => Tail x w.heap.size 3 (.slice (some ⟨g, f, none⟩) q.length cp) (q.map mkI)), ([P], OpAt P ⟨kd, n, oa, ob⟩)] w2) := MA.out.below g2
                  have cu : w2.cell? ⟨g, f + n, none⟩ = some (.int .i64 u) := Tail.cellAt (j := n) (M2.out.holds 1) (by simp [HU.out, mkI])
                  obtain ⟨_, d1, _, _⟩ := OpAt.cells (M2.out.holds 2)
                  clear MA g2 d0
                  go_wp2
                  go_meet
                  exact ⟨q, v, hq, Few.less (l := [_, _]) M2.out⟩
                all_goals
                  go_wp2_with fail
                  refine (RI.at_out ov wa (MA.out.holds 0) (by omega)).mono ?_
                  rintro e w2 ⟨rfl, g2⟩
                  have M2 : Hid (Few w [(foot B v, fun x => RI.Rings x B M v q), ((Value.slice ad q.length cp).ownBlock.toList, fun x => Tail x w.heap.size 3 (.slice ad q.length cp) (q.map mkI)), ([P], OpAt P ⟨kd, ov, oa, ob⟩)] w2) := MA.out.below g2
                  obtain ⟨_, d1, _, _⟩ := OpAt.cells (M2.out.holds 2)
                  clear MA g2 d0
                  go_wp2
                  go_meet
                  exact ⟨q, v, hq, Few.less (l := [_, _]) M2.out⟩
          case rest =>
            clear MA d0 d1
            obtain ⟨q2, v2, hq2, M2⟩ := hcut
            have HM : Hid (Few w [(foot B v2, fun x => RI.Rings x B M v2 q2), (u8.ownBlock.toList, fun x => Tail x w.heap.size 3 u8 (q2.map mkI))] wc) := M2
            clear M2
            cases q2 with
            | nil =>
              obtain ⟨ad, cp, hu⟩ := Tail.slice (HM.out.holds 1)
              simp only [List.map_nil, List.length_nil] at hu
              subst hu
              go_wp2_with fail
              refine (RI.first_none wc (HM.out.holds 0)).mono ?_
              rintro e w3 ⟨rfl, g3⟩
              have M3 : Hid (Few w [(foot B v2, fun x => RI.Rings x B M v2 []), ((Value.slice ad 0 cp).ownBlock.toList, fun x => Tail x w.heap.size 3 (.slice ad 0 cp) [])] w3) := HM.out.below g3
              clear HM g3
              go_wp2_with fail
              refine (RI.ring_len w3 (M3.out.holds 0)).mono ?_
              rintro e w' ⟨rfl, hw⟩
              subst w'
              go_wp2_with fail
              refine (RI.ring_room w3 (M3.out.holds 0)).mono ?_
              rintro e w4 ⟨rfl, g4⟩
              have M4 : Hid (Few w [(foot B v2, fun x => RI.Rings x B M v2 []), ((Value.slice ad 0 cp).ownBlock.toList, fun x => Tail x w.heap.size 3 (.slice ad 0 cp) [])] w4) := M3.out.below g4
              clear M3 g4
              go_wp2
              go_roundg (gk - 1)
              case measure => omega
              case rel => exact ⟨k + 1, [], v2, by omega, by omega, by go_num, hq2, M4.out⟩
            | cons u q =>
              obtain ⟨g, f, cp, hu, hcp, hcm, _⟩ := Tail.head (HM.out.holds 1)
              rw [List.length_map] at hu hcp
              subst hu
              unfold maxLen at hcm
              have hql : q.length < 1000 := by simp at hq2; omega
              have ct := RI.first_some wc (HM.out.holds 0)
              rw [show mkI u = Value.int .i64 u from rfl] at ct
              have CT : Hid (Calls Try.prog 18 #[.pointer (some ⟨B, 0, none⟩)] wc fun e w' => e = .returned (.tuple #[.int .i64 u, .bool true]) ∧ Below wc.heap.size wc w') := ct
              clear ct
              go_wp2_with fail
              refine CT.out.mono ?_
              rintro e w3 ⟨rfl, g3⟩
              clear CT
              have M3 : Hid (Few w [(foot B v2, fun x => RI.Rings x B M v2 (u :: q)), ((Value.slice (some ⟨g, f, none⟩) (q.length + 1) cp).ownBlock.toList, fun x => Tail x w.heap.size 3 (.slice (some ⟨g, f, none⟩) (q.length + 1) cp) (mkI u :: q.map mkI))] w3) := HM.out.below g3
              have cu : w3.cell? ⟨g, f, none⟩ = some (.int .i64 u) := Tail.cellAt (j := 0) (M3.out.holds 1) rfl
              clear HM g3
              go_wp2_with fail
              refine (RI.ring_len w3 (M3.out.holds 0)).mono ?_
              rintro e w' ⟨rfl, hw⟩
              subst w'
              go_wp2_with fail
              refine (RI.ring_room w3 (M3.out.holds 0)).mono ?_
              rintro e w4 ⟨rfl, g4⟩
              have M4 : Hid (Few w [(foot B v2, fun x => RI.Rings x B M v2 (u :: q)), ((Value.slice (some ⟨g, f, none⟩) (q.length + 1) cp).ownBlock.toList, fun x => Tail x w.heap.size 3 (.slice (some ⟨g, f, none⟩) (q.length + 1) cp) (mkI u :: q.map mkI))] w4) := M3.out.below g4
              clear M3 g4
              go_wp2
              go_roundg (gk - 1)
              case measure => omega
              case rel => exact ⟨k + 1, u :: q, v2, by omega, by omega, by go_num, hq2, M4.out⟩
        · go_wp2
          go_ret
          exact ⟨rfl, HM.out.bel⟩
      · go_wp2
        go_ret
        exact ⟨rfl, HM.out.bel⟩

set_option maxRecDepth 100000 in
theorem lifted (os : Os) (started : os.Started) (H : Type) (enc : TypeId × Value → H) :
    ReturnsInHanded {} Try.checked os 7 .any (Rows.ringAllSpec.pre6 enc Try.prog Try.f7 Rows.ringAllRow.domain false) (Rows.ringAllSpec.post enc Try.prog Try.f7 false true false false) := by
  refine returnsInHanded_of_change (C := Try.checked) own started (by kernel_rfl) Try.func7
    (ChangeSpec.witness6 (enc := enc) (C := Try.checked) false ⟨#[], #[.int .i64 0, .slice none 0 0], []⟩ 8 (by kernel_rfl) (by kernel_rfl) (by kernel_rfl) (by kernel_rfl)) ?_
  intro W base args ds gs before hval0 hW hcnd _
  have hval : ∀ (j : Nat) t v, Try.f7.params[j]? = some t → args[j]? = some v → Value.okWide Try.prog W .any base t v := hval0
  have hW' := hW
  obtain ⟨p, q, hA0, hV, rfl, hfz, hnd⟩ := hW
  have hA : DataW.TrodAll enc Try.prog W 0 (fun _ => true) true Try.f7.params.toList args.toList ds p := hA0
  rw [Try.params7] at hA hval
  obtain ⟨v0, vs0, d0, ds0, p0, q0, hargs, rfl, rfl, h0, r0⟩ := trodAll_cons hA
  obtain ⟨v1, vs1, d1, ds1, p1, q1, rfl, rfl, rfl, h1, r1⟩ := trodAll_cons r0
  obtain ⟨rfl, rfl, rfl⟩ := trodAll_nil r1
  obtain rfl : args = #[v0, v1] := by cases args; simp_all
  obtain ⟨rfl, rfl⟩ := trodVars_none hV
  obtain ⟨a0, rfl, rfl, rfl, w0⟩ := open_int Try.underlying3 (hval 0 3 v0 rfl rfl) h0
  obtain ⟨a1, len1, cap1, rfl⟩ := okWide_slice Try.underlying58 (hval 1 58 v1 rfl rfl)
  have k1 := h1
  have lt1 : ∀ x ∈ p1, x.block < W.heap.size := by obtain ⟨m, hm⟩ := k1; exact DataW.trod_lt m _ _ _ hm
  obtain ⟨z1, w1⟩ := (by obtain ⟨fuel, hf⟩ := h1; exact open_ops hf : ∃ zs, IsOps W a1 len1 zs)
  clear hA0 hval0
  refine (walk a0 a1 len1 cap1 z1 W w0 w1).mono fun e W' ⟨he, bel⟩ => ?_
  subst he
  exact ⟨_, rfl, _, _, _, [], _, [], hW', trodAll_mk1 (shut_bool Try.underlying4 _), (trodAll_cons_mk (shut_int Try.underlying3 w0) (trodAll_cons_mk (Below.trod laidOut (by kernel_rfl) (of_decide_eq_true (by kernel_rfl)) k1 bel lt1) trodAll_mk0)), rfl, bel.frame _, fun h => by cases h⟩

theorem over : Rows.ringAllRow.holds Try.pinned (OpenSpec.ofChange Rows.ringAllSpec) :=
  OpenClaim.holds_of_wide 7 Try.f7 rfl rfl rfl rfl rfl rfl rfl ⟨rfl, rfl, rfl, rfl, rfl⟩ rfl rfl rfl rfl rfl (by kernel_rfl) Try.func7 (by kernel_rfl)
    (of_decide_eq_true (by kernel_rfl)) (by unfold Func.isWrapper; first | (rw [if_pos (by decide +kernel)]; kernel_rfl) | (rw [if_neg (by decide +kernel)]; exact ⟨rfl, rfl⟩))
    (fun os started H enc _ => lifted os started H enc)

theorem proved : Rows.RingAllSaid := over
end Go.Proofs.Ytkbmpoiokdoclaa.ringAll
