/-
PROVED: the statement hortatorlaw2.HeapAll answers true over the landed packages: things by keys: put, with other keys, taken, dropped; the first one is just the document's.
  CONDITIONS: none beside the row's own.
-/
import Derived.Test.YtbfbijfedamgaaaRows
import Derived.WalkKit
import Derived.ProofKit
import Derived.OpenShut
import Derived.ShutString
import Derived.ChangeOld
import Derived.Below
import Derived.Test.YtbfbijfedamgaaaArgs
import Derived.Test.YtbfbijfedamgaaaBegun
import Derived.Test.YtbfbijfedamgaaaRefPut
import Derived.Test.YtbfbijfedamgaaaTail
import Derived.Test.YtbfbijfedamgaaaArgsMore
namespace Go.Proofs.Ytbfbijfedamgaaa.heapAll
open Go.ChangeShapes Go.WideShapes Go.ChangeAt Go.RowKit
open Go.ChangeMaps (open_string shut_string)
set_option linter.unusedVariables false

theorem own : ownKnob Try.prog.godebug = none := by kernel_rfl
theorem laidOut : laidOutB Try.prog = true := by kernel_rfl

set_option maxHeartbeats 8000000 in
set_option maxRecDepth 100000 in
theorem walk (a0 : Int) (a1 : Option Addr) (len1 cap1 : Nat) (z1 : List Op4) (w : World) (w0 : (Lit.int .i64 a0).wf = true) (w1 : IsOps w a1 len1 z1) :
    Calls Try.prog 3 #[.int .i64 a0, .slice a1 len1 cap1] w fun e w' => e = .returned (.bool true) ∧ Below w.heap.size w w' := by
  obtain ⟨b1, b2⟩ := bounds_i64 w0
  obtain ⟨hzl, hlen, hops⟩ := w1
  have HO : Hid (∀ i o, z1[i]? = some o → ∃ x, a1 = some x ∧ x.block < w.heap.size ∧ IsOp w x i o) := hops
  have HZ : Hid (z1.length = len1) := hzl
  clear hops hzl
  obtain ⟨M, hM⟩ : ∃ M : Int, M = max 0 (min a0 1000) := ⟨_, rfl⟩
  have hM0 : 0 ≤ M := by omega
  have hM1 : M ≤ 1000 := by omega
  have HR : Hid (HI.roomV a0 = M) := hM.symm
  have HR2 : Hid (RH.roomV a0 = M) := hM.symm
  clear hM
  go_enter Try.func3, Try.ntmps3
  go_wp2_with fail
  refine (begun2_any _).mono ?_
  rintro e W ⟨rfl, g0⟩
  have M0 : Hid (Few w [] W) := (Few.start w).below g0
  clear g0
  go_wp2_with fail
  refine (HI.new_any a0 W b1 b2).mono ?_
  rintro e w1 ⟨rfl, h1, g1⟩
  rw [HR.out] at h1
  have M1 : Hid (Few w [(foot W.heap.size (.slice none 0 0), fun u => HI.Heaps u W.heap.size M 0 (.slice none 0 0) [])] w1) := M0.out.add g1 h1 h1.foot_lt h1.foot_ge HI.keeps
  clear M0 g1 h1
  obtain ⟨B, hB⟩ : ∃ B, B = W.heap.size := ⟨_, rfl⟩
  rw [← hB]
  rw [← hB] at M1
  clear hB
  go_wp2_with fail
  refine (RH.new_any a0 w1 b1 b2).mono ?_
  rintro e w2 ⟨rfl, h2, g2⟩
  rw [HR2.out] at h2
  have M2 : Hid (Few w [(foot B (.slice none 0 0), fun u => HI.Heaps u B M 0 (.slice none 0 0) []), (foot w1.heap.size (.slice none 0 0), fun u => RH.Refs u w1.heap.size M (.slice none 0 0) [])] w2) := M1.out.add g2 h2 h2.foot_lt h2.foot_ge RH.keeps
  clear M1 g2 h2
  obtain ⟨C, hC⟩ : ∃ C, C = w1.heap.size := ⟨_, rfl⟩
  rw [← hC]
  rw [← hC] at M2
  clear hC
  go_wp2
  go_loopg [8] 60 (fun gk s8 wr => ∃ (k : Nat) (l : List (Ent Int)) (p : Int) (v v2 : Value), k ≤ len1 ∧ gk + k = 60 ∧ s8 = .int .i64 k ∧ 0 ≤ p ∧ p ≤ k ∧ Few w [(foot B v, fun x => HI.Heaps x B M p v l), (foot C v2, fun x => RH.Refs x C M v2 l)] wr)
  case atStart => exact ⟨0, [], 0, _, _, by omega, by omega, rfl, by omega, by omega, M2.out⟩
  case round =>
    clear M2
    skip
    obtain ⟨k, l, p, v, v2, hk, hgk, rfl, hp0, hpk, M2⟩ := hrel
    have HM : Hid (Few w [(foot B v, fun x => HI.Heaps x B M p v l), (foot C v2, fun x => RH.Refs x C M v2 l)] wr) := M2
    clear M2
    by_cases hkl : k < len1
    · have hkl' : (k : Int) < (len1 : Int) := by omega
      by_cases hk60 : k < 60
      · have hk60' : (k : Int) < 60 := by omega
        obtain ⟨o, ho⟩ : ∃ o, z1[k]? = some o := ⟨_, List.getElem?_eq_getElem (by rw [HZ.out]; exact hkl)⟩
        obtain ⟨x, rfl, hxb, hop⟩ := HO.out k o ho
        obtain ⟨kd, ov, oa, ob⟩ := o
        obtain ⟨y, hy, c0, c1, c2, c3, iv, ia, ib⟩ := op_here hop hxb HM.out.bel
        simp only at c0 c1 c2 c3 iv ia ib
        have HY : Hid (x.add (k * 4) = y) := hy
        clear hop ho
        go_upto_region 9 with fail
        have MA : Hid (Few w [(foot B v, fun x => HI.Heaps x B M p v l), (foot C v2, fun x => RH.Refs x C M v2 l), ([wr.heap.size], OpAt wr.heap.size ⟨kd, ov, oa, ob⟩)] (wr.alloc (.cells #[.int .i64 kd, .int .i64 ov, .int .i64 oa, .int .i64 ob] 29))) := HM.out.add ((Below.refl _ _).alloc (Nat.le_refl _) _) (heap_alloc_new _ _) (by simp) (by simp) OpAt.keeps
        obtain ⟨P, hP⟩ : ∃ P, P = wr.heap.size := ⟨_, rfl⟩
        rw [← hP] at MA ⊢
        clear hP HM c0 c1 c2 c3 hy
        generalize wr.alloc (.cells #[.int .i64 kd, .int .i64 ov, .int .i64 oa, .int .i64 ob] 29) = wa at MA ⊢
        obtain ⟨d0, d1, d2, d3⟩ := OpAt.cells (MA.out.holds 2)
        simp only at d0 d1 d2 d3
        go_upto_block 2 with fail
        go_cut [] (fun wd => ∃ (l : List (Ent Int)) (p : Int) (v v2 : Value), 0 ≤ p ∧ p ≤ k + 1 ∧ Few w [(foot B v, fun x => HI.Heaps x B M p v l), (foot C v2, fun x => RH.Refs x C M v2 l)] wd)
        case first =>
          have HIT : Hid (Items l p) := HI.Heaps.items (MA.out.holds 0)
          obtain ⟨hle, -⟩ := RH.heap_le (MA.out.holds 0)
          by_cases k0 : kd = 0
          · subst k0
            rcases RH.isIn l ov with hin | hno
            · as_aux_lemma =>
              have HN : Hid (∃ y ∈ l, y.v = ov) := hin
              have HLL : Hid ((less l ov).length + 1 = l.length) := less_length HIT.out hin
              clear hin
              go_wp2_with fail
              go_region_held3 (fun w' => w'.cell? ⟨P, 1, none⟩ = some (.int .i64 ov) ∧ w'.cell? ⟨P, 2, none⟩ = some (.int .i64 oa) ∧ w'.cell? ⟨P, 3, none⟩ = some (.int .i64 ob)) (first | exact ⟨d1, d2, d3⟩ | go_keep | exact ⟨e1, e2, e3⟩ | exact ⟨f1, f2, f3⟩)
                (first
                  | (go_at_call 11; refine (HI.put_there (F := []) ov oa ob _ ((MA.out.below ((Below.refl _ _).drew)).holds 0) trivial HN.out hp0 (by omega)).mono ?_; rintro e w2 ⟨rfl, h2, o2⟩; have M2 : Hid (Few w [(foot B v, fun u => HI.Heaps u B M (p + 1) v (less l ov ++ [⟨ov, oa, ob, p + 1⟩])), (foot C v2, fun u => RH.Refs u C M v2 l), ([P], OpAt P ⟨0, ov, oa, ob⟩)] w2) := HI.few_set (MA.out.below ((Below.refl _ _).drew)) 0 rfl h2 o2 rfl; obtain ⟨_, e1, e2, e3⟩ := OpAt.cells (M2.out.holds 2); simp only at e1 e2 e3; clear h2 o2 MA)
                  | (go_at_call 12; refine (RH.put_in ov oa ob (p + 1) _ (M2.out.holds 1) HIT.out HN.out (by have := HLL.out; omega)).mono ?_; rintro e w3 ⟨v3, rfl, h3, o3, q3⟩; have M3 : Hid (Few w [(foot B v, fun u => HI.Heaps u B M (p + 1) v (less l ov ++ [⟨ov, oa, ob, p + 1⟩])), (foot C v3, fun u => RH.Refs u C M v3 (less l ov ++ [⟨ov, oa, ob, p + 1⟩])), ([P], OpAt P ⟨0, ov, oa, ob⟩)] w3) := RH.few_ref M2.out 1 rfl h3 o3 q3; obtain ⟨_, f1, f2, f3⟩ := OpAt.cells (M3.out.holds 2); simp only at f1 f2 f3; clear h3 o3 q3 M2))
              go_wp2
              go_meet
              exact ⟨_, p + 1, v, v3, by omega, by omega, Few.less (l := [_, _]) M3.out⟩
            · rcases (by omega : M ≤ (l.length : Int) ∨ (l.length : Int) < M) with hroom | hroom
              · as_aux_lemma =>
                have HN : Hid (∀ y ∈ l, y.v ≠ ov) := hno
                clear hno
                go_wp2_with fail
                go_region_held3 (fun w' => w'.cell? ⟨P, 1, none⟩ = some (.int .i64 ov) ∧ w'.cell? ⟨P, 2, none⟩ = some (.int .i64 oa) ∧ w'.cell? ⟨P, 3, none⟩ = some (.int .i64 ob)) (first | exact ⟨d1, d2, d3⟩ | go_keep | exact ⟨e1, e2, e3⟩ | exact ⟨f1, f2, f3⟩)
                  (first
                    | (go_at_call 11; refine (HI.put_full (F := []) ov oa ob _ ((MA.out.below ((Below.refl _ _).drew)).holds 0) trivial HN.out hroom).mono ?_; rintro e w2 ⟨rfl, g2⟩; have M2 : Hid (Few w [(foot B v, fun u => HI.Heaps u B M p v l), (foot C v2, fun u => RH.Refs u C M v2 l), ([P], OpAt P ⟨0, ov, oa, ob⟩)] w2) := (MA.out.below ((Below.refl _ _).drew)).below g2; obtain ⟨_, e1, e2, e3⟩ := OpAt.cells (M2.out.holds 2); simp only at e1 e2 e3; clear g2 MA)
                    | (go_at_call 12; refine (RH.put_full ov oa ob _ (M2.out.holds 1) HN.out hroom).mono ?_; rintro e w3 ⟨rfl, g3⟩; have M3 : Hid (Few w [(foot B v, fun u => HI.Heaps u B M p v l), (foot C v2, fun u => RH.Refs u C M v2 l), ([P], OpAt P ⟨0, ov, oa, ob⟩)] w3) := M2.out.below g3; obtain ⟨_, f1, f2, f3⟩ := OpAt.cells (M3.out.holds 2); simp only at f1 f2 f3; clear g3 M2))
                go_wp2
                go_meet
                exact ⟨l, p, v, v2, by omega, by omega, Few.less (l := [_, _]) M3.out⟩
              · as_aux_lemma =>
                have HN : Hid (∀ y ∈ l, y.v ≠ ov) := hno
                clear hno
                go_wp2_with fail
                go_region_held3 (fun w' => w'.cell? ⟨P, 1, none⟩ = some (.int .i64 ov) ∧ w'.cell? ⟨P, 2, none⟩ = some (.int .i64 oa) ∧ w'.cell? ⟨P, 3, none⟩ = some (.int .i64 ob)) (first | exact ⟨d1, d2, d3⟩ | go_keep | exact ⟨e1, e2, e3⟩ | exact ⟨f1, f2, f3⟩)
                  (first
                    | (go_at_call 11; refine (HI.put_new ov oa ob _ ((MA.out.below ((Below.refl _ _).drew)).holds 0) trivial HN.out (by omega) hp0 (by omega)).mono ?_; rintro e w2 ⟨v3, rfl, h2, o2, q2⟩; have M2 : Hid (Few w [(foot B v3, fun u => HI.Heaps u B M (p + 1) v3 (l ++ [⟨ov, oa, ob, p + 1⟩])), (foot C v2, fun u => RH.Refs u C M v2 l), ([P], OpAt P ⟨0, ov, oa, ob⟩)] w2) := HI.few_put (MA.out.below ((Below.refl _ _).drew)) 0 rfl h2 o2 q2; obtain ⟨_, e1, e2, e3⟩ := OpAt.cells (M2.out.holds 2); simp only at e1 e2 e3; clear h2 o2 q2 MA)
                    | (go_at_call 12; refine (RH.put_new ov oa ob (p + 1) _ (M2.out.holds 1) HN.out (by omega) (by omega)).mono ?_; rintro e w3 ⟨v4, rfl, h3, o3, q3⟩; have M3 : Hid (Few w [(foot B v3, fun u => HI.Heaps u B M (p + 1) v3 (l ++ [⟨ov, oa, ob, p + 1⟩])), (foot C v4, fun u => RH.Refs u C M v4 (l ++ [⟨ov, oa, ob, p + 1⟩])), ([P], OpAt P ⟨0, ov, oa, ob⟩)] w3) := RH.few_ref M2.out 1 rfl h3 o3 q3; obtain ⟨_, f1, f2, f3⟩ := OpAt.cells (M3.out.holds 2); simp only at f1 f2 f3; clear h3 o3 q3 M2))
                go_wp2
                go_meet
                exact ⟨_, p + 1, v3, v4, by omega, by omega, Few.less (l := [_, _]) M3.out⟩
          · by_cases k1 : kd = 1
            · subst k1
              cases l with
              | nil =>
                as_aux_lemma =>
                go_wp2_with fail
                refine (HI.take_none wa (MA.out.holds 0)).mono ?_
                rintro e w2 ⟨rfl, g2⟩
                have M2 : Hid (Few w [(foot B v, fun u => HI.Heaps u B M p v []), (foot C v2, fun u => RH.Refs u C M v2 []), ([P], OpAt P ⟨1, ov, oa, ob⟩)] w2) := MA.out.below g2
                clear MA g2 d0 d1 d2 d3
                go_wp2_with fail
                refine (RH.take_none w2 (M2.out.holds 1)).mono ?_
                rintro e w3 ⟨rfl, g3⟩
                have M3 : Hid (Few w [(foot B v, fun u => HI.Heaps u B M p v []), (foot C v2, fun u => RH.Refs u C M v2 []), ([P], OpAt P ⟨1, ov, oa, ob⟩)] w3) := M2.out.below g3
                clear M2 g3
                go_wp2
                go_meet
                exact ⟨[], p, v, v2, by omega, by omega, Few.less (l := [_, _]) M3.out⟩
              | cons z l =>
                as_aux_lemma =>
                have CT : Hid (Calls Try.prog 13 #[.pointer (some ⟨B, 0, none⟩)] wa fun e w' => ∃ x v', IsFirst (z :: l) x ∧ e = .returned (.tuple #[.int .i64 x.v, .bool true]) ∧ HI.Heaps w' B M p v' (less (z :: l) x.v) ∧ foot B v' = foot B v ∧ Only (foot B v) wa w') := HI.take_some wa (MA.out.holds 0) (by simp)
                go_wp2_with fail
                refine CT.out.mono ?_
                rintro e w2 ⟨x, v3, hx, rfl, h2, q2, o2⟩
                have HX : Hid (IsFirst (z :: l) x) := hx
                have M2 : Hid (Few w [(foot B v3, fun u => HI.Heaps u B M p v3 (less (z :: l) x.v)), (foot C v2, fun u => RH.Refs u C M v2 (z :: l)), ([P], OpAt P ⟨1, ov, oa, ob⟩)] w2) := HI.few_set MA.out 0 rfl h2 o2 q2
                clear MA CT hx h2 q2 o2 d0 d1 d2 d3
                go_wp2_with fail
                refine (RH.take_this w2 (M2.out.holds 1) HIT.out HX.out).mono ?_
                rintro e w3 ⟨v4, rfl, h3, o3, q3⟩
                have M3 : Hid (Few w [(foot B v3, fun u => HI.Heaps u B M p v3 (less (z :: l) x.v)), (foot C v4, fun u => RH.Refs u C M v4 (less (z :: l) x.v)), ([P], OpAt P ⟨1, ov, oa, ob⟩)] w3) := RH.few_ref M2.out 1 rfl h3 o3 q3
                clear M2 h3 o3 q3
                go_wp2
                go_meet
                exact ⟨_, p, v3, v4, by omega, by omega, Few.less (l := [_, _]) M3.out⟩
            · by_cases k2 : kd = 2
              · subst k2
                rcases RH.isIn l ov with hin | hno
                · as_aux_lemma =>
                  have HN : Hid (∃ y ∈ l, y.v = ov) := hin
                  clear hin
                  go_wp2_with fail
                  go_region_held3 (fun w' => w'.cell? ⟨P, 1, none⟩ = some (.int .i64 ov)) (first | exact d1 | go_keep | exact e1 | exact f1)
                    (first
                      | (go_at_call 15; refine (HI.drop_some (F := []) ov _ ((MA.out.below ((Below.refl _ _).drew)).holds 0) trivial HN.out).mono ?_; rintro e w2 ⟨v3, rfl, h2, q2, o2⟩; have M2 : Hid (Few w [(foot B v3, fun u => HI.Heaps u B M p v3 (less l ov)), (foot C v2, fun u => RH.Refs u C M v2 l), ([P], OpAt P ⟨2, ov, oa, ob⟩)] w2) := HI.few_set (MA.out.below ((Below.refl _ _).drew)) 0 rfl h2 o2 q2; obtain ⟨_, e1, e2, e3⟩ := OpAt.cells (M2.out.holds 2); simp only at e1 e2 e3; clear h2 o2 q2 MA)
                      | (go_at_call 16; refine (RH.drop_in ov _ (M2.out.holds 1) HIT.out HN.out).mono ?_; rintro e w3 ⟨v4, rfl, h3, o3, q3⟩; have M3 : Hid (Few w [(foot B v3, fun u => HI.Heaps u B M p v3 (less l ov)), (foot C v4, fun u => RH.Refs u C M v4 (less l ov)), ([P], OpAt P ⟨2, ov, oa, ob⟩)] w3) := RH.few_ref M2.out 1 rfl h3 o3 q3; obtain ⟨_, f1, f2, f3⟩ := OpAt.cells (M3.out.holds 2); simp only at f1 f2 f3; clear h3 o3 q3 M2))
                  go_wp2
                  go_meet
                  exact ⟨_, p, v3, v4, by omega, by omega, Few.less (l := [_, _]) M3.out⟩
                · as_aux_lemma =>
                  have HN : Hid (∀ y ∈ l, y.v ≠ ov) := hno
                  clear hno
                  go_wp2_with fail
                  go_region_held3 (fun w' => w'.cell? ⟨P, 1, none⟩ = some (.int .i64 ov)) (first | exact d1 | go_keep | exact e1 | exact f1)
                    (first
                      | (go_at_call 15; refine (HI.drop_none (F := []) ov _ ((MA.out.below ((Below.refl _ _).drew)).holds 0) trivial HN.out).mono ?_; rintro e w2 ⟨rfl, g2⟩; have M2 : Hid (Few w [(foot B v, fun u => HI.Heaps u B M p v l), (foot C v2, fun u => RH.Refs u C M v2 l), ([P], OpAt P ⟨2, ov, oa, ob⟩)] w2) := (MA.out.below ((Below.refl _ _).drew)).below g2; obtain ⟨_, e1, e2, e3⟩ := OpAt.cells (M2.out.holds 2); simp only at e1 e2 e3; clear g2 MA)
                      | (go_at_call 16; refine (RH.drop_none ov _ (M2.out.holds 1) HN.out).mono ?_; rintro e w3 ⟨rfl, g3⟩; have M3 : Hid (Few w [(foot B v, fun u => HI.Heaps u B M p v l), (foot C v2, fun u => RH.Refs u C M v2 l), ([P], OpAt P ⟨2, ov, oa, ob⟩)] w3) := M2.out.below g3; obtain ⟨_, f1, f2, f3⟩ := OpAt.cells (M3.out.holds 2); simp only at f1 f2 f3; clear g3 M2))
                  go_wp2
                  go_meet
                  exact ⟨l, p, v, v2, by omega, by omega, Few.less (l := [_, _]) M3.out⟩
              · by_cases k3 : kd = 3
                · subst k3
                  rcases RH.isIn l ov with hin | hno
                  · as_aux_lemma =>
                    obtain ⟨y, hy, hyv⟩ := hin
                    have HN : Hid (y ∈ l) := hy
                    have HV : Hid (y.v = ov) := hyv
                    have CT : Hid (Calls Try.prog 17 #[.pointer (some ⟨B, 0, none⟩), .int .i64 ov] wa fun e w' => e = .returned (.tuple #[.int .i64 y.a, .int .i64 y.b, .bool true]) ∧ Below wa.heap.size wa w') := by have := HI.key_some (F := []) y wa (MA.out.holds 0) trivial hy; rw [hyv] at this; exact this
                    clear hy hyv
                    go_wp2_with fail
                    refine CT.out.mono ?_
                    rintro e w2 ⟨rfl, g2⟩
                    have M2 : Hid (Few w [(foot B v, fun u => HI.Heaps u B M p v l), (foot C v2, fun u => RH.Refs u C M v2 l), ([P], OpAt P ⟨3, ov, oa, ob⟩)] w2) := MA.out.below g2
                    obtain ⟨_, e1, e2, e3⟩ := OpAt.cells (M2.out.holds 2)
                    simp only at e1 e2 e3
                    have CT2 : Hid (Calls Try.prog 18 #[.pointer (some ⟨C, 0, none⟩), .int .i64 ov] w2 fun e w' => e = .returned (.tuple #[.int .i64 y.a, .int .i64 y.b, .bool true]) ∧ Below w2.heap.size w2 w') := by have := RH.key_some y w2 (M2.out.holds 1) HIT.out HN.out; rw [HV.out] at this; exact this
                    clear MA g2 d0 d1 d2 d3 CT
                    go_wp2_with fail
                    refine CT2.out.mono ?_
                    rintro e w3 ⟨rfl, g3⟩
                    have M3 : Hid (Few w [(foot B v, fun u => HI.Heaps u B M p v l), (foot C v2, fun u => RH.Refs u C M v2 l), ([P], OpAt P ⟨3, ov, oa, ob⟩)] w3) := M2.out.below g3
                    clear M2 g3 e1 e2 e3 CT2
                    go_wp2
                    go_meet
                    exact ⟨l, p, v, v2, by omega, by omega, Few.less (l := [_, _]) M3.out⟩
                  · as_aux_lemma =>
                    have HN : Hid (∀ y ∈ l, y.v ≠ ov) := hno
                    clear hno
                    go_wp2_with fail
                    refine (HI.key_none (F := []) ov wa (MA.out.holds 0) trivial HN.out).mono ?_
                    rintro e w2 ⟨rfl, g2⟩
                    have M2 : Hid (Few w [(foot B v, fun u => HI.Heaps u B M p v l), (foot C v2, fun u => RH.Refs u C M v2 l), ([P], OpAt P ⟨3, ov, oa, ob⟩)] w2) := MA.out.below g2
                    obtain ⟨_, e1, e2, e3⟩ := OpAt.cells (M2.out.holds 2)
                    simp only at e1 e2 e3
                    clear MA g2 d0 d1 d2 d3
                    go_wp2_with fail
                    refine (RH.key_none ov w2 (M2.out.holds 1) HN.out).mono ?_
                    rintro e w3 ⟨rfl, g3⟩
                    have M3 : Hid (Few w [(foot B v, fun u => HI.Heaps u B M p v l), (foot C v2, fun u => RH.Refs u C M v2 l), ([P], OpAt P ⟨3, ov, oa, ob⟩)] w3) := M2.out.below g3
                    clear M2 g3 e1 e2 e3
                    go_wp2
                    go_meet
                    exact ⟨l, p, v, v2, by omega, by omega, Few.less (l := [_, _]) M3.out⟩
                · as_aux_lemma =>
                  go_wp2
                  go_meet
                  exact ⟨l, p, v, v2, by omega, by omega, Few.less (l := [_, _]) MA.out⟩
        case rest =>
          as_aux_lemma =>
          clear MA d0 d1 d2 d3 hp0 hpk
          obtain ⟨l2, p2, v3, v4, hp0, hpk, M2⟩ := hcut
          have HM : Hid (Few w [(foot B v3, fun u => HI.Heaps u B M p2 v3 l2), (foot C v4, fun u => RH.Refs u C M v4 l2)] wc) := M2
          clear M2
          cases l2 with
          | nil =>
            go_wp2_with fail
            refine (HI.first_none wc (HM.out.holds 0)).mono ?_
            rintro e w3 ⟨rfl, g3⟩
            have M3 : Hid (Few w [(foot B v3, fun u => HI.Heaps u B M p2 v3 []), (foot C v4, fun u => RH.Refs u C M v4 [])] w3) := HM.out.below g3
            clear HM g3
            go_wp2_with fail
            refine (RH.top_none w3 (M3.out.holds 1)).mono ?_
            rintro e w4 ⟨rfl, g4⟩
            have M4 : Hid (Few w [(foot B v3, fun u => HI.Heaps u B M p2 v3 []), (foot C v4, fun u => RH.Refs u C M v4 [])] w4) := M3.out.below g4
            clear M3 g4
            have c1 : w4.cell? ⟨C, 1, none⟩ = some v4 := RH.Refs.c1 (M4.out.holds 1)
            obtain ⟨a4, cap4, hv4⟩ : ∃ a cap, v4 = .slice a ([] : List (Ent Int)).length cap := RH.Refs.slice (M4.out.holds 1)
            subst hv4
            simp only [List.length_nil] at c1
            have CL : Hid (∀ u, HI.Heaps u B M p2 v3 [] → Calls Try.prog 21 #[.pointer (some ⟨B, 0, none⟩)] u fun e w' => e = .returned (.int .i64 (0 : Nat)) ∧ w' = u) := fun u h => HI.heap_len u h
            go_wp2
            go_region_held3 (fun w' => w'.cell? ⟨C, 1, none⟩ = some (.slice a4 0 cap4)) (go_keep) ((go_at_call 21; refine (CL.out _ ((M4.out.below ((Below.refl _ _).drew)).holds 0)).mono ?_; rintro e w' ⟨rfl, hw⟩; subst w'))
            go_wp2
            go_roundg (gk - 1)
            case measure => omega
            case rel => exact ⟨k + 1, [], p2, v3, _, by omega, by omega, by go_num, hp0, by omega, M4.out.below ((Below.refl _ _).drew)⟩
          | cons z l =>
            have HIT : Hid (Items (z :: l) p2) := HI.Heaps.items (HM.out.holds 0)
            obtain ⟨hle, -⟩ := RH.heap_le (HM.out.holds 0)
            have CT : Hid (Calls Try.prog 19 #[.pointer (some ⟨B, 0, none⟩)] wc fun e w' => ∃ x, IsFirst (z :: l) x ∧ e = .returned (.tuple #[.int .i64 x.v, .bool true]) ∧ w' = wc) := HI.first_some wc (HM.out.holds 0) (by simp)
            go_wp2_with fail
            refine CT.out.mono ?_
            rintro e w' ⟨x, hx, rfl, hw⟩
            subst w'
            have HX : Hid (IsFirst (z :: l) x) := hx
            obtain ⟨xv, hxv⟩ : ∃ y, x.v = y := ⟨_, rfl⟩
            have CT2 : Hid (Calls Try.prog 20 #[.pointer (some ⟨C, 0, none⟩)] wc fun e w' => e = .returned (.tuple #[.int .i64 xv, .bool true]) ∧ Below wc.heap.size wc w') := by have := RH.top_this wc (HM.out.holds 1) HIT.out hx; rw [hxv] at this; exact this
            rw [hxv]
            clear CT hx hxv
            go_wp2_with fail
            refine CT2.out.mono ?_
            rintro e w4 ⟨rfl, g4⟩
            have M4 : Hid (Few w [(foot B v3, fun u => HI.Heaps u B M p2 v3 (z :: l)), (foot C v4, fun u => RH.Refs u C M v4 (z :: l))] w4) := HM.out.below g4
            clear HM g4 CT2
            obtain ⟨n, hn⟩ : ∃ n, (z :: l).length = n := ⟨_, rfl⟩
            have c1 : w4.cell? ⟨C, 1, none⟩ = some v4 := RH.Refs.c1 (M4.out.holds 1)
            obtain ⟨a4, cap4, hv4⟩ : ∃ a cap, v4 = .slice a (z :: l).length cap := RH.Refs.slice (M4.out.holds 1)
            subst hv4
            have CL : Hid (∀ u, HI.Heaps u B M p2 v3 (z :: l) → Calls Try.prog 21 #[.pointer (some ⟨B, 0, none⟩)] u fun e w' => e = .returned (.int .i64 n) ∧ w' = u) := fun u h => hn ▸ HI.heap_len u h
            rw [hn] at c1 hle
            have HNN : Hid ((z :: l).length = n) := hn
            clear hn
            have q1 : (xv != xv) = false := by simp
            have q2 : decide (xv = xv) = true := by simp
            go_wp2
            go_region_held3 (fun w' => w'.cell? ⟨C, 1, none⟩ = some (.slice a4 n cap4)) (go_keep) ((go_at_call 21; refine (CL.out _ ((M4.out.below ((Below.refl _ _).drew)).holds 0)).mono ?_; rintro e w' ⟨rfl, hw⟩; subst w'))
            go_wp2
            go_roundg (gk - 1)
            case measure => omega
            case rel => exact ⟨k + 1, z :: l, p2, v3, _, by omega, by omega, by go_num, hp0, by omega, M4.out.below ((Below.refl _ _).drew)⟩
      · go_wp2
        go_ret
        exact ⟨rfl, HM.out.bel⟩
    · go_wp2
      go_ret
      exact ⟨rfl, HM.out.bel⟩

set_option maxRecDepth 100000 in
theorem lifted (os : Os) (started : os.Started) (H : Type) (enc : TypeId × Value → H) :
    ReturnsInHanded {} Try.checked os 3 .any (Rows.heapAllSpec.pre6 enc Try.prog Try.f3 Rows.heapAllRow.domain false) (Rows.heapAllSpec.post enc Try.prog Try.f3 false true false false) := by
  refine returnsInHanded_of_change (C := Try.checked) own started (by kernel_rfl) Try.func3
    (ChangeSpec.witness6 (enc := enc) (C := Try.checked) false ⟨#[], #[.int .i64 0, .slice none 0 0], []⟩ 8 (by kernel_rfl) (by kernel_rfl) (by kernel_rfl) (by kernel_rfl)) ?_
  intro W base args ds gs before hval0 hW hcnd _
  have hval : ∀ (j : Nat) t v, Try.f3.params[j]? = some t → args[j]? = some v → Value.okWide Try.prog W .any base t v := hval0
  have hW' := hW
  obtain ⟨p, q, hA0, hV, rfl, hfz, hnd⟩ := hW
  have hA : DataW.TrodAll enc Try.prog W 0 (fun _ => true) true Try.f3.params.toList args.toList ds p := hA0
  rw [Try.params3] at hA hval
  obtain ⟨v0, vs0, d0, ds0, p0, q0, hargs, rfl, rfl, h0, r0⟩ := trodAll_cons hA
  obtain ⟨v1, vs1, d1, ds1, p1, q1, rfl, rfl, rfl, h1, r1⟩ := trodAll_cons r0
  obtain ⟨rfl, rfl, rfl⟩ := trodAll_nil r1
  obtain rfl : args = #[v0, v1] := by cases args; simp_all
  obtain ⟨rfl, rfl⟩ := trodVars_none hV
  obtain ⟨a0, rfl, rfl, rfl, w0⟩ := open_int Try.underlying3 (hval 0 3 v0 rfl rfl) h0
  obtain ⟨a1, len1, cap1, rfl⟩ := okWide_slice Try.underlying22 (hval 1 22 v1 rfl rfl)
  have k1 := h1
  have lt1 : ∀ x ∈ p1, x.block < W.heap.size := by obtain ⟨m, hm⟩ := k1; exact DataW.trod_lt m _ _ _ hm
  obtain ⟨z1, w1⟩ := (by obtain ⟨fuel, hf⟩ := h1; exact open_ops hf : ∃ zs, IsOps W a1 len1 zs)
  clear hA0 hval0
  refine (walk a0 a1 len1 cap1 z1 W w0 w1).mono fun e W' ⟨he, bel⟩ => ?_
  subst he
  exact ⟨_, rfl, _, _, _, [], _, [], hW', trodAll_mk1 (shut_bool Try.underlying4 _), (trodAll_cons_mk (shut_int Try.underlying3 w0) (trodAll_cons_mk (Below.trod laidOut (by kernel_rfl) (of_decide_eq_true (by kernel_rfl)) k1 bel lt1) trodAll_mk0)), rfl, bel.frame _, fun h => by cases h⟩

theorem over : Rows.heapAllRow.holds Try.pinned (OpenSpec.ofChange Rows.heapAllSpec) :=
  OpenClaim.holds_of_wide 3 Try.f3 rfl rfl rfl rfl rfl rfl rfl ⟨rfl, rfl, rfl, rfl, rfl⟩ rfl rfl rfl rfl rfl (by kernel_rfl) Try.func3 (by kernel_rfl)
    (of_decide_eq_true (by kernel_rfl)) (by unfold Func.isWrapper; first | (rw [if_pos (by decide +kernel)]; kernel_rfl) | (rw [if_neg (by decide +kernel)]; exact ⟨rfl, rfl⟩))
    (fun os started H enc _ => lifted os started H enc)

theorem proved : Rows.HeapAllSaid := over
end Go.Proofs.Ytbfbijfedamgaaa.heapAll
