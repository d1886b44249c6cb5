/-
PROVED: the statement hortatorlaw2.LineAll answers true over the landed packages: what is due comes by its time, of one time as it was put; put again it is due then.
  CONDITIONS: none beside the row's own.
-/
import Derived.Test.YtbfbijfedamgaaaRows
import Derived.WalkKit
import Derived.ProofKit
import Derived.OpenShut
import Derived.ShutString
import Derived.ChangeOld
import Derived.Below
import Derived.Test.YtbfbijfedamgaaaArgs
import Derived.Test.YtbfbijfedamgaaaBegun
import Derived.Test.YtbfbijfedamgaaaRefPut
import Derived.Test.YtbfbijfedamgaaaLineListI
import Derived.Test.YtbfbijfedamgaaaTail
import Derived.Test.YtbfbijfedamgaaaArgsMore
namespace Go.Proofs.Ytbfbijfedamgaaa.lineAll
open Go.ChangeShapes Go.WideShapes Go.ChangeAt Go.RowKit
open Go.ChangeMaps (open_string shut_string)
set_option linter.unusedVariables false

theorem own : ownKnob Try.prog.godebug = none := by kernel_rfl
theorem laidOut : laidOutB Try.prog = true := by kernel_rfl

set_option maxHeartbeats 8000000 in
set_option maxRecDepth 100000 in
theorem walk (a0 : Int) (a1 : Option Addr) (len1 cap1 : Nat) (z1 : List Op4) (w : World) (w0 : (Lit.int .i64 a0).wf = true) (w1 : IsOps w a1 len1 z1) :
    Calls Try.prog 5 #[.int .i64 a0, .slice a1 len1 cap1] w fun e w' => e = .returned (.bool true) ∧ Below w.heap.size w w' := by
  obtain ⟨b1, b2⟩ := bounds_i64 w0
  obtain ⟨hzl, hlen, hops⟩ := w1
  have HO : Hid (∀ i o, z1[i]? = some o → ∃ x, a1 = some x ∧ x.block < w.heap.size ∧ IsOp w x i o) := hops
  have HZ : Hid (z1.length = len1) := hzl
  clear hops hzl
  obtain ⟨M, hM⟩ : ∃ M : Int, M = max 0 (min a0 1000) := ⟨_, rfl⟩
  have hM0 : 0 ≤ M := by omega
  have hM1 : M ≤ 1000 := by omega
  have HR : Hid (HP.roomV a0 = M) := hM.symm
  have HR2 : Hid (RH.roomV a0 = M) := hM.symm
  clear hM
  go_enter Try.func5, Try.ntmps5
  go_wp2_with fail
  refine (begun2_any _).mono ?_
  rintro e W ⟨rfl, g0⟩
  have M0 : Hid (Few w [] W) := (Few.start w).below g0
  clear g0
  go_wp2_with fail
  refine (LI.l_new a0 W b1 b2).mono ?_
  rintro e w1 ⟨B, F0, rfl, h1, q1, g1⟩
  rw [HR.out] at h1
  have M1 : Hid (Few w [(F0, LI.LinesF F0 B M 0 [])] w1) := M0.out.add g1 h1 h1.lt q1 LI.LinesF.keeps
  clear M0 g1 h1 q1
  go_wp2_with fail
  refine (RH.new_any a0 w1 b1 b2).mono ?_
  rintro e w2 ⟨rfl, h2, g2⟩
  rw [HR2.out] at h2
  have M2 : Hid (Few w [(F0, LI.LinesF F0 B M 0 []), (foot w1.heap.size (.slice none 0 0), fun u => RH.Refs u w1.heap.size M (.slice none 0 0) [])] w2) := M1.out.add g2 h2 h2.foot_lt h2.foot_ge RH.keeps
  clear M1 g2 h2
  obtain ⟨C, hC⟩ : ∃ C, C = w1.heap.size := ⟨_, rfl⟩
  rw [← hC]
  rw [← hC] at M2
  clear hC
  go_wp2
  go_loopg [8] 60 (fun gk s8 wr => ∃ (k : Nat) (l : List (Ent Int)) (p : Int) (f : List Nat) (v2 : Value), k ≤ len1 ∧ gk + k = 60 ∧ s8 = .int .i64 k ∧ 0 ≤ p ∧ p ≤ k ∧ Few w [(f, LI.LinesF f B M p l), (foot C v2, fun u => RH.Refs u C M v2 l)] wr)
  case atStart => exact ⟨0, [], 0, _, _, by omega, by omega, rfl, by omega, by omega, M2.out⟩
  case round =>
    clear M2
    skip
    obtain ⟨k, l, p, f, v2, hk, hgk, rfl, hp0, hpk, M2⟩ := hrel
    have HM : Hid (Few w [(f, LI.LinesF f B M p l), (foot C v2, fun u => RH.Refs u C M v2 l)] wr) := M2
    clear M2
    by_cases hkl : k < len1
    · have hkl' : (k : Int) < (len1 : Int) := by omega
      by_cases hk60 : k < 60
      · have hk60' : (k : Int) < 60 := by omega
        obtain ⟨o, ho⟩ : ∃ o, z1[k]? = some o := ⟨_, List.getElem?_eq_getElem (by rw [HZ.out]; exact hkl)⟩
        obtain ⟨x, rfl, hxb, hop⟩ := HO.out k o ho
        obtain ⟨kd, ov, oa, ob⟩ := o
        obtain ⟨y, hy, c0, c1, c2, c3, iv, ia, ib⟩ := op_here hop hxb HM.out.bel
        simp only at c0 c1 c2 c3 iv ia ib
        have HY : Hid (x.add (k * 4) = y) := hy
        clear hop ho
        go_upto_region 9 with fail
        have MA : Hid (Few w [(f, LI.LinesF f B M p l), (foot C v2, fun u => RH.Refs u C M v2 l), ([wr.heap.size], OpAt wr.heap.size ⟨kd, ov, oa, ob⟩)] (wr.alloc (.cells #[.int .i64 kd, .int .i64 ov, .int .i64 oa, .int .i64 ob] 29))) := HM.out.add ((Below.refl _ _).alloc (Nat.le_refl _) _) (heap_alloc_new _ _) (by simp) (by simp) OpAt.keeps
        obtain ⟨P, hP⟩ : ∃ P, P = wr.heap.size := ⟨_, rfl⟩
        rw [← hP] at MA ⊢
        clear hP HM c0 c1 c2 c3 hy
        generalize wr.alloc (.cells #[.int .i64 kd, .int .i64 ov, .int .i64 oa, .int .i64 ob] 29) = wa at MA ⊢
        obtain ⟨d0, d1, d2, d3⟩ := OpAt.cells (MA.out.holds 2)
        simp only at d0 d1 d2 d3
        go_upto_block 2 with fail
        go_cut [] (fun wd => ∃ (l : List (Ent Int)) (p : Int) (f : List Nat) (v2 : Value), 0 ≤ p ∧ p ≤ k + 1 ∧ Few w [(f, LI.LinesF f B M p l), (foot C v2, fun u => RH.Refs u C M v2 l)] wd)
        case first =>
          have HIT : Hid (Items l p) := LI.LinesF.items (MA.out.holds 0)
          obtain ⟨hle, -, -⟩ := LI.LinesF.few (MA.out.holds 0)
          by_cases k0 : kd = 0
          · subst k0
            rcases RH.isIn l ov with hin | hno
            · as_aux_lemma =>
              have HN : Hid (∃ y ∈ l, y.v = ov) := hin
              have HLL : Hid ((less l ov).length + 1 = l.length) := less_length HIT.out hin
              clear hin
              go_wp2_with fail
              go_region_held3 (fun w' => w'.cell? ⟨P, 1, none⟩ = some (.int .i64 ov) ∧ w'.cell? ⟨P, 2, none⟩ = some (.int .i64 oa)) (first | exact ⟨d1, d2⟩ | go_keep | exact ⟨e1, e2⟩ | exact ⟨f1, f2⟩)
                (first
                  | (go_at_call 30; refine (LI.l_put_in ov oa _ ((MA.out.below ((Below.refl _ _).drew)).holds 0) HN.out hp0 (by omega)).mono ?_; rintro e w2 ⟨fn, rfl, h2, o2, q2⟩; have M2 : Hid (Few w [(fn, LI.LinesF fn B M (p + 1) (less l ov ++ [⟨ov, oa, 0, p + 1⟩])), (foot C v2, fun u => RH.Refs u C M v2 l), ([P], OpAt P ⟨0, ov, oa, ob⟩)] w2) := LI.few_line (MA.out.below ((Below.refl _ _).drew)) 0 rfl h2 o2 q2; obtain ⟨_, e1, e2, e3⟩ := OpAt.cells (M2.out.holds 2); simp only at e1 e2 e3; clear h2 o2 q2 MA)
                  | (go_at_call 12; refine (RH.put_in ov oa 0 (p + 1) _ (M2.out.holds 1) HIT.out HN.out (by have := HLL.out; omega)).mono ?_; rintro e w3 ⟨v3, rfl, h3, o3, q3⟩; have M3 : Hid (Few w [(fn, LI.LinesF fn B M (p + 1) (less l ov ++ [⟨ov, oa, 0, p + 1⟩])), (foot C v3, fun u => RH.Refs u C M v3 (less l ov ++ [⟨ov, oa, 0, p + 1⟩])), ([P], OpAt P ⟨0, ov, oa, ob⟩)] w3) := RH.few_ref M2.out 1 rfl h3 o3 q3; obtain ⟨_, f1, f2, f3⟩ := OpAt.cells (M3.out.holds 2); simp only at f1 f2 f3; clear h3 o3 q3 M2))
              go_wp2
              go_meet
              exact ⟨_, p + 1, _, v3, by omega, by omega, Few.less (l := [_, _]) M3.out⟩
            · rcases (by omega : M ≤ (l.length : Int) ∨ (l.length : Int) < M) with hroom | hroom
              · as_aux_lemma =>
                have HN : Hid (∀ y ∈ l, y.v ≠ ov) := hno
                clear hno
                go_wp2_with fail
                go_region_held3 (fun w' => w'.cell? ⟨P, 1, none⟩ = some (.int .i64 ov) ∧ w'.cell? ⟨P, 2, none⟩ = some (.int .i64 oa)) (first | exact ⟨d1, d2⟩ | go_keep | exact ⟨e1, e2⟩ | exact ⟨f1, f2⟩)
                  (first
                    | (go_at_call 30; refine (LI.l_put_full ov oa _ ((MA.out.below ((Below.refl _ _).drew)).holds 0) HN.out hroom).mono ?_; rintro e w2 ⟨rfl, g2⟩; have M2 : Hid (Few w [(f, LI.LinesF f B M p l), (foot C v2, fun u => RH.Refs u C M v2 l), ([P], OpAt P ⟨0, ov, oa, ob⟩)] w2) := (MA.out.below ((Below.refl _ _).drew)).below g2; obtain ⟨_, e1, e2, e3⟩ := OpAt.cells (M2.out.holds 2); simp only at e1 e2 e3; clear g2 MA)
                    | (go_at_call 12; refine (RH.put_full ov oa 0 _ (M2.out.holds 1) HN.out hroom).mono ?_; rintro e w3 ⟨rfl, g3⟩; have M3 : Hid (Few w [(f, LI.LinesF f B M p l), (foot C v2, fun u => RH.Refs u C M v2 l), ([P], OpAt P ⟨0, ov, oa, ob⟩)] w3) := M2.out.below g3; obtain ⟨_, f1, f2, f3⟩ := OpAt.cells (M3.out.holds 2); simp only at f1 f2 f3; clear g3 M2))
                go_wp2
                go_meet
                exact ⟨l, p, f, v2, by omega, by omega, Few.less (l := [_, _]) M3.out⟩
              · as_aux_lemma =>
                have HN : Hid (∀ y ∈ l, y.v ≠ ov) := hno
                clear hno
                go_wp2_with fail
                go_region_held3 (fun w' => w'.cell? ⟨P, 1, none⟩ = some (.int .i64 ov) ∧ w'.cell? ⟨P, 2, none⟩ = some (.int .i64 oa)) (first | exact ⟨d1, d2⟩ | go_keep | exact ⟨e1, e2⟩ | exact ⟨f1, f2⟩)
                  (first
                    | (go_at_call 30; refine (LI.l_put_new ov oa _ ((MA.out.below ((Below.refl _ _).drew)).holds 0) HN.out (by omega) hp0 (by omega)).mono ?_; rintro e w2 ⟨fn, rfl, h2, o2, q2⟩; have M2 : Hid (Few w [(fn, LI.LinesF fn B M (p + 1) (l ++ [⟨ov, oa, 0, p + 1⟩])), (foot C v2, fun u => RH.Refs u C M v2 l), ([P], OpAt P ⟨0, ov, oa, ob⟩)] w2) := LI.few_line (MA.out.below ((Below.refl _ _).drew)) 0 rfl h2 o2 q2; obtain ⟨_, e1, e2, e3⟩ := OpAt.cells (M2.out.holds 2); simp only at e1 e2 e3; clear h2 o2 q2 MA)
                    | (go_at_call 12; refine (RH.put_new ov oa 0 (p + 1) _ (M2.out.holds 1) HN.out (by omega) (by omega)).mono ?_; rintro e w3 ⟨v4, rfl, h3, o3, q3⟩; have M3 : Hid (Few w [(fn, LI.LinesF fn B M (p + 1) (l ++ [⟨ov, oa, 0, p + 1⟩])), (foot C v4, fun u => RH.Refs u C M v4 (l ++ [⟨ov, oa, 0, p + 1⟩])), ([P], OpAt P ⟨0, ov, oa, ob⟩)] w3) := RH.few_ref M2.out 1 rfl h3 o3 q3; obtain ⟨_, f1, f2, f3⟩ := OpAt.cells (M3.out.holds 2); simp only at f1 f2 f3; clear h3 o3 q3 M2))
                go_wp2
                go_meet
                exact ⟨_, p + 1, fn, v4, by omega, by omega, Few.less (l := [_, _]) M3.out⟩
          · by_cases k2 : kd = 2
            · subst k2
              rcases RH.isIn l ov with hin | hno
              · as_aux_lemma =>
                have HN : Hid (∃ y ∈ l, y.v = ov) := hin
                clear hin
                go_wp2_with fail
                go_region_held3 (fun w' => w'.cell? ⟨P, 1, none⟩ = some (.int .i64 ov)) (first | exact d1 | go_keep | exact e1 | exact f1)
                  (first
                    | (go_at_call 31; refine (LI.l_drop_in ov _ ((MA.out.below ((Below.refl _ _).drew)).holds 0) HN.out).mono ?_; rintro e w2 ⟨fn, rfl, h2, o2, q2⟩; have M2 : Hid (Few w [(fn, LI.LinesF fn B M p (less l ov)), (foot C v2, fun u => RH.Refs u C M v2 l), ([P], OpAt P ⟨2, ov, oa, ob⟩)] w2) := LI.few_line (MA.out.below ((Below.refl _ _).drew)) 0 rfl h2 o2 q2; obtain ⟨_, e1, e2, e3⟩ := OpAt.cells (M2.out.holds 2); simp only at e1 e2 e3; clear h2 o2 q2 MA)
                    | (go_at_call 16; refine (RH.drop_in ov _ (M2.out.holds 1) HIT.out HN.out).mono ?_; rintro e w3 ⟨v4, rfl, h3, o3, q3⟩; have M3 : Hid (Few w [(fn, LI.LinesF fn B M p (less l ov)), (foot C v4, fun u => RH.Refs u C M v4 (less l ov)), ([P], OpAt P ⟨2, ov, oa, ob⟩)] w3) := RH.few_ref M2.out 1 rfl h3 o3 q3; obtain ⟨_, f1, f2, f3⟩ := OpAt.cells (M3.out.holds 2); simp only at f1 f2 f3; clear h3 o3 q3 M2))
                go_wp2
                go_meet
                exact ⟨_, p, fn, v4, by omega, by omega, Few.less (l := [_, _]) M3.out⟩
              · as_aux_lemma =>
                have HN : Hid (∀ y ∈ l, y.v ≠ ov) := hno
                clear hno
                go_wp2_with fail
                go_region_held3 (fun w' => w'.cell? ⟨P, 1, none⟩ = some (.int .i64 ov)) (first | exact d1 | go_keep | exact e1 | exact f1)
                  (first
                    | (go_at_call 31; refine (LI.l_drop_none ov _ ((MA.out.below ((Below.refl _ _).drew)).holds 0) HN.out).mono ?_; rintro e w2 ⟨rfl, g2⟩; have M2 : Hid (Few w [(f, LI.LinesF f B M p l), (foot C v2, fun u => RH.Refs u C M v2 l), ([P], OpAt P ⟨2, ov, oa, ob⟩)] w2) := (MA.out.below ((Below.refl _ _).drew)).below g2; obtain ⟨_, e1, e2, e3⟩ := OpAt.cells (M2.out.holds 2); simp only at e1 e2 e3; clear g2 MA)
                    | (go_at_call 16; refine (RH.drop_none ov _ (M2.out.holds 1) HN.out).mono ?_; rintro e w3 ⟨rfl, g3⟩; have M3 : Hid (Few w [(f, LI.LinesF f B M p l), (foot C v2, fun u => RH.Refs u C M v2 l), ([P], OpAt P ⟨2, ov, oa, ob⟩)] w3) := M2.out.below g3; obtain ⟨_, f1, f2, f3⟩ := OpAt.cells (M3.out.holds 2); simp only at f1 f2 f3; clear g3 M2))
                go_wp2
                go_meet
                exact ⟨l, p, f, v2, by omega, by omega, Few.less (l := [_, _]) M3.out⟩
            · as_aux_lemma =>
              go_wp2_with fail
              refine (LI.l_due oa wa (MA.out.holds 0)).mono ?_
              rintro e w2 ⟨dv, fn, l', gs, rfl, own, h2, hst, hend, o2, q2⟩
              obtain ⟨Q, hQ⟩ : ∃ Q, Q = wa.heap.size := ⟨_, rfl⟩
              obtain ⟨ad, cap, rfl, hn⟩ := LI.rowForm own
              have M2 := LI.few_dues MA.out 0 rfl h2 o2 q2 own
              rw [← hQ] at M2
              obtain ⟨n, hgn⟩ : ∃ n, gs.length = n := ⟨_, rfl⟩
              rw [hgn] at M2 hn ⊢
              have HGN : Hid (gs.length = n) := hgn
              have MB : Hid (Few w [(fn, LI.LinesF fn B M p l'), (foot C v2, fun u => RH.Refs u C M v2 l), ([P], OpAt P ⟨kd, ov, oa, ob⟩), ((Value.slice ad n cap).ownBlock.toList, fun u => u.ownsRow Q 3 1 (.slice ad n cap) n (gs.map mkI))] w2) := M2
              have HST : Hid (LI.Steps oa l gs l') := hst
              have HEND : Hid (∀ x, IsFirst l' x → oa < x.a) := hend
              clear MA M2 own h2 hst hend o2 q2 hQ hgn d0 d1 d2 d3
              go_wp2
              go_loopg [11] n (fun gk s11 wr => ∃ (j : Nat) (lj : List (Ent Int)) (v2 : Value), gk + j = n ∧ s11 = .int .i64 j ∧ LI.Steps oa lj (gs.drop j) l' ∧ Items lj p ∧ Few w [(fn, LI.LinesF fn B M p l'), (foot C v2, fun u => RH.Refs u C M v2 lj), ([P], OpAt P ⟨kd, ov, oa, ob⟩), ((Value.slice ad n cap).ownBlock.toList, fun u => u.ownsRow Q 3 1 (.slice ad n cap) n (gs.map mkI))] wr)
              case atStart => exact ⟨0, l, v2, by omega, rfl, HST.out, HIT.out, MB.out⟩
              case round =>
                clear MB HST HIT
                obtain ⟨j, lj, v3, hj, rfl, hst, hit, M3⟩ := hrel
                have HIT : Hid (Items lj p) := hit
                have MC : Hid (Few w [(fn, LI.LinesF fn B M p l'), (foot C v3, fun u => RH.Refs u C M v3 lj), ([P], OpAt P ⟨kd, ov, oa, ob⟩), ((Value.slice ad n cap).ownBlock.toList, fun u => u.ownsRow Q 3 1 (.slice ad n cap) n (gs.map mkI))] wr) := M3
                have HST : Hid (LI.Steps oa lj (gs.drop j) l') := hst
                clear hit M3 hst
                by_cases hjn : j < n
                · have hjn' : (j : Int) < (n : Int) := by omega
                  obtain ⟨y, hy⟩ : ∃ y, gs[j]? = some y := ⟨_, List.getElem?_eq_getElem (by rw [HGN.out]; exact hjn)⟩
                  obtain ⟨x, hx, hxy, hxa, hst⟩ := HST.out.next hy
                  obtain ⟨g, rfl, -⟩ := LI.rowCell (j := j) (u := .int .i64 y) (MC.out.holds 3) (by simp [hy, mkI]) (by rw [List.length_map]; exact HGN.out)
                  obtain ⟨xv, hxv⟩ : ∃ z, x.v = z := ⟨_, rfl⟩
                  obtain ⟨xa, hxa2⟩ : ∃ z, x.a = z := ⟨_, rfl⟩
                  obtain ⟨xb, hxb2⟩ : ∃ z, x.b = z := ⟨_, rfl⟩
                  have HX : Hid (IsFirst lj x) := hx
                  have HXV : Hid (x.v = xv) := hxv
                  have HGJ : Hid (gs[j]? = some xv) := by show _ = _; rw [hy, ← hxy, hxv]
                  have HS2 : Hid (LI.Steps oa (less lj xv) (gs.drop (j + 1)) l') := by rw [← hxv]; exact hst
                  rw [hxa2] at hxa
                  have CT1 : Hid (∀ u, RH.Refs u C M v3 lj → Calls Try.prog 20 #[.pointer (some ⟨C, 0, none⟩)] u fun e w' => e = .returned (.tuple #[.int .i64 xv, .bool true]) ∧ Below u.heap.size u w') := fun u h => hxv ▸ RH.top_this u h HIT.out hx
                  have CT2 : Hid (∀ u, RH.Refs u C M v3 lj → Calls Try.prog 18 #[.pointer (some ⟨C, 0, none⟩), .int .i64 xv] u fun e w' => e = .returned (.tuple #[.int .i64 xa, .int .i64 xb, .bool true]) ∧ Below u.heap.size u w') := fun u h => hxv ▸ hxa2 ▸ hxb2 ▸ RH.key_some x u h HIT.out hx.1
                  have CT3 : Hid (∀ u, RH.Refs u C M v3 lj → Calls Try.prog 14 #[.pointer (some ⟨C, 0, none⟩)] u fun e w' => ∃ v', e = .returned (.tuple #[.int .i64 xv, .bool true]) ∧ RH.Refs w' C M v' (less lj xv) ∧ Only (foot C v3) u w' ∧ ∀ k ∈ foot C v', k ∈ foot C v3 ∨ u.heap.size ≤ k) := fun u h => hxv ▸ RH.take_this u h HIT.out hx
                  have HI2 : Hid (Items (less lj xv) p) := HIT.out.less xv
                  clear hy hx hxy hst hxv hxa2 hxb2
                  go_wp2_with fail
                  refine (CT1.out wr (MC.out.holds 1)).mono ?_
                  rintro e w4 ⟨rfl, g4⟩
                  have MD : Hid (Few w [(fn, LI.LinesF fn B M p l'), (foot C v3, fun u => RH.Refs u C M v3 lj), ([P], OpAt P ⟨kd, ov, oa, ob⟩), ((Value.slice (some ⟨g, 0, none⟩) n cap).ownBlock.toList, fun u => u.ownsRow Q 3 1 (.slice (some ⟨g, 0, none⟩) n cap) n (gs.map mkI))] w4) := MC.out.below g4
                  clear MC g4 CT1
                  go_wp2_with fail
                  refine (CT2.out w4 (MD.out.holds 1)).mono ?_
                  rintro e w5 ⟨rfl, g5⟩
                  have ME : Hid (Few w [(fn, LI.LinesF fn B M p l'), (foot C v3, fun u => RH.Refs u C M v3 lj), ([P], OpAt P ⟨kd, ov, oa, ob⟩), ((Value.slice (some ⟨g, 0, none⟩) n cap).ownBlock.toList, fun u => u.ownsRow Q 3 1 (.slice (some ⟨g, 0, none⟩) n cap) n (gs.map mkI))] w5) := MD.out.below g5
                  clear MD g5 CT2
                  obtain ⟨_, e1, e2, e3⟩ := OpAt.cells (ME.out.holds 2)
                  simp only at e1 e2 e3
                  obtain ⟨g', hg', er⟩ := LI.rowCell (j := j) (u := .int .i64 xv) (ME.out.holds 3) (by simp [HGJ.out, mkI]) (by rw [List.length_map]; exact HGN.out)
                  simp only [Option.some.injEq, Addr.mk.injEq, and_true] at hg'
                  subst hg'
                  go_wp2_with fail
                  refine (CT3.out w5 (ME.out.holds 1)).mono ?_
                  rintro e w6 ⟨v4, rfl, h6, o6, q6⟩
                  have MF : Hid (Few w [(fn, LI.LinesF fn B M p l'), (foot C v4, fun u => RH.Refs u C M v4 (less lj xv)), ([P], OpAt P ⟨kd, ov, oa, ob⟩), ((Value.slice (some ⟨g, 0, none⟩) n cap).ownBlock.toList, fun u => u.ownsRow Q 3 1 (.slice (some ⟨g, 0, none⟩) n cap) n (gs.map mkI))] w6) := RH.few_ref ME.out 1 rfl h6 o6 q6
                  clear ME h6 o6 q6 CT3 e1 e2 e3 er
                  go_wp2
                  go_roundg (n - (j + 1))
                  case measure => omega
                  case rel => exact ⟨j + 1, less lj xv, v4, by omega, by go_num, HS2.out, HI2.out, MF.out⟩
                · obtain rfl : n = j := by omega
                  have hlj : l' = lj := by
                    have h1 := HST.out
                    rw [List.drop_of_length_le (by rw [HGN.out]; exact Nat.le_refl _)] at h1
                    exact h1.done
                  subst hlj
                  obtain ⟨_, e1, e2, e3⟩ := OpAt.cells (MC.out.holds 2)
                  simp only at e1 e2 e3
                  cases l' with
                  | nil =>
                    go_wp2_with fail
                    refine (RH.top_none wr (MC.out.holds 1)).mono ?_
                    rintro e w4 ⟨rfl, g4⟩
                    have MD := MC.out.below g4
                    have MD' : Hid (Few w [(fn, LI.LinesF fn B M p []), (foot C v3, fun u => RH.Refs u C M v3 [])] w4) := Few.less (l := [_, _]) (Few.less (l := [_, _, _]) MD)
                    clear MC g4 MD
                    go_wp2
                    go_meet
                    exact ⟨[], p, fn, v3, by omega, by omega, MD'.out⟩
                  | cons z l2 =>
                    obtain ⟨x, hx⟩ : ∃ x, IsFirst (z :: l2) x := RH.has_first (MC.out.holds 1) HIT.out (by simp)
                    have hxe := HEND.out x hx
                    obtain ⟨xv, hxv⟩ : ∃ z, x.v = z := ⟨_, rfl⟩
                    obtain ⟨xa, hxa2⟩ : ∃ z, x.a = z := ⟨_, rfl⟩
                    obtain ⟨xb, hxb2⟩ : ∃ z, x.b = z := ⟨_, rfl⟩
                    rw [hxa2] at hxe
                    have CT1 : Hid (∀ u, RH.Refs u C M v3 (z :: l2) → Calls Try.prog 20 #[.pointer (some ⟨C, 0, none⟩)] u fun e w' => e = .returned (.tuple #[.int .i64 xv, .bool true]) ∧ Below u.heap.size u w') := fun u h => hxv ▸ RH.top_this u h HIT.out hx
                    have CT2 : Hid (∀ u, RH.Refs u C M v3 (z :: l2) → Calls Try.prog 18 #[.pointer (some ⟨C, 0, none⟩), .int .i64 xv] u fun e w' => e = .returned (.tuple #[.int .i64 xa, .int .i64 xb, .bool true]) ∧ Below u.heap.size u w') := fun u h => hxv ▸ hxa2 ▸ hxb2 ▸ RH.key_some x u h HIT.out hx.1
                    clear hx hxv hxa2 hxb2
                    go_wp2_with fail
                    refine (CT1.out wr (MC.out.holds 1)).mono ?_
                    rintro e w4 ⟨rfl, g4⟩
                    have MD : Hid (Few w [(fn, LI.LinesF fn B M p (z :: l2)), (foot C v3, fun u => RH.Refs u C M v3 (z :: l2)), ([P], OpAt P ⟨kd, ov, oa, ob⟩), ((Value.slice ad n cap).ownBlock.toList, fun u => u.ownsRow Q 3 1 (.slice ad n cap) n (gs.map mkI))] w4) := MC.out.below g4
                    clear MC g4 CT1 e1 e2 e3
                    go_wp2_with fail
                    refine (CT2.out w4 (MD.out.holds 1)).mono ?_
                    rintro e w5 ⟨rfl, g5⟩
                    have ME := MD.out.below g5
                    have ME' : Hid (Few w [(fn, LI.LinesF fn B M p (z :: l2)), (foot C v3, fun u => RH.Refs u C M v3 (z :: l2))] w5) := Few.less (l := [_, _]) (Few.less (l := [_, _, _]) ME)
                    obtain ⟨_, e1, e2, e3⟩ := OpAt.cells (ME.holds 2)
                    simp only at e1 e2 e3
                    clear MD g5 CT2 ME
                    have q1 : ¬ xa ≤ oa := by omega
                    go_wp2
                    go_meet
                    exact ⟨z :: l2, p, fn, v3, by omega, by omega, ME'.out⟩
        case rest =>
          as_aux_lemma =>
          clear MA d0 d1 d2 d3 hp0 hpk
          obtain ⟨l2, p2, f2, v4, hp0, hpk, M2⟩ := hcut
          have HM : Hid (Few w [(f2, LI.LinesF f2 B M p2 l2), (foot C v4, fun u => RH.Refs u C M v4 l2)] wc) := M2
          clear M2
          cases l2 with
          | nil =>
            go_wp2_with fail
            refine (LI.l_next_none wc (HM.out.holds 0)).mono ?_
            rintro e w3 ⟨rfl, g3⟩
            have M3 : Hid (Few w [(f2, LI.LinesF f2 B M p2 []), (foot C v4, fun u => RH.Refs u C M v4 [])] w3) := HM.out.below g3
            clear HM g3
            go_wp2_with fail
            refine (RH.top_none w3 (M3.out.holds 1)).mono ?_
            rintro e w4 ⟨rfl, g4⟩
            have M4 : Hid (Few w [(f2, LI.LinesF f2 B M p2 []), (foot C v4, fun u => RH.Refs u C M v4 [])] w4) := M3.out.below g4
            clear M3 g4
            go_wp2_with fail
            refine (RH.key_none 0 w4 (M4.out.holds 1) (by simp)).mono ?_
            rintro e w5 ⟨rfl, g5⟩
            have M5 : Hid (Few w [(f2, LI.LinesF f2 B M p2 []), (foot C v4, fun u => RH.Refs u C M v4 [])] w5) := M4.out.below g5
            clear M4 g5
            have c1 : w5.cell? ⟨C, 1, none⟩ = some v4 := RH.Refs.c1 (M5.out.holds 1)
            obtain ⟨a4, cap4, hv4⟩ : ∃ a cap, v4 = .slice a ([] : List (Ent Int)).length cap := RH.Refs.slice (M5.out.holds 1)
            subst hv4
            simp only [List.length_nil] at c1
            have CL : Hid (∀ u, LI.LinesF f2 B M p2 [] u → Calls Try.prog 34 #[.pointer (some ⟨B, 0, none⟩)] u fun e w' => e = .returned (.int .i64 (0 : Nat)) ∧ w' = u) := fun u h => LI.l_len u h
            go_wp2
            go_big_quiet (first | (go_at_call 34; refine Calls.quiet_of_same (CL.out _ ((M5.out.below (below_drewN _ _)).holds 0))))
            go_wp2
            go_roundg (59 - k)
            case measure => omega
            case rel => exact ⟨k + 1, [], p2, f2, _, by omega, by omega, by go_num, hp0, by omega, M5.out.below (below_drewN _ _)⟩
          | cons z l =>
            have HIT : Hid (Items (z :: l) p2) := LI.LinesF.items (HM.out.holds 0)
            obtain ⟨hle, -, -⟩ := LI.LinesF.few (HM.out.holds 0)
            obtain ⟨x, hx⟩ : ∃ x, IsFirst (z :: l) x := RH.has_first (HM.out.holds 1) HIT.out (by simp)
            obtain ⟨xv, hxv⟩ : ∃ z, x.v = z := ⟨_, rfl⟩
            obtain ⟨xa, hxa2⟩ : ∃ z, x.a = z := ⟨_, rfl⟩
            obtain ⟨xb, hxb2⟩ : ∃ z, x.b = z := ⟨_, rfl⟩
            have CT0 : Hid (∀ u, LI.LinesF f2 B M p2 (z :: l) u → Calls Try.prog 33 #[.pointer (some ⟨B, 0, none⟩)] u fun e w' => e = .returned (.tuple #[.int .i64 xa, .bool true]) ∧ Below u.heap.size u w') := fun u h => (LI.l_next u h (by simp)).mono fun e w' ⟨y, hy, he, g⟩ => by
              have := IsFirst.uniq HIT.out hx hy
              subst this
              exact ⟨by rw [he, hxa2], g⟩
            have CT1 : Hid (∀ u, RH.Refs u C M v4 (z :: l) → Calls Try.prog 20 #[.pointer (some ⟨C, 0, none⟩)] u fun e w' => e = .returned (.tuple #[.int .i64 xv, .bool true]) ∧ Below u.heap.size u w') := fun u h => hxv ▸ RH.top_this u h HIT.out hx
            have CT2 : Hid (∀ u, RH.Refs u C M v4 (z :: l) → Calls Try.prog 18 #[.pointer (some ⟨C, 0, none⟩), .int .i64 xv] u fun e w' => e = .returned (.tuple #[.int .i64 xa, .int .i64 xb, .bool true]) ∧ Below u.heap.size u w') := fun u h => hxv ▸ hxa2 ▸ hxb2 ▸ RH.key_some x u h HIT.out hx.1
            clear hx hxv hxa2 hxb2
            go_wp2_with fail
            refine (CT0.out wc (HM.out.holds 0)).mono ?_
            rintro e w3 ⟨rfl, g3⟩
            have M3 : Hid (Few w [(f2, LI.LinesF f2 B M p2 (z :: l)), (foot C v4, fun u => RH.Refs u C M v4 (z :: l))] w3) := HM.out.below g3
            clear HM g3 CT0
            go_wp2_with fail
            refine (CT1.out w3 (M3.out.holds 1)).mono ?_
            rintro e w4 ⟨rfl, g4⟩
            have M4 : Hid (Few w [(f2, LI.LinesF f2 B M p2 (z :: l)), (foot C v4, fun u => RH.Refs u C M v4 (z :: l))] w4) := M3.out.below g4
            clear M3 g4 CT1
            go_wp2_with fail
            refine (CT2.out w4 (M4.out.holds 1)).mono ?_
            rintro e w5 ⟨rfl, g5⟩
            have M5 : Hid (Few w [(f2, LI.LinesF f2 B M p2 (z :: l)), (foot C v4, fun u => RH.Refs u C M v4 (z :: l))] w5) := M4.out.below g5
            clear M4 g5 CT2
            obtain ⟨n, hn⟩ : ∃ n, (z :: l).length = n := ⟨_, rfl⟩
            have c1 : w5.cell? ⟨C, 1, none⟩ = some v4 := RH.Refs.c1 (M5.out.holds 1)
            obtain ⟨a4, cap4, hv4⟩ : ∃ a cap, v4 = .slice a (z :: l).length cap := RH.Refs.slice (M5.out.holds 1)
            subst hv4
            have CL : Hid (∀ u, LI.LinesF f2 B M p2 (z :: l) u → Calls Try.prog 34 #[.pointer (some ⟨B, 0, none⟩)] u fun e w' => e = .returned (.int .i64 n) ∧ w' = u) := fun u h => hn ▸ LI.l_len u h
            rw [hn] at c1 hle
            have HNN : Hid ((z :: l).length = n) := hn
            clear hn
            have q1 : (xa != xa) = false := by simp
            have q2 : decide (xa = xa) = true := by simp
            go_wp2
            go_big_quiet (first | (go_at_call 34; refine Calls.quiet_of_same (CL.out _ ((M5.out.below (below_drewN _ _)).holds 0))))
            go_wp2
            go_roundg (59 - k)
            case measure => omega
            case rel => exact ⟨k + 1, z :: l, p2, f2, _, by omega, by omega, by go_num, hp0, by omega, M5.out.below (below_drewN _ _)⟩
      · go_wp2
        go_ret
        exact ⟨rfl, HM.out.bel⟩
    · go_wp2
      go_ret
      exact ⟨rfl, HM.out.bel⟩

set_option maxRecDepth 100000 in
theorem lifted (os : Os) (started : os.Started) (H : Type) (enc : TypeId × Value → H) :
    ReturnsInHanded {} Try.checked os 5 .any (Rows.lineAllSpec.pre6 enc Try.prog Try.f5 Rows.lineAllRow.domain false) (Rows.lineAllSpec.post enc Try.prog Try.f5 false true false false) := by
  refine returnsInHanded_of_change (C := Try.checked) own started (by kernel_rfl) Try.func5
    (ChangeSpec.witness6 (enc := enc) (C := Try.checked) false ⟨#[], #[.int .i64 0, .slice none 0 0], []⟩ 8 (by kernel_rfl) (by kernel_rfl) (by kernel_rfl) (by kernel_rfl)) ?_
  intro W base args ds gs before hval0 hW hcnd _
  have hval : ∀ (j : Nat) t v, Try.f5.params[j]? = some t → args[j]? = some v → Value.okWide Try.prog W .any base t v := hval0
  have hW' := hW
  obtain ⟨p, q, hA0, hV, rfl, hfz, hnd⟩ := hW
  have hA : DataW.TrodAll enc Try.prog W 0 (fun _ => true) true Try.f5.params.toList args.toList ds p := hA0
  rw [Try.params5] at hA hval
  obtain ⟨v0, vs0, d0, ds0, p0, q0, hargs, rfl, rfl, h0, r0⟩ := trodAll_cons hA
  obtain ⟨v1, vs1, d1, ds1, p1, q1, rfl, rfl, rfl, h1, r1⟩ := trodAll_cons r0
  obtain ⟨rfl, rfl, rfl⟩ := trodAll_nil r1
  obtain rfl : args = #[v0, v1] := by cases args; simp_all
  obtain ⟨rfl, rfl⟩ := trodVars_none hV
  obtain ⟨a0, rfl, rfl, rfl, w0⟩ := open_int Try.underlying3 (hval 0 3 v0 rfl rfl) h0
  obtain ⟨a1, len1, cap1, rfl⟩ := okWide_slice Try.underlying22 (hval 1 22 v1 rfl rfl)
  have k1 := h1
  have lt1 : ∀ x ∈ p1, x.block < W.heap.size := by obtain ⟨m, hm⟩ := k1; exact DataW.trod_lt m _ _ _ hm
  obtain ⟨z1, w1⟩ := (by obtain ⟨fuel, hf⟩ := h1; exact open_ops hf : ∃ zs, IsOps W a1 len1 zs)
  clear hA0 hval0
  refine (walk a0 a1 len1 cap1 z1 W w0 w1).mono fun e W' ⟨he, bel⟩ => ?_
  subst he
  exact ⟨_, rfl, _, _, _, [], _, [], hW', trodAll_mk1 (shut_bool Try.underlying4 _), (trodAll_cons_mk (shut_int Try.underlying3 w0) (trodAll_cons_mk (Below.trod laidOut (by kernel_rfl) (of_decide_eq_true (by kernel_rfl)) k1 bel lt1) trodAll_mk0)), rfl, bel.frame _, fun h => by cases h⟩

theorem over : Rows.lineAllRow.holds Try.pinned (OpenSpec.ofChange Rows.lineAllSpec) :=
  OpenClaim.holds_of_wide 5 Try.f5 rfl rfl rfl rfl rfl rfl rfl ⟨rfl, rfl, rfl, rfl, rfl⟩ rfl rfl rfl rfl rfl (by kernel_rfl) Try.func5 (by kernel_rfl)
    (of_decide_eq_true (by kernel_rfl)) (by unfold Func.isWrapper; first | (rw [if_pos (by decide +kernel)]; kernel_rfl) | (rw [if_neg (by decide +kernel)]; exact ⟨rfl, rfl⟩))
    (fun os started H enc _ => lifted os started H enc)

theorem proved : Rows.LineAllSaid := over
end Go.Proofs.Ytbfbijfedamgaaa.lineAll
