/-
PROVED: the statement hortatorlaw2.BoxAll answers true over the landed packages: boxes: put and taken without waiting; of two the first one's goes first.
  CONDITIONS: none beside the row's own.
-/
import Derived.Test.YtbfbijfedamgaaaRows
import Derived.WalkKit
import Derived.ProofKit
import Derived.OpenShut
import Derived.ShutString
import Derived.ChangeOld
import Derived.Below
import Derived.Test.YtbfbijfedamgaaaArgs
import Derived.Test.YtbfbijfedamgaaaBegun
import Derived.Test.YtbfbijfedamgaaaBoxMoreI
import Derived.Test.YtbfbijfedamgaaaRuns
import Derived.Test.YtbfbijfedamgaaaArgsMore
namespace Go.Proofs.Ytbfbijfedamgaaa.boxAll
open Go.ChangeShapes Go.WideShapes Go.ChangeAt Go.RowKit
open Go.ChangeMaps (open_string shut_string)
set_option linter.unusedVariables false
attribute [local go_sem ↓] Go.wp_at_zero Go.wp_at_succ

theorem own : ownKnob Try.prog.godebug = none := by kernel_rfl
theorem laidOut : laidOutB Try.prog = true := by kernel_rfl

set_option maxHeartbeats 8000000 in
set_option maxRecDepth 100000 in
theorem walk (a0 : Int) (a1 : Int) (a2 : Option Addr) (len2 cap2 : Nat) (z2 : List Op4) (w : World) (w0 : (Lit.int .i64 a0).wf = true) (w1 : (Lit.int .i64 a1).wf = true) (w2 : IsOps w a2 len2 z2) :
    Calls Try.prog 7 #[.int .i64 a0, .int .i64 a1, .slice a2 len2 cap2] w fun e w' => e = .returned (.bool true) ∧ Below w.heap.size w w' := by
  obtain ⟨a1l, a1h⟩ := bounds_i64 w0
  obtain ⟨a2l, a2h⟩ := bounds_i64 w1
  obtain ⟨hzl, hlen, hops⟩ := w2
  have HO : Hid (∀ i o, z2[i]? = some o → ∃ x, a2 = some x ∧ x.block < w.heap.size ∧ IsOp w x i o) := hops
  have HZ : Hid (z2.length = len2) := hzl
  clear hops hzl
  obtain ⟨i0, hi0, hz0, hz1, hz2⟩ := info_parts infoInt
  obtain ⟨m0, hM0⟩ : ∃ m : Nat, (m : Int) = max 0 (min a0 100) := ⟨(max 0 (min a0 100)).toNat, by omega⟩
  obtain ⟨m1, hM1⟩ : ∃ m : Nat, (m : Int) = max 0 (min a1 100) := ⟨(max 0 (min a1 100)).toNat, by omega⟩
  have hm0 : m0 ≤ 100 := by omega
  have hm1 : m1 ≤ 100 := by omega
  have HR0 : Hid (BI.roomV a0 = m0) := by show _ = _; unfold BI.roomV; omega
  have HR1 : Hid (BI.roomV a1 = m1) := by show _ = _; unfold BI.roomV; omega
  go_enter Try.func7, Try.ntmps7
  go_wp2_with fail
  refine (begun2_any _).mono ?_
  rintro e W ⟨rfl, g0⟩
  have M0 : Hid (Few w [] W) := (Few.start w).below g0
  clear g0
  go_upto_region 4 with fail
  go_cut [8] (fun s8 wd => s8 = .pointer (some ⟨W.heap.size, 0, none⟩) ∧ ∃ x y : Int, wd = W.alloc (.cells #[.int .i64 x, .int .i64 y] 69) ∧ x = m0 ∧ y = m1)
  case first =>
    go_wp2
    all_goals
      go_meet
      exact ⟨rfl, _, _, rfl, by omega, by omega⟩
  case rest =>
    obtain ⟨rfl, x, y, rfl, rfl, rfl⟩ := hcut
    clear hM0 hM1
    have M1 : Hid (Few w [([W.heap.size], PairAt W.heap.size 69 (.int .i64 m0) (.int .i64 m1))] (W.alloc (.cells #[.int .i64 m0, .int .i64 m1] 69))) := M0.out.add ((Below.refl _ _).alloc (Nat.le_refl _) _) (heap_alloc_new _ _) (by simp) (by simp) PairAt.keeps
    clear M0
    generalize W.alloc (.cells #[.int .i64 m0, .int .i64 m1] 69) = Wa at M1 ⊢
    obtain ⟨R, hR⟩ : ∃ R, R = W.heap.size := ⟨_, rfl⟩
    rw [← hR] at M1 ⊢
    clear hR
    go_wp2_with fail
    refine (BI.new_any a0 Wa a1l a1h).mono ?_
    rintro e Wb ⟨rfl, h1, g1⟩
    rw [HR0.out] at h1
    have M2 : Hid (Few w [([R], PairAt R 69 (.int .i64 m0) (.int .i64 m1)), (BI.footB (Wa.heap.size + 1) Wa.heap.size [], fun u => BI.Boxes u (Wa.heap.size + 1) Wa.heap.size m0 [])] Wb) := M1.out.add g1 h1 (BI.foots_lt h1) BI.foot_new BI.keeps
    clear M1 g1 h1
    obtain ⟨b0, hb0⟩ : ∃ B, B = Wa.heap.size + 1 := ⟨_, rfl⟩
    obtain ⟨c0, hc0⟩ : ∃ B, B = Wa.heap.size := ⟨_, rfl⟩
    rw [← hb0, ← hc0] at M2
    rw [← hb0]
    clear hb0 hc0
    go_wp2_with fail
    refine (BI.new_any a1 Wb a2l a2h).mono ?_
    rintro e Wc ⟨rfl, h2, g2⟩
    rw [HR1.out] at h2
    have M3 : Hid (Few w [([R], PairAt R 69 (.int .i64 m0) (.int .i64 m1)), (BI.footB b0 c0 [], fun u => BI.Boxes u b0 c0 m0 []), (BI.footB (Wb.heap.size + 1) Wb.heap.size [], fun u => BI.Boxes u (Wb.heap.size + 1) Wb.heap.size m1 [])] Wc) := M2.out.add g2 h2 (BI.foots_lt h2) BI.foot_new BI.keeps
    clear M2 g2 h2
    obtain ⟨b1, hb1⟩ : ∃ B, B = Wb.heap.size + 1 := ⟨_, rfl⟩
    obtain ⟨c1, hc1⟩ : ∃ B, B = Wb.heap.size := ⟨_, rfl⟩
    rw [← hb1, ← hc1] at M3
    rw [← hb1]
    clear hb1 hc1
    go_upto_region 7 with fail
    have N1 := M3.out.add (w' := Wc.alloc (.cells #[.pointer (some ⟨b0, 0, none⟩), .pointer (some ⟨b1, 0, none⟩)] 72)) (f := [Wc.heap.size]) (p := PairAt Wc.heap.size 72 (.pointer (some ⟨b0, 0, none⟩)) (.pointer (some ⟨b1, 0, none⟩))) ((Below.refl _ _).alloc (Nat.le_refl _) _) (heap_alloc_new _ _) (by simp) (by simp) PairAt.keeps
    have N2 := N1.add (w' := (Wc.alloc (.cells #[.pointer (some ⟨b0, 0, none⟩), .pointer (some ⟨b1, 0, none⟩)] 72)).alloc (.cells #[.slice none 0 0, .slice none 0 0] 73)) (f := [Wc.heap.size + 1]) (p := PairAt (Wc.heap.size + 1) 73 (.slice none 0 0) (.slice none 0 0)) ((Below.refl _ _).alloc (Nat.le_refl _) _) (two_new _ _ _) (by simp) (by simp) PairAt.keeps
    have M4 : Hid (Few w [([R], PairAt R 69 (.int .i64 m0) (.int .i64 m1)), (BI.footB b0 c0 [], fun u => BI.Boxes u b0 c0 m0 []), (BI.footB b1 c1 [], fun u => BI.Boxes u b1 c1 m1 []), ([Wc.heap.size], PairAt Wc.heap.size 72 (.pointer (some ⟨b0, 0, none⟩)) (.pointer (some ⟨b1, 0, none⟩))), ([Wc.heap.size + 1], PairAt (Wc.heap.size + 1) 73 (.slice none 0 0) (.slice none 0 0)), ([], fun u => Tail u w.heap.size 3 (.slice none 0 0) []), ([], fun u => Tail u w.heap.size 3 (.slice none 0 0) [])] ((Wc.alloc (.cells #[.pointer (some ⟨b0, 0, none⟩), .pointer (some ⟨b1, 0, none⟩)] 72)).alloc (.cells #[.slice none 0 0, .slice none 0 0] 73))) := (N2.add (f := []) (p := fun u => Tail u w.heap.size 3 (.slice none 0 0) []) (Below.refl _ _) (Tail.nil _ _ _) (by simp) (by simp) Tail.keeps).add (f := []) (p := fun u => Tail u w.heap.size 3 (.slice none 0 0) []) (Below.refl _ _) (Tail.nil _ _ _) (by simp) (by simp) Tail.keeps
    clear M3 N1 N2
    generalize (Wc.alloc (.cells #[.pointer (some ⟨b0, 0, none⟩), .pointer (some ⟨b1, 0, none⟩)] 72)).alloc (.cells #[.slice none 0 0, .slice none 0 0] 73) = Wd at M4 ⊢
    obtain ⟨L, hL⟩ : ∃ L, L = Wc.heap.size + 1 := ⟨_, rfl⟩
    obtain ⟨X, hX⟩ : ∃ X, X = Wc.heap.size := ⟨_, rfl⟩
    rw [← hL, ← hX] at M4
    rw [← hL, ← hX]
    clear hL hX
    have M5 : Hid (Few w [([R], PairAt R 69 (.int .i64 m0) (.int .i64 m1)), (BI.footB b0 c0 ([] : List (Nat × Int)), fun u => BI.Boxes u b0 c0 m0 ([] : List (Nat × Int))), (BI.footB b1 c1 ([] : List (Nat × Int)), fun u => BI.Boxes u b1 c1 m1 ([] : List (Nat × Int))), ([X], PairAt X 72 (.pointer (some ⟨b0, 0, none⟩)) (.pointer (some ⟨b1, 0, none⟩))), ([L], PairAt L 73 (Value.slice none 0 0) (Value.slice none 0 0)), ((Value.slice none 0 0).ownBlock.toList, fun u => Tail u w.heap.size 3 (Value.slice none 0 0) ([])), ((Value.slice none 0 0).ownBlock.toList, fun u => Tail u w.heap.size 3 (Value.slice none 0 0) ([]))] Wd) := M4.out
    clear M4
    go_wp2
    go_loopg [11] 60 (fun gk s11 wr => ∃ k : Nat, k ≤ len2 ∧ gk + k = 60 ∧ s11 = .int .i64 k ∧ ∃ (q0 q1 : List (Nat × Int)) (s0 s1 : Value), Few w [([R], PairAt R 69 (.int .i64 m0) (.int .i64 m1)), (BI.footB b0 c0 q0, fun u => BI.Boxes u b0 c0 m0 q0), (BI.footB b1 c1 q1, fun u => BI.Boxes u b1 c1 m1 q1), ([X], PairAt X 72 (.pointer (some ⟨b0, 0, none⟩)) (.pointer (some ⟨b1, 0, none⟩))), ([L], PairAt L 73 (s0) (s1)), ((s0).ownBlock.toList, fun u => Tail u w.heap.size 3 (s0) (vals q0)), ((s1).ownBlock.toList, fun u => Tail u w.heap.size 3 (s1) (vals q1))] wr)
    case atStart => exact ⟨0, by omega, by omega, rfl, [], [], _, _, M5.out⟩
    case round =>
      clear M5
      skip
      obtain ⟨k, hk, hgk, rfl, q0, q1, s0, s1, M2⟩ := hrel
      have HM : Hid (Few w [([R], PairAt R 69 (.int .i64 m0) (.int .i64 m1)), (BI.footB b0 c0 q0, fun u => BI.Boxes u b0 c0 m0 q0), (BI.footB b1 c1 q1, fun u => BI.Boxes u b1 c1 m1 q1), ([X], PairAt X 72 (.pointer (some ⟨b0, 0, none⟩)) (.pointer (some ⟨b1, 0, none⟩))), ([L], PairAt L 73 (s0) (s1)), ((s0).ownBlock.toList, fun u => Tail u w.heap.size 3 (s0) (vals q0)), ((s1).ownBlock.toList, fun u => Tail u w.heap.size 3 (s1) (vals q1))] wr) := M2
      clear M2
      by_cases hkl : k < len2
      · have hkl' : (k : Int) < (len2 : Int) := by omega
        by_cases hk60 : k < 60
        · have hk60' : (k : Int) < 60 := by omega
          obtain ⟨o, ho⟩ : ∃ o, z2[k]? = some o := ⟨_, List.getElem?_eq_getElem (by rw [HZ.out]; exact hkl)⟩
          obtain ⟨x, rfl, hxb, hop⟩ := HO.out k o ho
          obtain ⟨kd, ov, oa, ob⟩ := o
          obtain ⟨y, hy, c0', c1', c2', c3', iv, ia, ib⟩ := op_here hop hxb HM.out.bel
          simp only at c0' c1' c2' c3' iv ia ib
          have HY : Hid (x.add (k * 4) = y) := hy
          clear hop ho
          go_upto_region 11 with fail
          have MA : Hid (Few w [([R], PairAt R 69 (.int .i64 m0) (.int .i64 m1)), (BI.footB b0 c0 q0, fun u => BI.Boxes u b0 c0 m0 q0), (BI.footB b1 c1 q1, fun u => BI.Boxes u b1 c1 m1 q1), ([X], PairAt X 72 (.pointer (some ⟨b0, 0, none⟩)) (.pointer (some ⟨b1, 0, none⟩))), ([L], PairAt L 73 (s0) (s1)), ((s0).ownBlock.toList, fun u => Tail u w.heap.size 3 (s0) (vals q0)), ((s1).ownBlock.toList, fun u => Tail u w.heap.size 3 (s1) (vals q1)), ([wr.heap.size], OpAt wr.heap.size ⟨kd, ov, oa, ob⟩)] (wr.alloc (.cells #[.int .i64 kd, .int .i64 ov, .int .i64 oa, .int .i64 ob] 29))) := HM.out.add ((Below.refl _ _).alloc (Nat.le_refl _) _) (heap_alloc_new _ _) (by simp) (by simp) OpAt.keeps
          obtain ⟨P, hP⟩ : ∃ P, P = wr.heap.size := ⟨_, rfl⟩
          rw [← hP] at MA ⊢
          clear hP HM c0' c1' c2' c3' hy
          generalize wr.alloc (.cells #[.int .i64 kd, .int .i64 ov, .int .i64 oa, .int .i64 ob] 29) = wa at MA ⊢
          obtain ⟨d0, d1, d2, d3⟩ := OpAt.cells (MA.out.holds 7)
          simp only at d0 d1 d2 d3
          go_cut [13] (fun s13 wd => wd = wa ∧ (s13 = .int .i64 0 ∨ s13 = .int .i64 1))
          case first =>
            have q2 := i64_and1 oa
            obtain ⟨kk, hkk⟩ : ∃ kk, oa % 2 = kk := ⟨_, rfl⟩
            rw [hkk] at q2
            have hkk2 : kk = 0 ∨ kk = 1 := by omega
            clear hkk
            go_wp2
            go_meet
            rcases hkk2 with rfl | rfl
            · exact ⟨rfl, .inl rfl⟩
            · exact ⟨rfl, .inr rfl⟩
          case rest =>
          obtain ⟨rfl, hk13⟩ := hcut
          go_upto_block 2 with fail
          go_cut [] (fun wd => ∃ (q0 q1 : List (Nat × Int)) (s0 s1 : Value), Few w [([R], PairAt R 69 (.int .i64 m0) (.int .i64 m1)), (BI.footB b0 c0 q0, fun u => BI.Boxes u b0 c0 m0 q0), (BI.footB b1 c1 q1, fun u => BI.Boxes u b1 c1 m1 q1), ([X], PairAt X 72 (.pointer (some ⟨b0, 0, none⟩)) (.pointer (some ⟨b1, 0, none⟩))), ([L], PairAt L 73 (s0) (s1)), ((s0).ownBlock.toList, fun u => Tail u w.heap.size 3 (s0) (vals q0)), ((s1).ownBlock.toList, fun u => Tail u w.heap.size 3 (s1) (vals q1))] wd)
          case first =>
            have hf0 : q0.length ≤ m0 := BI.Boxes.few (MA.out.holds 1)
            have hf1 : q1.length ≤ m1 := BI.Boxes.few (MA.out.holds 2)
            by_cases k0 : kd = 0
            · subst k0
              rcases hk13 with rfl | rfl
              · rcases (by omega : q0.length < m0 ∨ q0.length = m0) with hroom | hroom
                · as_aux_lemma =>
                  obtain ⟨ad, cp, hu⟩ := Tail.slice (MA.out.holds 5)
                  rw [vals_length] at hu
                  subst hu
                  obtain ⟨e0, e1⟩ := PairAt.cells (MA.out.holds 0)
                  obtain ⟨e2, e3⟩ := PairAt.cells (MA.out.holds 3)
                  obtain ⟨e4, e5⟩ := PairAt.cells (MA.out.holds 4)
                  obtain ⟨_, e6, _, _⟩ := OpAt.cells (MA.out.holds 7)
                  simp only at e6
                  have hx1 : (q0.length : Int) < (m0 : Int) := by omega
                  have hx2 : decide ((q0.length : Int) < (m0 : Int)) = true := decide_eq_true hx1
                  have hx3 : decide (q0.length < m0) = true := decide_eq_true (by omega)
                  go_wp2_with fail
                  go_region_held3 (fun w' => w'.cell? ⟨X, 0, none⟩ = some (.pointer (some ⟨b0, 0, none⟩)) ∧ w'.cell? ⟨P, 1, none⟩ = some (.int .i64 ov) ∧ w'.cell? ⟨L, 0, none⟩ = some (Value.slice ad q0.length cp) ∧ w'.cell? ⟨R, 0, none⟩ = some (.int .i64 m0)) (first | go_keep | exact ⟨e2, e6, e4, e0⟩)
                    ((go_at_call 41; refine (BI.put_room ov _ ((MA.out.below ((Below.refl _ _).drew)).holds 1) (by omega)).mono ?_; rintro e w2 ⟨rfl, h2, o2⟩; have M2 : Hid (Few w [([R], PairAt R 69 (.int .i64 m0) (.int .i64 m1)), (BI.footB b0 c0 (q0 ++ [(wc.drew.heap.size, ov)]), fun u => BI.Boxes u b0 c0 m0 (q0 ++ [(wc.drew.heap.size, ov)])), (BI.footB b1 c1 q1, fun u => BI.Boxes u b1 c1 m1 q1), ([X], PairAt X 72 (.pointer (some ⟨b0, 0, none⟩)) (.pointer (some ⟨b1, 0, none⟩))), ([L], PairAt L 73 (Value.slice ad q0.length cp) (s1)), ((Value.slice ad q0.length cp).ownBlock.toList, fun u => Tail u w.heap.size 3 (Value.slice ad q0.length cp) (vals q0)), ((s1).ownBlock.toList, fun u => Tail u w.heap.size 3 (s1) (vals q1)), ([P], OpAt P ⟨0, ov, oa, ob⟩)] w2) := BI.few_put (MA.out.below ((Below.refl _ _).drew)) 1 rfl h2 o2; obtain ⟨e0, e1⟩ := PairAt.cells (M2.out.holds 0); obtain ⟨e2, e3⟩ := PairAt.cells (M2.out.holds 3); obtain ⟨e4, e5⟩ := PairAt.cells (M2.out.holds 4); obtain ⟨_, e6, _, _⟩ := OpAt.cells (M2.out.holds 7); simp only at e6; clear h2 o2 MA))
                  go_wp2
                  go_big_quiet (fail)
                  go_wp2
                  generalize hW3 : w2.drewN _ = w3
                  have M3 : Hid (Few w [([R], PairAt R 69 (.int .i64 m0) (.int .i64 m1)), (BI.footB b0 c0 (q0 ++ [(wc.drew.heap.size, ov)]), fun u => BI.Boxes u b0 c0 m0 (q0 ++ [(wc.drew.heap.size, ov)])), (BI.footB b1 c1 q1, fun u => BI.Boxes u b1 c1 m1 q1), ([X], PairAt X 72 (.pointer (some ⟨b0, 0, none⟩)) (.pointer (some ⟨b1, 0, none⟩))), ([L], PairAt L 73 (Value.slice ad q0.length cp) (s1)), ((Value.slice ad q0.length cp).ownBlock.toList, fun u => Tail u w.heap.size 3 (Value.slice ad q0.length cp) (vals q0)), ((s1).ownBlock.toList, fun u => Tail u w.heap.size 3 (s1) (vals q1)), ([P], OpAt P ⟨0, ov, oa, ob⟩)] w3) := hW3 ▸ M2.out.below (below_drewN _ _)
                  clear M2 hW3 e0 e1 e2 e3 e4 e5 e6
                  obtain ⟨e0, e1⟩ := PairAt.cells (M3.out.holds 0)
                  obtain ⟨e2, e3⟩ := PairAt.cells (M3.out.holds 3)
                  obtain ⟨e4, e5⟩ := PairAt.cells (M3.out.holds 4)
                  obtain ⟨_, e6, _, _⟩ := OpAt.cells (M3.out.holds 7)
                  simp only at e6
                  have fz : w3.frozen? ⟨L, 0, none⟩ = false := PairAt.fz (M3.out.holds 4) _
                  have S3 : Hid (w.heap.size ≤ w3.heap.size) := M3.out.bel.size
                  have hLl : L < w3.heap.size := PairAt.lt (M3.out.holds 4)
                  have hPL : ¬ P = L := fun e => M3.out.dis 7 4 (by decide) P (by simp) (by simp [e])
                  clear e0 e1 e2 e3 hx1 hx2 hx3 hf0 hf1
                  clear hPL
                  obtain ⟨v4, w4, hrun, t4, gr4, f4⟩ := run_append_tail (P := Try.prog) (w3.alloc (.cells #[.int .i64 ov] 3)).drew 59 59 w.heap.size 3 i0 (.int .i64 0) 8 Try.underlying59 hi0 hz0 hz1 hz2 rfl (Value.slice ad q0.length cp) (vals q0) (Tail.below (M3.out.holds 5) ((Below.refl _ _).alloc (Nat.le_refl _) _).drew) ⟨w3.heap.size, 0, none⟩ 1 (.int .i64 ov) (cell_lone w3 _ _) rfl (by unfold maxLen; rw [vals_length]; omega) (by rw [vals_length]; omega) (by have := S3.out; simp; omega)
                  have M4 : Hid (Few w [([R], PairAt R 69 (.int .i64 m0) (.int .i64 m1)), (BI.footB b0 c0 (q0 ++ [(wc.drew.heap.size, ov)]), fun u => BI.Boxes u b0 c0 m0 (q0 ++ [(wc.drew.heap.size, ov)])), (BI.footB b1 c1 q1, fun u => BI.Boxes u b1 c1 m1 q1), ([X], PairAt X 72 (.pointer (some ⟨b0, 0, none⟩)) (.pointer (some ⟨b1, 0, none⟩))), ([L], PairAt L 73 (Value.slice ad q0.length cp) (s1)), ((v4).ownBlock.toList, fun u => Tail u w.heap.size 3 (v4) (vals q0 ++ [.int .i64 ov])), ((s1).ownBlock.toList, fun u => Tail u w.heap.size 3 (s1) (vals q1)), ([P], OpAt P ⟨0, ov, oa, ob⟩)] w4) := few_tail (M3.out.below ((Below.refl _ _).alloc (Nat.le_refl _) _).drew) 5 rfl t4 gr4 f4
                  obtain ⟨a4, cp4, hu4⟩ := Tail.slice t4
                  clear t4 gr4 f4
                  rw [List.length_append, vals_length, List.length_singleton] at hu4
                  subst hu4
                  have l4 : w4.cell? ⟨L, 0, none⟩ = some (Value.slice ad q0.length cp) := (PairAt.cells (M4.out.holds 4)).1
                  have z4 : w4.frozen? ⟨L, 0, none⟩ = false := PairAt.fz (M4.out.holds 4) _
                  have p4 : w4.cell? ⟨P, 1, none⟩ = some (.int .i64 ov) := (OpAt.cells (M4.out.holds 7)).2.1
                  have MB := M3.out.below ((Below.refl _ _).alloc (Nat.le_refl _) (.cells #[.int .i64 ov] 3)).drew
                  have l5 : (w3.alloc (.cells #[.int .i64 ov] 3)).drew.cell? ⟨L, 0, none⟩ = some (Value.slice ad q0.length cp) := (PairAt.cells (MB.holds 4)).1
                  have p5 : (w3.alloc (.cells #[.int .i64 ov] 3)).drew.cell? ⟨P, 1, none⟩ = some (.int .i64 ov) := (OpAt.cells (MB.holds 7)).2.1
                  clear MB
                  refine wp_region_noPanic (wp_region_runs (S := fun w' => w'.cell? ⟨L, 0, none⟩ = some (Value.slice ad q0.length cp) ∧ w'.cell? ⟨P, 1, none⟩ = some (.int .i64 ov)) (z := 9) (by kernel_rfl) ?_)
                  have hS : w3.drew.cell? ⟨L, 0, none⟩ = some (Value.slice ad q0.length cp) ∧ w3.drew.cell? ⟨P, 1, none⟩ = some (.int .i64 ov) := ⟨e4, e6⟩
                  refine Runs.take (i := 0) (v := ?v0) rfl (by kernel_rfl) (by kernel_rfl) (by kernel_rfl) (by kernel_rfl) (fun _ _ _ h => h) (Or.inl ⟨by rfl, ?y0⟩) hS ?_
                  case y0 =>
                    intro u hu
                    obtain ⟨s1, s2⟩ := hu
                    go_simp
                    try with_reducible rfl
                  simp only [Act.put, List.setIfInBounds_toArray]
                  refine Runs.take (i := 1) (v := ?v1) rfl (by kernel_rfl) (by kernel_rfl) (by kernel_rfl) (by kernel_rfl) (fun _ _ _ h => h) (Or.inl ⟨by rfl, ?y1⟩) hS ?_
                  case y1 =>
                    intro u hu
                    obtain ⟨s1, s2⟩ := hu
                    go_simp
                    try with_reducible rfl
                  simp only [Act.put]
                  refine Runs.take (i := 2) (v := ?v2) rfl (by kernel_rfl) (by kernel_rfl) (by kernel_rfl) (by kernel_rfl) (fun _ _ _ h => h) (Or.inl ⟨by rfl, ?y2⟩) hS ?_
                  case y2 =>
                    intro u hu
                    obtain ⟨s1, s2⟩ := hu
                    go_simp
                    try with_reducible rfl
                  simp only [Act.put]
                  refine Runs.take (i := 3) (v := ?v3) rfl (by kernel_rfl) (by kernel_rfl) (by kernel_rfl) (by kernel_rfl) (fun _ _ _ h => h) (Or.inl ⟨by rfl, ?y3⟩) hS ?_
                  case y3 =>
                    intro u hu
                    obtain ⟨s1, s2⟩ := hu
                    go_simp
                    try with_reducible rfl
                  simp only [Act.put]
                  refine Runs.take (i := 4) (v := ?v4) rfl (by kernel_rfl) (by kernel_rfl) (by kernel_rfl) (by kernel_rfl) (fun _ _ _ h => h) (Or.inl ⟨by rfl, ?y4⟩) hS ?_
                  case y4 =>
                    intro u hu
                    obtain ⟨s1, s2⟩ := hu
                    go_simp
                    try with_reducible rfl
                  simp only [Act.put]
                  refine Runs.take (i := 5) (v := ?v5) rfl (by kernel_rfl) (by kernel_rfl) (by kernel_rfl) (by kernel_rfl) (fun _ _ _ h => h) (Or.inl ⟨by rfl, ?y5⟩) hS ?_
                  case y5 =>
                    intro u hu
                    obtain ⟨s1, s2⟩ := hu
                    go_simp
                    try with_reducible rfl
                  simp only [Act.put]
                  refine Runs.one (i := 6) (by kernel_rfl) rfl (by rfl) (fun K hK => ?_)
                  go_simp
                  refine hK.out _ _ (fun _ => ⟨l5, p5⟩) ?_
                  clear hK K
                  refine Runs.one (i := 7) (by kernel_rfl) rfl (by rfl) (fun K hK => ?_)
                  refine wp_append_tail _ (.tmp 132) (.tmp 135) 59 rfl _ _ _ _ rfl rfl hrun ?_
                  refine hK.out _ _ (fun _ => ⟨l4, p4⟩) ?_
                  clear hK K
                  refine Runs.one (i := 8) (by kernel_rfl) rfl (by rfl) (fun K hK => ?_)
                  go_simp
                  refine hK.out _ _ (fun _ => ⟨l4, p4⟩) ?_
                  clear hK K
                  refine Runs.one (i := 9) (by kernel_rfl) rfl (by rfl) (fun K hK => ?_)
                  go_simp
                  refine hK.out _ _ (fun h => absurd rfl h) ?_
                  clear hK K
                  refine Runs.done (by kernel_rfl) (NoPanic.normal ?_)
                  clear l5 p5 hrun hS
                  go_wp2
                  go_meet
                  have M5 : Few w [([R], PairAt R 69 (.int .i64 m0) (.int .i64 m1)), (BI.footB b0 c0 (q0 ++ [(wc.drew.heap.size, ov)]), fun u => BI.Boxes u b0 c0 m0 (q0 ++ [(wc.drew.heap.size, ov)])), (BI.footB b1 c1 q1, fun u => BI.Boxes u b1 c1 m1 q1), ([X], PairAt X 72 (.pointer (some ⟨b0, 0, none⟩)) (.pointer (some ⟨b1, 0, none⟩))), ([L], PairAt L 73 (Value.slice a4 (q0.length + 1) cp4) (s1)), ((Value.slice a4 (q0.length + 1) cp4).ownBlock.toList, fun u => Tail u w.heap.size 3 (Value.slice a4 (q0.length + 1) cp4) (vals (q0 ++ [(wc.drew.heap.size, ov)]))), ((s1).ownBlock.toList, fun u => Tail u w.heap.size 3 (s1) (vals q1)), ([P], OpAt P ⟨0, ov, oa, ob⟩)] (w4.setCell ⟨L, 0, none⟩ (Value.slice a4 (q0.length + 1) cp4)) := by
                    rw [vals_snoc]
                    exact few_pair M4.out 4 rfl (PairAt.set0 (.slice a4 (q0.length + 1) cp4))
                  exact ⟨_, _, _, _, Few.less (l := [_, _, _, _, _, _, _]) M5⟩
                · as_aux_lemma =>
                  obtain ⟨ad, cp, hu⟩ := Tail.slice (MA.out.holds 5)
                  rw [vals_length] at hu
                  subst hu
                  obtain ⟨e0, e1⟩ := PairAt.cells (MA.out.holds 0)
                  obtain ⟨e2, e3⟩ := PairAt.cells (MA.out.holds 3)
                  obtain ⟨e4, e5⟩ := PairAt.cells (MA.out.holds 4)
                  obtain ⟨_, e6, _, _⟩ := OpAt.cells (MA.out.holds 7)
                  simp only at e6
                  have hx1 : ¬ (q0.length : Int) < (m0 : Int) := by omega
                  have hx2 : decide ((q0.length : Int) < (m0 : Int)) = false := decide_eq_false hx1
                  have hx3 : decide (q0.length < m0) = false := decide_eq_false (by omega)
                  go_wp2_with fail
                  go_region_held3 (fun w' => w'.cell? ⟨X, 0, none⟩ = some (.pointer (some ⟨b0, 0, none⟩)) ∧ w'.cell? ⟨P, 1, none⟩ = some (.int .i64 ov) ∧ w'.cell? ⟨L, 0, none⟩ = some (Value.slice ad q0.length cp) ∧ w'.cell? ⟨R, 0, none⟩ = some (.int .i64 m0)) (first | go_keep | exact ⟨e2, e6, e4, e0⟩)
                    ((go_at_call 41; refine (BI.put_full ov _ ((MA.out.below ((Below.refl _ _).drew)).holds 1) (by omega)).mono ?_; rintro e w2 ⟨rfl, g2⟩; have M2 : Hid (Few w [([R], PairAt R 69 (.int .i64 m0) (.int .i64 m1)), (BI.footB b0 c0 q0, fun u => BI.Boxes u b0 c0 m0 q0), (BI.footB b1 c1 q1, fun u => BI.Boxes u b1 c1 m1 q1), ([X], PairAt X 72 (.pointer (some ⟨b0, 0, none⟩)) (.pointer (some ⟨b1, 0, none⟩))), ([L], PairAt L 73 (Value.slice ad q0.length cp) (s1)), ((Value.slice ad q0.length cp).ownBlock.toList, fun u => Tail u w.heap.size 3 (Value.slice ad q0.length cp) (vals q0)), ((s1).ownBlock.toList, fun u => Tail u w.heap.size 3 (s1) (vals q1)), ([P], OpAt P ⟨0, ov, oa, ob⟩)] w2) := (MA.out.below ((Below.refl _ _).drew)).below g2; obtain ⟨e0, e1⟩ := PairAt.cells (M2.out.holds 0); obtain ⟨e2, e3⟩ := PairAt.cells (M2.out.holds 3); obtain ⟨e4, e5⟩ := PairAt.cells (M2.out.holds 4); obtain ⟨_, e6, _, _⟩ := OpAt.cells (M2.out.holds 7); simp only at e6; clear g2 MA))
                  go_wp2
                  go_big_quiet (fail)
                  go_wp2
                  go_meet
                  exact ⟨q0, q1, _, _, Few.less (l := [_, _, _, _, _, _, _]) (M2.out.below (below_drewN _ _))⟩
              · rcases (by omega : q1.length < m1 ∨ q1.length = m1) with hroom | hroom
                · as_aux_lemma =>
                  obtain ⟨ad, cp, hu⟩ := Tail.slice (MA.out.holds 6)
                  rw [vals_length] at hu
                  subst hu
                  obtain ⟨e0, e1⟩ := PairAt.cells (MA.out.holds 0)
                  obtain ⟨e2, e3⟩ := PairAt.cells (MA.out.holds 3)
                  obtain ⟨e4, e5⟩ := PairAt.cells (MA.out.holds 4)
                  obtain ⟨_, e6, _, _⟩ := OpAt.cells (MA.out.holds 7)
                  simp only at e6
                  have hx1 : (q1.length : Int) < (m1 : Int) := by omega
                  have hx2 : decide ((q1.length : Int) < (m1 : Int)) = true := decide_eq_true hx1
                  have hx3 : decide (q1.length < m1) = true := decide_eq_true (by omega)
                  go_wp2_with fail
                  go_region_held3 (fun w' => w'.cell? ⟨X, 1, none⟩ = some (.pointer (some ⟨b1, 0, none⟩)) ∧ w'.cell? ⟨P, 1, none⟩ = some (.int .i64 ov) ∧ w'.cell? ⟨L, 1, none⟩ = some (Value.slice ad q1.length cp) ∧ w'.cell? ⟨R, 1, none⟩ = some (.int .i64 m1)) (first | go_keep | exact ⟨e3, e6, e5, e1⟩)
                    ((go_at_call 41; refine (BI.put_room ov _ ((MA.out.below ((Below.refl _ _).drew)).holds 2) (by omega)).mono ?_; rintro e w2 ⟨rfl, h2, o2⟩; have M2 : Hid (Few w [([R], PairAt R 69 (.int .i64 m0) (.int .i64 m1)), (BI.footB b0 c0 q0, fun u => BI.Boxes u b0 c0 m0 q0), (BI.footB b1 c1 (q1 ++ [(wc.drew.heap.size, ov)]), fun u => BI.Boxes u b1 c1 m1 (q1 ++ [(wc.drew.heap.size, ov)])), ([X], PairAt X 72 (.pointer (some ⟨b0, 0, none⟩)) (.pointer (some ⟨b1, 0, none⟩))), ([L], PairAt L 73 (s0) (Value.slice ad q1.length cp)), ((s0).ownBlock.toList, fun u => Tail u w.heap.size 3 (s0) (vals q0)), ((Value.slice ad q1.length cp).ownBlock.toList, fun u => Tail u w.heap.size 3 (Value.slice ad q1.length cp) (vals q1)), ([P], OpAt P ⟨0, ov, oa, ob⟩)] w2) := BI.few_put (MA.out.below ((Below.refl _ _).drew)) 2 rfl h2 o2; obtain ⟨e0, e1⟩ := PairAt.cells (M2.out.holds 0); obtain ⟨e2, e3⟩ := PairAt.cells (M2.out.holds 3); obtain ⟨e4, e5⟩ := PairAt.cells (M2.out.holds 4); obtain ⟨_, e6, _, _⟩ := OpAt.cells (M2.out.holds 7); simp only at e6; clear h2 o2 MA))
                  go_wp2
                  go_big_quiet (fail)
                  go_wp2
                  generalize hW3 : w2.drewN _ = w3
                  have M3 : Hid (Few w [([R], PairAt R 69 (.int .i64 m0) (.int .i64 m1)), (BI.footB b0 c0 q0, fun u => BI.Boxes u b0 c0 m0 q0), (BI.footB b1 c1 (q1 ++ [(wc.drew.heap.size, ov)]), fun u => BI.Boxes u b1 c1 m1 (q1 ++ [(wc.drew.heap.size, ov)])), ([X], PairAt X 72 (.pointer (some ⟨b0, 0, none⟩)) (.pointer (some ⟨b1, 0, none⟩))), ([L], PairAt L 73 (s0) (Value.slice ad q1.length cp)), ((s0).ownBlock.toList, fun u => Tail u w.heap.size 3 (s0) (vals q0)), ((Value.slice ad q1.length cp).ownBlock.toList, fun u => Tail u w.heap.size 3 (Value.slice ad q1.length cp) (vals q1)), ([P], OpAt P ⟨0, ov, oa, ob⟩)] w3) := hW3 ▸ M2.out.below (below_drewN _ _)
                  clear M2 hW3 e0 e1 e2 e3 e4 e5 e6
                  obtain ⟨e0, e1⟩ := PairAt.cells (M3.out.holds 0)
                  obtain ⟨e2, e3⟩ := PairAt.cells (M3.out.holds 3)
                  obtain ⟨e4, e5⟩ := PairAt.cells (M3.out.holds 4)
                  obtain ⟨_, e6, _, _⟩ := OpAt.cells (M3.out.holds 7)
                  simp only at e6
                  have fz : w3.frozen? ⟨L, 1, none⟩ = false := PairAt.fz (M3.out.holds 4) _
                  have S3 : Hid (w.heap.size ≤ w3.heap.size) := M3.out.bel.size
                  have hLl : L < w3.heap.size := PairAt.lt (M3.out.holds 4)
                  have hPL : ¬ P = L := fun e => M3.out.dis 7 4 (by decide) P (by simp) (by simp [e])
                  clear e0 e1 e2 e3 hx1 hx2 hx3 hf0 hf1
                  clear hPL
                  obtain ⟨v4, w4, hrun, t4, gr4, f4⟩ := run_append_tail (P := Try.prog) (w3.alloc (.cells #[.int .i64 ov] 3)).drew 59 59 w.heap.size 3 i0 (.int .i64 0) 8 Try.underlying59 hi0 hz0 hz1 hz2 rfl (Value.slice ad q1.length cp) (vals q1) (Tail.below (M3.out.holds 6) ((Below.refl _ _).alloc (Nat.le_refl _) _).drew) ⟨w3.heap.size, 0, none⟩ 1 (.int .i64 ov) (cell_lone w3 _ _) rfl (by unfold maxLen; rw [vals_length]; omega) (by rw [vals_length]; omega) (by have := S3.out; simp; omega)
                  have M4 : Hid (Few w [([R], PairAt R 69 (.int .i64 m0) (.int .i64 m1)), (BI.footB b0 c0 q0, fun u => BI.Boxes u b0 c0 m0 q0), (BI.footB b1 c1 (q1 ++ [(wc.drew.heap.size, ov)]), fun u => BI.Boxes u b1 c1 m1 (q1 ++ [(wc.drew.heap.size, ov)])), ([X], PairAt X 72 (.pointer (some ⟨b0, 0, none⟩)) (.pointer (some ⟨b1, 0, none⟩))), ([L], PairAt L 73 (s0) (Value.slice ad q1.length cp)), ((s0).ownBlock.toList, fun u => Tail u w.heap.size 3 (s0) (vals q0)), ((v4).ownBlock.toList, fun u => Tail u w.heap.size 3 (v4) (vals q1 ++ [.int .i64 ov])), ([P], OpAt P ⟨0, ov, oa, ob⟩)] w4) := few_tail (M3.out.below ((Below.refl _ _).alloc (Nat.le_refl _) _).drew) 6 rfl t4 gr4 f4
                  obtain ⟨a4, cp4, hu4⟩ := Tail.slice t4
                  clear t4 gr4 f4
                  rw [List.length_append, vals_length, List.length_singleton] at hu4
                  subst hu4
                  have l4 : w4.cell? ⟨L, 1, none⟩ = some (Value.slice ad q1.length cp) := (PairAt.cells (M4.out.holds 4)).2
                  have z4 : w4.frozen? ⟨L, 1, none⟩ = false := PairAt.fz (M4.out.holds 4) _
                  have p4 : w4.cell? ⟨P, 1, none⟩ = some (.int .i64 ov) := (OpAt.cells (M4.out.holds 7)).2.1
                  have MB := M3.out.below ((Below.refl _ _).alloc (Nat.le_refl _) (.cells #[.int .i64 ov] 3)).drew
                  have l5 : (w3.alloc (.cells #[.int .i64 ov] 3)).drew.cell? ⟨L, 1, none⟩ = some (Value.slice ad q1.length cp) := (PairAt.cells (MB.holds 4)).2
                  have p5 : (w3.alloc (.cells #[.int .i64 ov] 3)).drew.cell? ⟨P, 1, none⟩ = some (.int .i64 ov) := (OpAt.cells (MB.holds 7)).2.1
                  clear MB
                  refine wp_region_noPanic (wp_region_runs (S := fun w' => w'.cell? ⟨L, 1, none⟩ = some (Value.slice ad q1.length cp) ∧ w'.cell? ⟨P, 1, none⟩ = some (.int .i64 ov)) (z := 9) (by kernel_rfl) ?_)
                  have hS : w3.drew.cell? ⟨L, 1, none⟩ = some (Value.slice ad q1.length cp) ∧ w3.drew.cell? ⟨P, 1, none⟩ = some (.int .i64 ov) := ⟨e5, e6⟩
                  refine Runs.take (i := 0) (v := ?v0b) rfl (by kernel_rfl) (by kernel_rfl) (by kernel_rfl) (by kernel_rfl) (fun _ _ _ h => h) (Or.inl ⟨by rfl, ?y0b⟩) hS ?_
                  case y0b =>
                    intro u hu
                    obtain ⟨s1, s2⟩ := hu
                    go_simp
                    try with_reducible rfl
                  simp only [Act.put, List.setIfInBounds_toArray]
                  refine Runs.take (i := 1) (v := ?v1b) rfl (by kernel_rfl) (by kernel_rfl) (by kernel_rfl) (by kernel_rfl) (fun _ _ _ h => h) (Or.inl ⟨by rfl, ?y1b⟩) hS ?_
                  case y1b =>
                    intro u hu
                    obtain ⟨s1, s2⟩ := hu
                    go_simp
                    try with_reducible rfl
                  simp only [Act.put]
                  refine Runs.take (i := 2) (v := ?v2b) rfl (by kernel_rfl) (by kernel_rfl) (by kernel_rfl) (by kernel_rfl) (fun _ _ _ h => h) (Or.inl ⟨by rfl, ?y2b⟩) hS ?_
                  case y2b =>
                    intro u hu
                    obtain ⟨s1, s2⟩ := hu
                    go_simp
                    try with_reducible rfl
                  simp only [Act.put]
                  refine Runs.take (i := 3) (v := ?v3b) rfl (by kernel_rfl) (by kernel_rfl) (by kernel_rfl) (by kernel_rfl) (fun _ _ _ h => h) (Or.inl ⟨by rfl, ?y3b⟩) hS ?_
                  case y3b =>
                    intro u hu
                    obtain ⟨s1, s2⟩ := hu
                    go_simp
                    try with_reducible rfl
                  simp only [Act.put]
                  refine Runs.take (i := 4) (v := ?v4b) rfl (by kernel_rfl) (by kernel_rfl) (by kernel_rfl) (by kernel_rfl) (fun _ _ _ h => h) (Or.inl ⟨by rfl, ?y4b⟩) hS ?_
                  case y4b =>
                    intro u hu
                    obtain ⟨s1, s2⟩ := hu
                    go_simp
                    try with_reducible rfl
                  simp only [Act.put]
                  refine Runs.take (i := 5) (v := ?v5b) rfl (by kernel_rfl) (by kernel_rfl) (by kernel_rfl) (by kernel_rfl) (fun _ _ _ h => h) (Or.inl ⟨by rfl, ?y5b⟩) hS ?_
                  case y5b =>
                    intro u hu
                    obtain ⟨s1, s2⟩ := hu
                    go_simp
                    try with_reducible rfl
                  simp only [Act.put]
                  refine Runs.one (i := 6) (by kernel_rfl) rfl (by rfl) (fun K hK => ?_)
                  go_simp
                  refine hK.out _ _ (fun _ => ⟨l5, p5⟩) ?_
                  clear hK K
                  refine Runs.one (i := 7) (by kernel_rfl) rfl (by rfl) (fun K hK => ?_)
                  refine wp_append_tail _ (.tmp 132) (.tmp 135) 59 rfl _ _ _ _ rfl rfl hrun ?_
                  refine hK.out _ _ (fun _ => ⟨l4, p4⟩) ?_
                  clear hK K
                  refine Runs.one (i := 8) (by kernel_rfl) rfl (by rfl) (fun K hK => ?_)
                  go_simp
                  refine hK.out _ _ (fun _ => ⟨l4, p4⟩) ?_
                  clear hK K
                  refine Runs.one (i := 9) (by kernel_rfl) rfl (by rfl) (fun K hK => ?_)
                  go_simp
                  refine hK.out _ _ (fun h => absurd rfl h) ?_
                  clear hK K
                  refine Runs.done (by kernel_rfl) (NoPanic.normal ?_)
                  clear l5 p5 hrun hS
                  go_wp2
                  go_meet
                  have M5 : Few w [([R], PairAt R 69 (.int .i64 m0) (.int .i64 m1)), (BI.footB b0 c0 q0, fun u => BI.Boxes u b0 c0 m0 q0), (BI.footB b1 c1 (q1 ++ [(wc.drew.heap.size, ov)]), fun u => BI.Boxes u b1 c1 m1 (q1 ++ [(wc.drew.heap.size, ov)])), ([X], PairAt X 72 (.pointer (some ⟨b0, 0, none⟩)) (.pointer (some ⟨b1, 0, none⟩))), ([L], PairAt L 73 (s0) (Value.slice a4 (q1.length + 1) cp4)), ((s0).ownBlock.toList, fun u => Tail u w.heap.size 3 (s0) (vals q0)), ((Value.slice a4 (q1.length + 1) cp4).ownBlock.toList, fun u => Tail u w.heap.size 3 (Value.slice a4 (q1.length + 1) cp4) (vals (q1 ++ [(wc.drew.heap.size, ov)]))), ([P], OpAt P ⟨0, ov, oa, ob⟩)] (w4.setCell ⟨L, 1, none⟩ (Value.slice a4 (q1.length + 1) cp4)) := by
                    rw [vals_snoc]
                    exact few_pair M4.out 4 rfl (PairAt.set1 (.slice a4 (q1.length + 1) cp4))
                  exact ⟨_, _, _, _, Few.less (l := [_, _, _, _, _, _, _]) M5⟩
                · as_aux_lemma =>
                  obtain ⟨ad, cp, hu⟩ := Tail.slice (MA.out.holds 6)
                  rw [vals_length] at hu
                  subst hu
                  obtain ⟨e0, e1⟩ := PairAt.cells (MA.out.holds 0)
                  obtain ⟨e2, e3⟩ := PairAt.cells (MA.out.holds 3)
                  obtain ⟨e4, e5⟩ := PairAt.cells (MA.out.holds 4)
                  obtain ⟨_, e6, _, _⟩ := OpAt.cells (MA.out.holds 7)
                  simp only at e6
                  have hx1 : ¬ (q1.length : Int) < (m1 : Int) := by omega
                  have hx2 : decide ((q1.length : Int) < (m1 : Int)) = false := decide_eq_false hx1
                  have hx3 : decide (q1.length < m1) = false := decide_eq_false (by omega)
                  go_wp2_with fail
                  go_region_held3 (fun w' => w'.cell? ⟨X, 1, none⟩ = some (.pointer (some ⟨b1, 0, none⟩)) ∧ w'.cell? ⟨P, 1, none⟩ = some (.int .i64 ov) ∧ w'.cell? ⟨L, 1, none⟩ = some (Value.slice ad q1.length cp) ∧ w'.cell? ⟨R, 1, none⟩ = some (.int .i64 m1)) (first | go_keep | exact ⟨e3, e6, e5, e1⟩)
                    ((go_at_call 41; refine (BI.put_full ov _ ((MA.out.below ((Below.refl _ _).drew)).holds 2) (by omega)).mono ?_; rintro e w2 ⟨rfl, g2⟩; have M2 : Hid (Few w [([R], PairAt R 69 (.int .i64 m0) (.int .i64 m1)), (BI.footB b0 c0 q0, fun u => BI.Boxes u b0 c0 m0 q0), (BI.footB b1 c1 q1, fun u => BI.Boxes u b1 c1 m1 q1), ([X], PairAt X 72 (.pointer (some ⟨b0, 0, none⟩)) (.pointer (some ⟨b1, 0, none⟩))), ([L], PairAt L 73 (s0) (Value.slice ad q1.length cp)), ((s0).ownBlock.toList, fun u => Tail u w.heap.size 3 (s0) (vals q0)), ((Value.slice ad q1.length cp).ownBlock.toList, fun u => Tail u w.heap.size 3 (Value.slice ad q1.length cp) (vals q1)), ([P], OpAt P ⟨0, ov, oa, ob⟩)] w2) := (MA.out.below ((Below.refl _ _).drew)).below g2; obtain ⟨e0, e1⟩ := PairAt.cells (M2.out.holds 0); obtain ⟨e2, e3⟩ := PairAt.cells (M2.out.holds 3); obtain ⟨e4, e5⟩ := PairAt.cells (M2.out.holds 4); obtain ⟨_, e6, _, _⟩ := OpAt.cells (M2.out.holds 7); simp only at e6; clear g2 MA))
                  go_wp2
                  go_big_quiet (fail)
                  go_wp2
                  go_meet
                  exact ⟨q0, q1, _, _, Few.less (l := [_, _, _, _, _, _, _]) (M2.out.below (below_drewN _ _))⟩
            · by_cases k1 : kd = 1
              · subst k1
                rcases hk13 with rfl | rfl
                · cases q0 with
                  | nil =>
                    as_aux_lemma =>
                    obtain ⟨ad, cp, hu⟩ := Tail.slice (MA.out.holds 5)
                    simp only [vals, List.map_nil, List.length_nil] at hu
                    subst hu
                    obtain ⟨e0, e1⟩ := PairAt.cells (MA.out.holds 0)
                    obtain ⟨e2, e3⟩ := PairAt.cells (MA.out.holds 3)
                    obtain ⟨e4, e5⟩ := PairAt.cells (MA.out.holds 4)
                    obtain ⟨_, e6, _, _⟩ := OpAt.cells (MA.out.holds 7)
                    simp only at e6
                    go_wp2_with fail
                    refine (BI.take_none wc (MA.out.holds 1)).mono ?_
                    rintro e w2 ⟨rfl, g2⟩
                    have M2 : Hid (Few w [([R], PairAt R 69 (.int .i64 m0) (.int .i64 m1)), (BI.footB b0 c0 ([] : List (Nat × Int)), fun u => BI.Boxes u b0 c0 m0 ([] : List (Nat × Int))), (BI.footB b1 c1 q1, fun u => BI.Boxes u b1 c1 m1 q1), ([X], PairAt X 72 (.pointer (some ⟨b0, 0, none⟩)) (.pointer (some ⟨b1, 0, none⟩))), ([L], PairAt L 73 (Value.slice ad 0 cp) (s1)), ((Value.slice ad 0 cp).ownBlock.toList, fun u => Tail u w.heap.size 3 (Value.slice ad 0 cp) ([])), ((s1).ownBlock.toList, fun u => Tail u w.heap.size 3 (s1) (vals q1)), ([P], OpAt P ⟨1, ov, oa, ob⟩)] w2) := MA.out.below g2
                    clear MA g2 e0 e1 e2 e3 e4 e5 e6 d0 d1 d2 d3
                    obtain ⟨e0, e1⟩ := PairAt.cells (M2.out.holds 0)
                    obtain ⟨e2, e3⟩ := PairAt.cells (M2.out.holds 3)
                    obtain ⟨e4, e5⟩ := PairAt.cells (M2.out.holds 4)
                    obtain ⟨_, e6, _, _⟩ := OpAt.cells (M2.out.holds 7)
                    simp only at e6
                    go_wp2
                    go_meet
                    exact ⟨_, _, _, _, Few.less (l := [_, _, _, _, _, _, _]) M2.out⟩
                  | cons p q =>
                    as_aux_lemma =>
                    obtain ⟨g, f, cp, hu, hcp, hcm, _⟩ := Tail.head (x := .int .i64 p.2) (xs := vals q) (MA.out.holds 5)
                    rw [vals_length] at hu hcp
                    subst hu
                    unfold maxLen at hcm
                    obtain ⟨pb, pv⟩ := p
                    simp only [List.length_cons] at hf0
                    have hql : q.length < 100 := by omega
                    have CT : Hid (Calls Try.prog 42 #[.pointer (some ⟨b0, 0, none⟩)] wc fun e w' => e = .returned (.tuple #[.int .i64 pv, .bool true]) ∧ BI.Boxes w' b0 c0 m0 q ∧ Only [c0] wc w') := BI.take_some wc (MA.out.holds 1)
                    obtain ⟨e0, e1⟩ := PairAt.cells (MA.out.holds 0)
                    obtain ⟨e2, e3⟩ := PairAt.cells (MA.out.holds 3)
                    obtain ⟨e4, e5⟩ := PairAt.cells (MA.out.holds 4)
                    obtain ⟨_, e6, _, _⟩ := OpAt.cells (MA.out.holds 7)
                    simp only at e6
                    go_wp2_with fail
                    refine CT.out.mono ?_
                    rintro e w2 ⟨rfl, h2, o2⟩
                    have M2 : Hid (Few w [([R], PairAt R 69 (.int .i64 m0) (.int .i64 m1)), (BI.footB b0 c0 q, fun u => BI.Boxes u b0 c0 m0 q), (BI.footB b1 c1 q1, fun u => BI.Boxes u b1 c1 m1 q1), ([X], PairAt X 72 (.pointer (some ⟨b0, 0, none⟩)) (.pointer (some ⟨b1, 0, none⟩))), ([L], PairAt L 73 (Value.slice (some ⟨g, f, none⟩) (q.length + 1) cp) (s1)), ((Value.slice (some ⟨g, f, none⟩) (q.length + 1) cp).ownBlock.toList, fun u => Tail u w.heap.size 3 (Value.slice (some ⟨g, f, none⟩) (q.length + 1) cp) (vals ((pb, pv) :: q))), ((s1).ownBlock.toList, fun u => Tail u w.heap.size 3 (s1) (vals q1)), ([P], OpAt P ⟨1, ov, oa, ob⟩)] w2) := BI.few_take MA.out 1 rfl h2 o2
                    clear MA CT h2 o2 e0 e1 e2 e3 e4 e5 e6 d0 d1 d2 d3
                    obtain ⟨e0, e1⟩ := PairAt.cells (M2.out.holds 0)
                    obtain ⟨e2, e3⟩ := PairAt.cells (M2.out.holds 3)
                    obtain ⟨e4, e5⟩ := PairAt.cells (M2.out.holds 4)
                    obtain ⟨_, e6, _, _⟩ := OpAt.cells (M2.out.holds 7)
                    simp only at e6
                    have cu : w2.cell? ⟨g, f, none⟩ = some (.int .i64 pv) := Tail.cellAt (j := 0) (M2.out.holds 5) rfl
                    have fz : w2.frozen? ⟨L, 0, none⟩ = false := PairAt.fz (M2.out.holds 4) _
                    rcases (by omega : cp = 1 ∨ 1 < cp) with rfl | hcp1
                    · obtain rfl : q = [] := List.eq_nil_of_length_eq_zero (by omega)
                      have T3 : Tail w2 w.heap.size 3 (.slice (some ⟨g, f, none⟩) 0 0) [] := Tail.none (M2.out.holds 5)
                      have M3 : Hid (Few w [([R], PairAt R 69 (.int .i64 m0) (.int .i64 m1)), (BI.footB b0 c0 ([] : List (Nat × Int)), fun u => BI.Boxes u b0 c0 m0 ([] : List (Nat × Int))), (BI.footB b1 c1 q1, fun u => BI.Boxes u b1 c1 m1 q1), ([X], PairAt X 72 (.pointer (some ⟨b0, 0, none⟩)) (.pointer (some ⟨b1, 0, none⟩))), ([L], PairAt L 73 (Value.slice (some ⟨g, f, none⟩) (0 + 1) 1) (s1)), ((Value.slice (some ⟨g, f, none⟩) 0 0).ownBlock.toList, fun u => Tail u w.heap.size 3 (Value.slice (some ⟨g, f, none⟩) 0 0) ([])), ((s1).ownBlock.toList, fun u => Tail u w.heap.size 3 (s1) (vals q1)), ([P], OpAt P ⟨1, ov, oa, ob⟩)] w2) := few_head M2.out 5 rfl T3 rfl
                      clear M2 T3
                      simp only [List.length_nil] at e4
                      go_wp2
                      go_meet
                      exact ⟨_, _, _, _, Few.less (l := [_, _, _, _, _, _, _]) (few_pair M3.out 4 rfl (PairAt.set0 (.slice (some ⟨g, f, none⟩) 0 0)))⟩
                    · have T3 : Tail w2 w.heap.size 3 (.slice (some ⟨g, f + 1, none⟩) (vals q).length (cp - 1)) (vals q) := Tail.tl (x := .int .i64 pv) (M2.out.holds 5)
                      rw [vals_length] at T3
                      have M3 : Hid (Few w [([R], PairAt R 69 (.int .i64 m0) (.int .i64 m1)), (BI.footB b0 c0 q, fun u => BI.Boxes u b0 c0 m0 q), (BI.footB b1 c1 q1, fun u => BI.Boxes u b1 c1 m1 q1), ([X], PairAt X 72 (.pointer (some ⟨b0, 0, none⟩)) (.pointer (some ⟨b1, 0, none⟩))), ([L], PairAt L 73 (Value.slice (some ⟨g, f, none⟩) (q.length + 1) cp) (s1)), ((Value.slice (some ⟨g, f + 1, none⟩) q.length (cp - 1)).ownBlock.toList, fun u => Tail u w.heap.size 3 (Value.slice (some ⟨g, f + 1, none⟩) q.length (cp - 1)) (vals q)), ((s1).ownBlock.toList, fun u => Tail u w.heap.size 3 (s1) (vals q1)), ([P], OpAt P ⟨1, ov, oa, ob⟩)] w2) := few_head M2.out 5 rfl T3 rfl
                      clear M2 T3
                      go_wp2
                      go_meet
                      exact ⟨_, _, _, _, Few.less (l := [_, _, _, _, _, _, _]) (few_pair M3.out 4 rfl (PairAt.set0 (Value.slice (some ⟨g, f + 1, none⟩) q.length (cp - 1))))⟩
                · cases q1 with
                  | nil =>
                    as_aux_lemma =>
                    obtain ⟨ad, cp, hu⟩ := Tail.slice (MA.out.holds 6)
                    simp only [vals, List.map_nil, List.length_nil] at hu
                    subst hu
                    obtain ⟨e0, e1⟩ := PairAt.cells (MA.out.holds 0)
                    obtain ⟨e2, e3⟩ := PairAt.cells (MA.out.holds 3)
                    obtain ⟨e4, e5⟩ := PairAt.cells (MA.out.holds 4)
                    obtain ⟨_, e6, _, _⟩ := OpAt.cells (MA.out.holds 7)
                    simp only at e6
                    go_wp2_with fail
                    refine (BI.take_none wc (MA.out.holds 2)).mono ?_
                    rintro e w2 ⟨rfl, g2⟩
                    have M2 : Hid (Few w [([R], PairAt R 69 (.int .i64 m0) (.int .i64 m1)), (BI.footB b0 c0 q0, fun u => BI.Boxes u b0 c0 m0 q0), (BI.footB b1 c1 ([] : List (Nat × Int)), fun u => BI.Boxes u b1 c1 m1 ([] : List (Nat × Int))), ([X], PairAt X 72 (.pointer (some ⟨b0, 0, none⟩)) (.pointer (some ⟨b1, 0, none⟩))), ([L], PairAt L 73 (s0) (Value.slice ad 0 cp)), ((s0).ownBlock.toList, fun u => Tail u w.heap.size 3 (s0) (vals q0)), ((Value.slice ad 0 cp).ownBlock.toList, fun u => Tail u w.heap.size 3 (Value.slice ad 0 cp) ([])), ([P], OpAt P ⟨1, ov, oa, ob⟩)] w2) := MA.out.below g2
                    clear MA g2 e0 e1 e2 e3 e4 e5 e6 d0 d1 d2 d3
                    obtain ⟨e0, e1⟩ := PairAt.cells (M2.out.holds 0)
                    obtain ⟨e2, e3⟩ := PairAt.cells (M2.out.holds 3)
                    obtain ⟨e4, e5⟩ := PairAt.cells (M2.out.holds 4)
                    obtain ⟨_, e6, _, _⟩ := OpAt.cells (M2.out.holds 7)
                    simp only at e6
                    go_wp2
                    go_meet
                    exact ⟨_, _, _, _, Few.less (l := [_, _, _, _, _, _, _]) M2.out⟩
                  | cons p q =>
                    as_aux_lemma =>
                    obtain ⟨g, f, cp, hu, hcp, hcm, _⟩ := Tail.head (x := .int .i64 p.2) (xs := vals q) (MA.out.holds 6)
                    rw [vals_length] at hu hcp
                    subst hu
                    unfold maxLen at hcm
                    obtain ⟨pb, pv⟩ := p
                    simp only [List.length_cons] at hf1
                    have hql : q.length < 100 := by omega
                    have CT : Hid (Calls Try.prog 42 #[.pointer (some ⟨b1, 0, none⟩)] wc fun e w' => e = .returned (.tuple #[.int .i64 pv, .bool true]) ∧ BI.Boxes w' b1 c1 m1 q ∧ Only [c1] wc w') := BI.take_some wc (MA.out.holds 2)
                    obtain ⟨e0, e1⟩ := PairAt.cells (MA.out.holds 0)
                    obtain ⟨e2, e3⟩ := PairAt.cells (MA.out.holds 3)
                    obtain ⟨e4, e5⟩ := PairAt.cells (MA.out.holds 4)
                    obtain ⟨_, e6, _, _⟩ := OpAt.cells (MA.out.holds 7)
                    simp only at e6
                    go_wp2_with fail
                    refine CT.out.mono ?_
                    rintro e w2 ⟨rfl, h2, o2⟩
                    have M2 : Hid (Few w [([R], PairAt R 69 (.int .i64 m0) (.int .i64 m1)), (BI.footB b0 c0 q0, fun u => BI.Boxes u b0 c0 m0 q0), (BI.footB b1 c1 q, fun u => BI.Boxes u b1 c1 m1 q), ([X], PairAt X 72 (.pointer (some ⟨b0, 0, none⟩)) (.pointer (some ⟨b1, 0, none⟩))), ([L], PairAt L 73 (s0) (Value.slice (some ⟨g, f, none⟩) (q.length + 1) cp)), ((s0).ownBlock.toList, fun u => Tail u w.heap.size 3 (s0) (vals q0)), ((Value.slice (some ⟨g, f, none⟩) (q.length + 1) cp).ownBlock.toList, fun u => Tail u w.heap.size 3 (Value.slice (some ⟨g, f, none⟩) (q.length + 1) cp) (vals ((pb, pv) :: q))), ([P], OpAt P ⟨1, ov, oa, ob⟩)] w2) := BI.few_take MA.out 2 rfl h2 o2
                    clear MA CT h2 o2 e0 e1 e2 e3 e4 e5 e6 d0 d1 d2 d3
                    obtain ⟨e0, e1⟩ := PairAt.cells (M2.out.holds 0)
                    obtain ⟨e2, e3⟩ := PairAt.cells (M2.out.holds 3)
                    obtain ⟨e4, e5⟩ := PairAt.cells (M2.out.holds 4)
                    obtain ⟨_, e6, _, _⟩ := OpAt.cells (M2.out.holds 7)
                    simp only at e6
                    have cu : w2.cell? ⟨g, f, none⟩ = some (.int .i64 pv) := Tail.cellAt (j := 0) (M2.out.holds 6) rfl
                    have fz : w2.frozen? ⟨L, 1, none⟩ = false := PairAt.fz (M2.out.holds 4) _
                    rcases (by omega : cp = 1 ∨ 1 < cp) with rfl | hcp1
                    · obtain rfl : q = [] := List.eq_nil_of_length_eq_zero (by omega)
                      have T3 : Tail w2 w.heap.size 3 (.slice (some ⟨g, f, none⟩) 0 0) [] := Tail.none (M2.out.holds 6)
                      have M3 : Hid (Few w [([R], PairAt R 69 (.int .i64 m0) (.int .i64 m1)), (BI.footB b0 c0 q0, fun u => BI.Boxes u b0 c0 m0 q0), (BI.footB b1 c1 ([] : List (Nat × Int)), fun u => BI.Boxes u b1 c1 m1 ([] : List (Nat × Int))), ([X], PairAt X 72 (.pointer (some ⟨b0, 0, none⟩)) (.pointer (some ⟨b1, 0, none⟩))), ([L], PairAt L 73 (s0) (Value.slice (some ⟨g, f, none⟩) (0 + 1) 1)), ((s0).ownBlock.toList, fun u => Tail u w.heap.size 3 (s0) (vals q0)), ((Value.slice (some ⟨g, f, none⟩) 0 0).ownBlock.toList, fun u => Tail u w.heap.size 3 (Value.slice (some ⟨g, f, none⟩) 0 0) ([])), ([P], OpAt P ⟨1, ov, oa, ob⟩)] w2) := few_head M2.out 6 rfl T3 rfl
                      clear M2 T3
                      simp only [List.length_nil] at e5
                      go_wp2
                      go_meet
                      exact ⟨_, _, _, _, Few.less (l := [_, _, _, _, _, _, _]) (few_pair M3.out 4 rfl (PairAt.set1 (.slice (some ⟨g, f, none⟩) 0 0)))⟩
                    · have T3 : Tail w2 w.heap.size 3 (.slice (some ⟨g, f + 1, none⟩) (vals q).length (cp - 1)) (vals q) := Tail.tl (x := .int .i64 pv) (M2.out.holds 6)
                      rw [vals_length] at T3
                      have M3 : Hid (Few w [([R], PairAt R 69 (.int .i64 m0) (.int .i64 m1)), (BI.footB b0 c0 q0, fun u => BI.Boxes u b0 c0 m0 q0), (BI.footB b1 c1 q, fun u => BI.Boxes u b1 c1 m1 q), ([X], PairAt X 72 (.pointer (some ⟨b0, 0, none⟩)) (.pointer (some ⟨b1, 0, none⟩))), ([L], PairAt L 73 (s0) (Value.slice (some ⟨g, f, none⟩) (q.length + 1) cp)), ((s0).ownBlock.toList, fun u => Tail u w.heap.size 3 (s0) (vals q0)), ((Value.slice (some ⟨g, f + 1, none⟩) q.length (cp - 1)).ownBlock.toList, fun u => Tail u w.heap.size 3 (Value.slice (some ⟨g, f + 1, none⟩) q.length (cp - 1)) (vals q)), ([P], OpAt P ⟨1, ov, oa, ob⟩)] w2) := few_head M2.out 6 rfl T3 rfl
                      clear M2 T3
                      go_wp2
                      go_meet
                      exact ⟨_, _, _, _, Few.less (l := [_, _, _, _, _, _, _]) (few_pair M3.out 4 rfl (PairAt.set1 (Value.slice (some ⟨g, f + 1, none⟩) q.length (cp - 1))))⟩
              · clear hk13
                cases q0 with
                | cons p q =>
                  as_aux_lemma =>
                  obtain ⟨ad1, cp1, hu1⟩ := Tail.slice (MA.out.holds 6)
                  rw [vals_length] at hu1
                  subst hu1
                  obtain ⟨g, f, cp, hu, hcp, hcm, _⟩ := Tail.head (x := .int .i64 p.2) (xs := vals q) (MA.out.holds 5)
                  rw [vals_length] at hu hcp
                  subst hu
                  unfold maxLen at hcm
                  obtain ⟨pb, pv⟩ := p
                  simp only [List.length_cons] at hf0
                  have hql : q.length < 100 := by omega
                  have CT : Hid (Calls Try.prog 43 #[.pointer (some ⟨b0, 0, none⟩), .pointer (some ⟨b1, 0, none⟩)] wc fun e w' => e = .returned (.tuple #[.int .i64 pv, .int .i64 1]) ∧ BI.Boxes w' b0 c0 m0 q ∧ Only [c0] wc w') := BI.either_first (d := b1) wc (MA.out.holds 1)
                  obtain ⟨e0, e1⟩ := PairAt.cells (MA.out.holds 0)
                  obtain ⟨e2, e3⟩ := PairAt.cells (MA.out.holds 3)
                  obtain ⟨e4, e5⟩ := PairAt.cells (MA.out.holds 4)
                  obtain ⟨_, e6, _, _⟩ := OpAt.cells (MA.out.holds 7)
                  simp only at e6
                  go_wp2_with fail
                  refine CT.out.mono ?_
                  rintro e w2 ⟨rfl, h2, o2⟩
                  have M2 : Hid (Few w [([R], PairAt R 69 (.int .i64 m0) (.int .i64 m1)), (BI.footB b0 c0 q, fun u => BI.Boxes u b0 c0 m0 q), (BI.footB b1 c1 q1, fun u => BI.Boxes u b1 c1 m1 q1), ([X], PairAt X 72 (.pointer (some ⟨b0, 0, none⟩)) (.pointer (some ⟨b1, 0, none⟩))), ([L], PairAt L 73 (Value.slice (some ⟨g, f, none⟩) (q.length + 1) cp) (Value.slice ad1 q1.length cp1)), ((Value.slice (some ⟨g, f, none⟩) (q.length + 1) cp).ownBlock.toList, fun u => Tail u w.heap.size 3 (Value.slice (some ⟨g, f, none⟩) (q.length + 1) cp) (vals ((pb, pv) :: q))), ((Value.slice ad1 q1.length cp1).ownBlock.toList, fun u => Tail u w.heap.size 3 (Value.slice ad1 q1.length cp1) (vals q1)), ([P], OpAt P ⟨kd, ov, oa, ob⟩)] w2) := BI.few_take MA.out 1 rfl h2 o2
                  clear MA CT h2 o2 e0 e1 e2 e3 e4 e5 e6 d0 d1 d2 d3
                  obtain ⟨e0, e1⟩ := PairAt.cells (M2.out.holds 0)
                  obtain ⟨e2, e3⟩ := PairAt.cells (M2.out.holds 3)
                  obtain ⟨e4, e5⟩ := PairAt.cells (M2.out.holds 4)
                  obtain ⟨_, e6, _, _⟩ := OpAt.cells (M2.out.holds 7)
                  simp only at e6
                  have cu : w2.cell? ⟨g, f, none⟩ = some (.int .i64 pv) := Tail.cellAt (j := 0) (M2.out.holds 5) rfl
                  have fz : w2.frozen? ⟨L, 0, none⟩ = false := PairAt.fz (M2.out.holds 4) _
                  rcases (by omega : cp = 1 ∨ 1 < cp) with rfl | hcp1
                  · obtain rfl : q = [] := List.eq_nil_of_length_eq_zero (by omega)
                    have T3 : Tail w2 w.heap.size 3 (.slice (some ⟨g, f, none⟩) 0 0) [] := Tail.none (M2.out.holds 5)
                    have M3 : Hid (Few w [([R], PairAt R 69 (.int .i64 m0) (.int .i64 m1)), (BI.footB b0 c0 ([] : List (Nat × Int)), fun u => BI.Boxes u b0 c0 m0 ([] : List (Nat × Int))), (BI.footB b1 c1 q1, fun u => BI.Boxes u b1 c1 m1 q1), ([X], PairAt X 72 (.pointer (some ⟨b0, 0, none⟩)) (.pointer (some ⟨b1, 0, none⟩))), ([L], PairAt L 73 (Value.slice (some ⟨g, f, none⟩) (0 + 1) 1) (Value.slice ad1 q1.length cp1)), ((Value.slice (some ⟨g, f, none⟩) 0 0).ownBlock.toList, fun u => Tail u w.heap.size 3 (Value.slice (some ⟨g, f, none⟩) 0 0) ([])), ((Value.slice ad1 q1.length cp1).ownBlock.toList, fun u => Tail u w.heap.size 3 (Value.slice ad1 q1.length cp1) (vals q1)), ([P], OpAt P ⟨kd, ov, oa, ob⟩)] w2) := few_head M2.out 5 rfl T3 rfl
                    clear M2 T3
                    simp only [List.length_nil] at e4
                    go_wp2
                    go_meet
                    exact ⟨_, _, _, _, Few.less (l := [_, _, _, _, _, _, _]) (few_pair M3.out 4 rfl (PairAt.set0 (.slice (some ⟨g, f, none⟩) 0 0)))⟩
                  · have T3 : Tail w2 w.heap.size 3 (.slice (some ⟨g, f + 1, none⟩) (vals q).length (cp - 1)) (vals q) := Tail.tl (x := .int .i64 pv) (M2.out.holds 5)
                    rw [vals_length] at T3
                    have M3 : Hid (Few w [([R], PairAt R 69 (.int .i64 m0) (.int .i64 m1)), (BI.footB b0 c0 q, fun u => BI.Boxes u b0 c0 m0 q), (BI.footB b1 c1 q1, fun u => BI.Boxes u b1 c1 m1 q1), ([X], PairAt X 72 (.pointer (some ⟨b0, 0, none⟩)) (.pointer (some ⟨b1, 0, none⟩))), ([L], PairAt L 73 (Value.slice (some ⟨g, f, none⟩) (q.length + 1) cp) (Value.slice ad1 q1.length cp1)), ((Value.slice (some ⟨g, f + 1, none⟩) q.length (cp - 1)).ownBlock.toList, fun u => Tail u w.heap.size 3 (Value.slice (some ⟨g, f + 1, none⟩) q.length (cp - 1)) (vals q)), ((Value.slice ad1 q1.length cp1).ownBlock.toList, fun u => Tail u w.heap.size 3 (Value.slice ad1 q1.length cp1) (vals q1)), ([P], OpAt P ⟨kd, ov, oa, ob⟩)] w2) := few_head M2.out 5 rfl T3 rfl
                    clear M2 T3
                    go_wp2
                    go_meet
                    exact ⟨_, _, _, _, Few.less (l := [_, _, _, _, _, _, _]) (few_pair M3.out 4 rfl (PairAt.set0 (Value.slice (some ⟨g, f + 1, none⟩) q.length (cp - 1))))⟩
                | nil =>
                  cases q1 with
                  | cons p q =>
                    as_aux_lemma =>
                    obtain ⟨ad0, cp0, hu0⟩ := Tail.slice (MA.out.holds 5)
                    simp only [vals, List.map_nil, List.length_nil] at hu0
                    subst hu0
                    obtain ⟨g, f, cp, hu, hcp, hcm, _⟩ := Tail.head (x := .int .i64 p.2) (xs := vals q) (MA.out.holds 6)
                    rw [vals_length] at hu hcp
                    subst hu
                    unfold maxLen at hcm
                    obtain ⟨pb, pv⟩ := p
                    simp only [List.length_cons] at hf1
                    have hql : q.length < 100 := by omega
                    have CT : Hid (Calls Try.prog 43 #[.pointer (some ⟨b0, 0, none⟩), .pointer (some ⟨b1, 0, none⟩)] wc fun e w' => e = .returned (.tuple #[.int .i64 pv, .int .i64 2]) ∧ BI.Boxes w' b1 c1 m1 q ∧ Only [c1] wc w') := BI.either_second wc (MA.out.holds 1) (MA.out.holds 2)
                    obtain ⟨e0, e1⟩ := PairAt.cells (MA.out.holds 0)
                    obtain ⟨e2, e3⟩ := PairAt.cells (MA.out.holds 3)
                    obtain ⟨e4, e5⟩ := PairAt.cells (MA.out.holds 4)
                    obtain ⟨_, e6, _, _⟩ := OpAt.cells (MA.out.holds 7)
                    simp only at e6
                    go_wp2_with fail
                    refine CT.out.mono ?_
                    rintro e w2 ⟨rfl, h2, o2⟩
                    have M2 : Hid (Few w [([R], PairAt R 69 (.int .i64 m0) (.int .i64 m1)), (BI.footB b0 c0 ([] : List (Nat × Int)), fun u => BI.Boxes u b0 c0 m0 ([] : List (Nat × Int))), (BI.footB b1 c1 q, fun u => BI.Boxes u b1 c1 m1 q), ([X], PairAt X 72 (.pointer (some ⟨b0, 0, none⟩)) (.pointer (some ⟨b1, 0, none⟩))), ([L], PairAt L 73 (Value.slice ad0 0 cp0) (Value.slice (some ⟨g, f, none⟩) (q.length + 1) cp)), ((Value.slice ad0 0 cp0).ownBlock.toList, fun u => Tail u w.heap.size 3 (Value.slice ad0 0 cp0) (vals ([] : List (Nat × Int)))), ((Value.slice (some ⟨g, f, none⟩) (q.length + 1) cp).ownBlock.toList, fun u => Tail u w.heap.size 3 (Value.slice (some ⟨g, f, none⟩) (q.length + 1) cp) (vals ((pb, pv) :: q))), ([P], OpAt P ⟨kd, ov, oa, ob⟩)] w2) := BI.few_take MA.out 2 rfl h2 o2
                    clear MA CT h2 o2 e0 e1 e2 e3 e4 e5 e6 d0 d1 d2 d3
                    obtain ⟨e0, e1⟩ := PairAt.cells (M2.out.holds 0)
                    obtain ⟨e2, e3⟩ := PairAt.cells (M2.out.holds 3)
                    obtain ⟨e4, e5⟩ := PairAt.cells (M2.out.holds 4)
                    obtain ⟨_, e6, _, _⟩ := OpAt.cells (M2.out.holds 7)
                    simp only at e6
                    have cu : w2.cell? ⟨g, f, none⟩ = some (.int .i64 pv) := Tail.cellAt (j := 0) (M2.out.holds 6) rfl
                    have fz : w2.frozen? ⟨L, 1, none⟩ = false := PairAt.fz (M2.out.holds 4) _
                    rcases (by omega : cp = 1 ∨ 1 < cp) with rfl | hcp1
                    · obtain rfl : q = [] := List.eq_nil_of_length_eq_zero (by omega)
                      have T3 : Tail w2 w.heap.size 3 (.slice (some ⟨g, f, none⟩) 0 0) [] := Tail.none (M2.out.holds 6)
                      have M3 : Hid (Few w [([R], PairAt R 69 (.int .i64 m0) (.int .i64 m1)), (BI.footB b0 c0 ([] : List (Nat × Int)), fun u => BI.Boxes u b0 c0 m0 ([] : List (Nat × Int))), (BI.footB b1 c1 ([] : List (Nat × Int)), fun u => BI.Boxes u b1 c1 m1 ([] : List (Nat × Int))), ([X], PairAt X 72 (.pointer (some ⟨b0, 0, none⟩)) (.pointer (some ⟨b1, 0, none⟩))), ([L], PairAt L 73 (Value.slice ad0 0 cp0) (Value.slice (some ⟨g, f, none⟩) (0 + 1) 1)), ((Value.slice ad0 0 cp0).ownBlock.toList, fun u => Tail u w.heap.size 3 (Value.slice ad0 0 cp0) (vals ([] : List (Nat × Int)))), ((Value.slice (some ⟨g, f, none⟩) 0 0).ownBlock.toList, fun u => Tail u w.heap.size 3 (Value.slice (some ⟨g, f, none⟩) 0 0) ([])), ([P], OpAt P ⟨kd, ov, oa, ob⟩)] w2) := few_head M2.out 6 rfl T3 rfl
                      clear M2 T3
                      simp only [List.length_nil] at e5
                      go_wp2
                      go_meet
                      exact ⟨_, _, _, _, Few.less (l := [_, _, _, _, _, _, _]) (few_pair M3.out 4 rfl (PairAt.set1 (.slice (some ⟨g, f, none⟩) 0 0)))⟩
                    · have T3 : Tail w2 w.heap.size 3 (.slice (some ⟨g, f + 1, none⟩) (vals q).length (cp - 1)) (vals q) := Tail.tl (x := .int .i64 pv) (M2.out.holds 6)
                      rw [vals_length] at T3
                      have M3 : Hid (Few w [([R], PairAt R 69 (.int .i64 m0) (.int .i64 m1)), (BI.footB b0 c0 ([] : List (Nat × Int)), fun u => BI.Boxes u b0 c0 m0 ([] : List (Nat × Int))), (BI.footB b1 c1 q, fun u => BI.Boxes u b1 c1 m1 q), ([X], PairAt X 72 (.pointer (some ⟨b0, 0, none⟩)) (.pointer (some ⟨b1, 0, none⟩))), ([L], PairAt L 73 (Value.slice ad0 0 cp0) (Value.slice (some ⟨g, f, none⟩) (q.length + 1) cp)), ((Value.slice ad0 0 cp0).ownBlock.toList, fun u => Tail u w.heap.size 3 (Value.slice ad0 0 cp0) (vals ([] : List (Nat × Int)))), ((Value.slice (some ⟨g, f + 1, none⟩) q.length (cp - 1)).ownBlock.toList, fun u => Tail u w.heap.size 3 (Value.slice (some ⟨g, f + 1, none⟩) q.length (cp - 1)) (vals q)), ([P], OpAt P ⟨kd, ov, oa, ob⟩)] w2) := few_head M2.out 6 rfl T3 rfl
                      clear M2 T3
                      go_wp2
                      go_meet
                      exact ⟨_, _, _, _, Few.less (l := [_, _, _, _, _, _, _]) (few_pair M3.out 4 rfl (PairAt.set1 (Value.slice (some ⟨g, f + 1, none⟩) q.length (cp - 1))))⟩
                  | nil =>
                    as_aux_lemma =>
                    obtain ⟨ad0, cp0, hu0⟩ := Tail.slice (MA.out.holds 5)
                    simp only [vals, List.map_nil, List.length_nil] at hu0
                    subst hu0
                    obtain ⟨ad1, cp1, hu1⟩ := Tail.slice (MA.out.holds 6)
                    simp only [vals, List.map_nil, List.length_nil] at hu1
                    subst hu1
                    obtain ⟨e0, e1⟩ := PairAt.cells (MA.out.holds 0)
                    obtain ⟨e2, e3⟩ := PairAt.cells (MA.out.holds 3)
                    obtain ⟨e4, e5⟩ := PairAt.cells (MA.out.holds 4)
                    obtain ⟨_, e6, _, _⟩ := OpAt.cells (MA.out.holds 7)
                    simp only at e6
                    go_wp2_with fail
                    refine (BI.either_none wc (MA.out.holds 1) (MA.out.holds 2)).mono ?_
                    rintro e w2 ⟨rfl, g2⟩
                    have M2 : Hid (Few w [([R], PairAt R 69 (.int .i64 m0) (.int .i64 m1)), (BI.footB b0 c0 ([] : List (Nat × Int)), fun u => BI.Boxes u b0 c0 m0 ([] : List (Nat × Int))), (BI.footB b1 c1 ([] : List (Nat × Int)), fun u => BI.Boxes u b1 c1 m1 ([] : List (Nat × Int))), ([X], PairAt X 72 (.pointer (some ⟨b0, 0, none⟩)) (.pointer (some ⟨b1, 0, none⟩))), ([L], PairAt L 73 (Value.slice ad0 0 cp0) (Value.slice ad1 0 cp1)), ((Value.slice ad0 0 cp0).ownBlock.toList, fun u => Tail u w.heap.size 3 (Value.slice ad0 0 cp0) ([])), ((Value.slice ad1 0 cp1).ownBlock.toList, fun u => Tail u w.heap.size 3 (Value.slice ad1 0 cp1) ([])), ([P], OpAt P ⟨kd, ov, oa, ob⟩)] w2) := MA.out.below g2
                    clear MA g2 e0 e1 e2 e3 e4 e5 e6 d0 d1 d2 d3
                    obtain ⟨e0, e1⟩ := PairAt.cells (M2.out.holds 0)
                    obtain ⟨e2, e3⟩ := PairAt.cells (M2.out.holds 3)
                    obtain ⟨e4, e5⟩ := PairAt.cells (M2.out.holds 4)
                    obtain ⟨_, e6, _, _⟩ := OpAt.cells (M2.out.holds 7)
                    simp only at e6
                    go_wp2
                    go_meet
                    exact ⟨_, _, _, _, Few.less (l := [_, _, _, _, _, _, _]) M2.out⟩
          case rest =>
            as_aux_lemma =>
            clear MA d0 d1 d2 d3 hk13
            obtain ⟨r0, r1, s2, s3, M2⟩ := hcut
            have HM : Hid (Few w [([R], PairAt R 69 (.int .i64 m0) (.int .i64 m1)), (BI.footB b0 c0 r0, fun u => BI.Boxes u b0 c0 m0 r0), (BI.footB b1 c1 r1, fun u => BI.Boxes u b1 c1 m1 r1), ([X], PairAt X 72 (.pointer (some ⟨b0, 0, none⟩)) (.pointer (some ⟨b1, 0, none⟩))), ([L], PairAt L 73 (s2) (s3)), ((s2).ownBlock.toList, fun u => Tail u w.heap.size 3 (s2) (vals r0)), ((s3).ownBlock.toList, fun u => Tail u w.heap.size 3 (s3) (vals r1))] wc) := M2
            clear M2
            have hf0 : r0.length ≤ m0 := BI.Boxes.few (HM.out.holds 1)
            have hf1 : r1.length ≤ m1 := BI.Boxes.few (HM.out.holds 2)
            obtain ⟨ad0, cp0, hu0⟩ := Tail.slice (HM.out.holds 5)
            rw [vals_length] at hu0
            subst hu0
            obtain ⟨ad1, cp1, hu1⟩ := Tail.slice (HM.out.holds 6)
            rw [vals_length] at hu1
            subst hu1
            obtain ⟨e2, e3⟩ := PairAt.cells (HM.out.holds 3)
            obtain ⟨e4, e5⟩ := PairAt.cells (HM.out.holds 4)
            obtain ⟨n0, hn0⟩ : ∃ n, r0.length = n := ⟨_, rfl⟩
            obtain ⟨n1, hn1⟩ : ∃ n, r1.length = n := ⟨_, rfl⟩
            have C0 : Hid (∀ u, BI.Boxes u b0 c0 m0 r0 → Calls Try.prog 44 #[.pointer (some ⟨b0, 0, none⟩)] u fun e w' => e = .returned (.int .i64 n0) ∧ w' = u) := fun u h => hn0 ▸ BI.len_any u h
            have C1 : Hid (∀ u, BI.Boxes u b1 c1 m1 r1 → Calls Try.prog 44 #[.pointer (some ⟨b1, 0, none⟩)] u fun e w' => e = .returned (.int .i64 n1) ∧ w' = u) := fun u h => hn1 ▸ BI.len_any u h
            rw [hn0] at e4 hf0
            rw [hn1] at e5 hf1
            clear hn0 hn1
            have q1 : ((n0 : Int) != (n0 : Int)) = false := by simp
            go_wp2
            go_region_held3 (fun w' => w'.cell? ⟨X, 0, none⟩ = some (.pointer (some ⟨b0, 0, none⟩)) ∧ w'.cell? ⟨X, 1, none⟩ = some (.pointer (some ⟨b1, 0, none⟩)) ∧ w'.cell? ⟨L, 0, none⟩ = some (.slice ad0 n0 cp0) ∧ w'.cell? ⟨L, 1, none⟩ = some (.slice ad1 n1 cp1)) (first | exact ⟨e2, e3, e4, e5⟩ | go_keep)
              (first | (go_at_call 44; refine (C0.out _ ((HM.out.below ((Below.refl _ _).drew)).holds 1)).mono ?_; rintro e w' ⟨rfl, hw⟩; subst w') | (go_at_call 44; refine (C1.out _ ((HM.out.below ((Below.refl _ _).drew)).holds 2)).mono ?_; rintro e w' ⟨rfl, hw⟩; subst w'))
            go_wp2
            go_roundg (59 - k)
            case measure => omega
            case rel => exact ⟨k + 1, by omega, by omega, by go_num, r0, r1, _, _, HM.out.below ((Below.refl _ _).drew)⟩
        · go_wp2
          go_ret
          exact ⟨rfl, HM.out.bel⟩
      · go_wp2
        go_ret
        exact ⟨rfl, HM.out.bel⟩

set_option maxRecDepth 100000 in
theorem lifted (os : Os) (started : os.Started) (H : Type) (enc : TypeId × Value → H) :
    ReturnsInHanded {} Try.checked os 7 .any (Rows.boxAllSpec.pre6 enc Try.prog Try.f7 Rows.boxAllRow.domain false) (Rows.boxAllSpec.post enc Try.prog Try.f7 false true false false) := by
  refine returnsInHanded_of_change (C := Try.checked) own started (by kernel_rfl) Try.func7
    (ChangeSpec.witness6 (enc := enc) (C := Try.checked) false ⟨#[], #[.int .i64 0, .int .i64 0, .slice none 0 0], []⟩ 8 (by kernel_rfl) (by kernel_rfl) (by kernel_rfl) (by kernel_rfl)) ?_
  intro W base args ds gs before hval0 hW hcnd _
  have hval : ∀ (j : Nat) t v, Try.f7.params[j]? = some t → args[j]? = some v → Value.okWide Try.prog W .any base t v := hval0
  have hW' := hW
  obtain ⟨p, q, hA0, hV, rfl, hfz, hnd⟩ := hW
  have hA : DataW.TrodAll enc Try.prog W 0 (fun _ => true) true Try.f7.params.toList args.toList ds p := hA0
  rw [Try.params7] at hA hval
  obtain ⟨v0, vs0, d0, ds0, p0, q0, hargs, rfl, rfl, h0, r0⟩ := trodAll_cons hA
  obtain ⟨v1, vs1, d1, ds1, p1, q1, rfl, rfl, rfl, h1, r1⟩ := trodAll_cons r0
  obtain ⟨v2, vs2, d2, ds2, p2, q2, rfl, rfl, rfl, h2, r2⟩ := trodAll_cons r1
  obtain ⟨rfl, rfl, rfl⟩ := trodAll_nil r2
  obtain rfl : args = #[v0, v1, v2] := by cases args; simp_all
  obtain ⟨rfl, rfl⟩ := trodVars_none hV
  obtain ⟨a0, rfl, rfl, rfl, w0⟩ := open_int Try.underlying3 (hval 0 3 v0 rfl rfl) h0
  obtain ⟨a1, rfl, rfl, rfl, w1⟩ := open_int Try.underlying3 (hval 1 3 v1 rfl rfl) h1
  obtain ⟨a2, len2, cap2, rfl⟩ := okWide_slice Try.underlying22 (hval 2 22 v2 rfl rfl)
  have k2 := h2
  have lt2 : ∀ x ∈ p2, x.block < W.heap.size := by obtain ⟨m, hm⟩ := k2; exact DataW.trod_lt m _ _ _ hm
  obtain ⟨z2, w2⟩ := (by obtain ⟨fuel, hf⟩ := h2; exact open_ops hf : ∃ zs, IsOps W a2 len2 zs)
  clear hA0 hval0
  refine (walk a0 a1 a2 len2 cap2 z2 W w0 w1 w2).mono fun e W' ⟨he, bel⟩ => ?_
  subst he
  exact ⟨_, rfl, _, _, _, [], _, [], hW', trodAll_mk1 (shut_bool Try.underlying4 _), (trodAll_cons_mk (shut_int Try.underlying3 w0) (trodAll_cons_mk (shut_int Try.underlying3 w1) (trodAll_cons_mk (Below.trod laidOut (by kernel_rfl) (of_decide_eq_true (by kernel_rfl)) k2 bel lt2) trodAll_mk0))), rfl, bel.frame _, fun h => by cases h⟩

theorem over : Rows.boxAllRow.holds Try.pinned (OpenSpec.ofChange Rows.boxAllSpec) :=
  OpenClaim.holds_of_wide 7 Try.f7 rfl rfl rfl rfl rfl rfl rfl ⟨rfl, rfl, rfl, rfl, rfl⟩ rfl rfl rfl rfl rfl (by kernel_rfl) Try.func7 (by kernel_rfl)
    (of_decide_eq_true (by kernel_rfl)) (by unfold Func.isWrapper; first | (rw [if_pos (by decide +kernel)]; kernel_rfl) | (rw [if_neg (by decide +kernel)]; exact ⟨rfl, rfl⟩))
    (fun os started H enc _ => lifted os started H enc)

theorem proved : Rows.BoxAllSaid := over
end Go.Proofs.Ytbfbijfedamgaaa.boxAll
