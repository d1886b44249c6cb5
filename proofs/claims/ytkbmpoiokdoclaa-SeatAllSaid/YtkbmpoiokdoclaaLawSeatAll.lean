/-
PROVED: the statement hortatorlaw2.SeatAll answers true over the landed packages: seats: the least free number; set, got, dropped.
  CONDITIONS: none beside the row's own.
-/
import Derived.Test.YtkbmpoiokdoclaaRows
import Derived.WalkKit
import Derived.ProofKit
import Derived.OpenShut
import Derived.ShutString
import Derived.ChangeOld
import Derived.Below
import Derived.Test.YtkbmpoiokdoclaaArgs
import Derived.Test.YtkbmpoiokdoclaaBegun
import Derived.Test.YtkbmpoiokdoclaaSeatSync
namespace Go.Proofs.Ytkbmpoiokdoclaa.seatAll
open Go.ChangeShapes Go.WideShapes Go.ChangeAt Go.RowKit
open Go.ChangeMaps (open_string shut_string)
set_option linter.unusedVariables false

theorem own : ownKnob Try.prog.godebug = none := by kernel_rfl
theorem laidOut : laidOutB Try.prog = true := by kernel_rfl

set_option maxHeartbeats 8000000 in
set_option maxRecDepth 100000 in
theorem walk (a0 : Int) (a1 : Option Addr) (len1 cap1 : Nat) (z1 : List Op4) (w : World) (w0 : (Lit.int .i64 a0).wf = true) (w1 : IsOps w a1 len1 z1) :
    Calls Try.prog 10 #[.int .i64 a0, .slice a1 len1 cap1] w fun e w' => e = .returned (.bool true) ∧ Below w.heap.size w w' := by
  obtain ⟨b1, b2⟩ := bounds_i64 w0
  obtain ⟨hzl, hlen, hops⟩ := w1
  have HO : Hid (∀ i o, z1[i]? = some o → ∃ x, a1 = some x ∧ x.block < w.heap.size ∧ IsOp w x i o) := hops
  have HZ : Hid (z1.length = len1) := hzl
  clear hops hzl
  obtain ⟨m, hM⟩ : ∃ m : Nat, (m : Int) = max 0 (min a0 100) := ⟨(max 0 (min a0 100)).toNat, by omega⟩
  have hm1 : m ≤ 100 := by omega
  have HR : Hid (SI.roomV a0 = (m : Int)) := hM.symm
  go_enter Try.func10, Try.ntmps10
  go_wp2_with fail
  refine (begun2_any _).mono ?_
  rintro e W ⟨rfl, g0⟩
  have M0 : Hid (Few w [] W) := (Few.start w).below g0
  clear g0
  go_wp2_with fail
  refine (SI.new_any a0 W b1 b2).mono ?_
  rintro e w1 ⟨rfl, h1, g1⟩
  rw [HR.out] at h1
  have M1 : Hid (Few w [(foot W.heap.size (.slice none 0 0), fun u => SI.Seats u W.heap.size m (.slice none 0 0) [])] w1) := M0.out.add g1 h1 h1.foot_lt h1.foot_ge SI.keeps
  clear M0 g1 h1
  obtain ⟨B, hB⟩ : ∃ B, B = W.heap.size := ⟨_, rfl⟩
  rw [← hB]
  rw [← hB] at M1
  clear hB
  go_upto_region 5 with fail
  go_cut [7] (fun s7 wc => s7 = .int .i64 m ∧ wc = w1)
  case first =>
    go_wp2
    all_goals
      go_meet
      exact ⟨congrArg (Value.int .i64) (by omega), rfl⟩
  case rest =>
    obtain ⟨rfl, rfl⟩ := hcut
    clear hM b1 b2 w0
    have mkb : ∀ w, (Instr.makeSlice 68 (.int .i64 ((m : Int) + 2)) (.int .i64 ((m : Int) + 2))).run Try.prog w = .ok (.slice (some ⟨w.heap.size, 0, none⟩) (m + 2) (m + 2)) (w.alloc (.cells (Array.replicate (m + 2) (.bool false)) 4)) := madeB (m + 2) (by omega)
    have mki : ∀ w, (Instr.makeSlice 42 (.int .i64 ((m : Int) + 2)) (.int .i64 ((m : Int) + 2))).run Try.prog w = .ok (.slice (some ⟨w.heap.size, 0, none⟩) (m + 2) (m + 2)) (w.alloc (.cells (Array.replicate (m + 2) (.int .i64 0)) 3)) := SI.madeI (m + 2) (by omega)
    go_upto_region 6 with fail
    go_cut [8, 9] (fun s8 s9 wd => ∃ G1 G2 : Nat, s8 = .slice (some ⟨G1, 0, none⟩) (m + 2) (m + 2) ∧ s9 = .slice (some ⟨G2, 0, none⟩) (m + 2) (m + 2) ∧ Few w [(foot B (.slice none 0 0), fun u => SI.Seats u B m (.slice none 0 0) []), ([G1], RowF G1 4 (m + 2) (fun j => .bool ((fun _ => false) j))), ([G2], RowF G2 3 (m + 2) (fun j => .int .i64 ((fun _ => 0) j)))] wd)
    case first =>
      go_region
      · go_wp2
        go_meet
        have R2 : RowF (wc.heap.size + 1) 3 (m + 2) (fun j => .int .i64 ((fun _ => 0) j)) ((wc.alloc (.cells (Array.replicate (m + 2) (.bool false)) 4)).alloc (.cells (Array.replicate (m + 2) (.int .i64 0)) 3)) := by
          have := RowF.made (wc.alloc (.cells (Array.replicate (m + 2) (.bool false)) 4)) 3 (m + 2) (.int .i64 0)
          simpa using this
        exact ⟨_, _, rfl, rfl, Few.below ((M1.out.add ((Below.refl _ _).alloc (Nat.le_refl _) _) (RowF.made _ 4 (m + 2) (.bool false)) (by simp) (by simp) RowF.keeps).add ((Below.refl _ _).alloc (Nat.le_refl _) _) R2 (by simp) (by simp) RowF.keeps) (Below.refl _ _).drew⟩
      · go_wp2
        go_meet
        have R2 : RowF (wc.heap.size + 1) 4 (m + 2) (fun j => .bool ((fun _ => false) j)) ((wc.alloc (.cells (Array.replicate (m + 2) (.int .i64 0)) 3)).alloc (.cells (Array.replicate (m + 2) (.bool false)) 4)) := by
          have := RowF.made (wc.alloc (.cells (Array.replicate (m + 2) (.int .i64 0)) 3)) 4 (m + 2) (.bool false)
          simpa using this
        exact ⟨_, _, rfl, rfl, Few.below (Few.swap ((M1.out.add ((Below.refl _ _).alloc (Nat.le_refl _) _) (RowF.made _ 3 (m + 2) (.int .i64 0)) (by simp) (by simp) RowF.keeps).add ((Below.refl _ _).alloc (Nat.le_refl _) _) R2 (by simp) (by simp) RowF.keeps)) (Below.refl _ _).drew⟩
    case rest =>
      clear M1 mkb mki
      obtain ⟨G1, G2, rfl, rfl, M2⟩ := hcut
      have HM2 : Hid (Few w [(foot B (.slice none 0 0), fun u => SI.Seats u B m (.slice none 0 0) []), ([G1], RowF G1 4 (m + 2) (fun j => .bool ((fun _ => false) j))), ([G2], RowF G2 3 (m + 2) (fun j => .int .i64 ((fun _ => 0) j)))] wc) := M2
      clear M2
      go_wp2
      go_loopg [10] 60 (fun gk s10 wr => ∃ (k : Nat) (ps : List (Int × Bool)) (v : Value) (H : Nat → Bool) (V : Nat → Int), k ≤ len1 ∧ gk + k = 60 ∧ s10 = .int .i64 k ∧ SI.Sync m ps H V ∧ Few w [(foot B v, fun u => SI.Seats u B m v ps), ([G1], RowF G1 4 (m + 2) (fun j => .bool (H j))), ([G2], RowF G2 3 (m + 2) (fun j => .int .i64 (V j)))] wr)
      case atStart => exact ⟨0, [], _, _, _, by omega, by omega, rfl, SI.Sync.start, HM2.out⟩
      case round =>
        clear HM2
        obtain ⟨k, ps, v, H, V, hk, hgk, rfl, hsy, M2⟩ := hrel
        have HM : Hid (Few w [(foot B v, fun u => SI.Seats u B m v ps), ([G1], RowF G1 4 (m + 2) (fun j => .bool (H j))), ([G2], RowF G2 3 (m + 2) (fun j => .int .i64 (V j)))] wr) := M2
        have HS : Hid (SI.Sync m ps H V) := hsy
        clear M2 hsy
        by_cases hkl : k < len1
        · have hkl' : (k : Int) < (len1 : Int) := by omega
          by_cases hk60 : k < 60
          · have hk60' : (k : Int) < 60 := by omega
            obtain ⟨o, ho⟩ : ∃ o, z1[k]? = some o := ⟨_, List.getElem?_eq_getElem (by rw [HZ.out]; exact hkl)⟩
            obtain ⟨x, rfl, hxb, hop⟩ := HO.out k o ho
            obtain ⟨kd, ov, oa, ob⟩ := o
            obtain ⟨y, hy, c0, c1, c2, c3, iv, ia, ib⟩ := op_here hop hxb HM.out.bel
            simp only at c0 c1 c2 c3 iv ia ib
            have HY : Hid (x.add (k * 4) = y) := hy
            clear hop ho
            go_upto_region 11 with fail
            have MA : Hid (Few w [(foot B v, fun u => SI.Seats u B m v ps), ([G1], RowF G1 4 (m + 2) (fun j => .bool (H j))), ([G2], RowF G2 3 (m + 2) (fun j => .int .i64 (V j))), ([wr.heap.size], OpAt wr.heap.size ⟨kd, ov, oa, ob⟩)] (wr.alloc (.cells #[.int .i64 kd, .int .i64 ov, .int .i64 oa, .int .i64 ob] 60))) := HM.out.add ((Below.refl _ _).alloc (Nat.le_refl _) _) (heap_alloc_new _ _) (by simp) (by simp) OpAt.keeps
            obtain ⟨P, hP⟩ : ∃ P, P = wr.heap.size := ⟨_, rfl⟩
            rw [← hP] at MA ⊢
            clear hP HM c0 c1 c2 c3 hy HO HZ
            generalize wr.alloc (.cells #[.int .i64 kd, .int .i64 ov, .int .i64 oa, .int .i64 ob] 60) = wa at MA ⊢
            obtain ⟨d0, d1, d2, d3⟩ := OpAt.cells (MA.out.holds 3)
            go_cut [12] (fun s12 wd => (s12 = .bool true ∧ SI.In m H ov ∨ s12 = .bool false ∧ ¬ SI.In m H ov) ∧ wd = wa)
            case first =>
              rcases (by omega : ((ov < 1 ∧ ¬ 1 ≤ ov) ∨ (1 ≤ ov ∧ ¬ ov ≤ m)) ∨ (1 ≤ ov ∧ ov ≤ m)) with (⟨h1, h2⟩ | ⟨h1, h2⟩) | ⟨h1, h2⟩
              · go_wp2
                go_meet
                exact ⟨.inr ⟨rfl, fun h => by have := h.1; omega⟩, rfl⟩
              · go_wp2
                go_meet
                exact ⟨.inr ⟨rfl, fun h => by have := h.2.1; omega⟩, rfl⟩
              · obtain ⟨n, rfl⟩ := Int.eq_ofNat_of_zero_le (by omega : 0 ≤ ov)
                have ch : wa.cell? ⟨G1, n, none⟩ = some (.bool (H n)) := RowF.cell (MA.out.holds 1) (by omega)
                cases hH : H n
                · rw [hH] at ch
                  have HH : Hid (H n = false) := hH
                  clear hH
                  go_wp2
                  go_meet
                  exact ⟨.inr ⟨rfl, fun h => by have := h.2.2; rw [Int.toNat_natCast, HH.out] at this; cases this⟩, rfl⟩
                · rw [hH] at ch
                  have HH : Hid (H n = true) := hH
                  clear hH
                  go_wp2
                  go_meet
                  exact ⟨.inl ⟨rfl, h1, h2, by rw [Int.toNat_natCast]; exact HH.out⟩, rfl⟩
            case rest =>
            obtain ⟨hin, rfl⟩ := hcut
            have HIN : Hid (u12 = .bool true ∧ SI.In m H ov ∨ u12 = .bool false ∧ ¬ SI.In m H ov) := hin
            clear hin
            go_upto_block 2 with fail
            go_cut [] (fun wd => ∃ (ps : List (Int × Bool)) (v : Value) (H : Nat → Bool) (V : Nat → Int), SI.Sync m ps H V ∧ Few w [(foot B v, fun u => SI.Seats u B m v ps), ([G1], RowF G1 4 (m + 2) (fun j => .bool (H j))), ([G2], RowF G2 3 (m + 2) (fun j => .int .i64 (V j)))] wd)
            case first =>
              obtain ⟨X, hX⟩ : ∃ X, bits .and .i64 oa 1023 = X := ⟨_, rfl⟩
              obtain ⟨Y, hY⟩ : ∃ Y, bits .and .i64 ob 1023 = Y := ⟨_, rfl⟩
              have n1 : ¬ P = G1 := fun e => MA.out.dis 3 1 (by decide) P (by simp) (by simp [e])
              have n2 : ¬ P = G2 := fun e => MA.out.dis 3 2 (by decide) P (by simp) (by simp [e])
              have n1' : ¬ G1 = P := fun e => n1 e.symm
              have n2' : ¬ G2 = P := fun e => n2 e.symm
              have n3 : ¬ G1 = G2 := fun e => MA.out.dis 1 2 (by decide) G1 (by simp) (by simp [e])
              by_cases k0 : kd = 0
              · subst k0
                clear HIN
                go_upto_block 3 with fail
                go_cut [13] (fun s13 wd => ∃ K : Nat, K ≤ m ∧ s13 = .int .i64 ((K : Int) + 1) ∧ (∀ j, j < K → H (j + 1) = true) ∧ (K < m → H (K + 1) = false) ∧ wd = wc)
                case first =>
                  as_aux_lemma =>
                  go_wp2_with fail
                  go_loopg [13] m (fun gk s13 wr => ∃ K : Nat, gk + K = m ∧ s13 = .int .i64 ((K : Int) + 1) ∧ (∀ j, j < K → H (j + 1) = true) ∧ wr = wc)
                  case atStart => exact ⟨0, by omega, rfl, fun j hj => absurd hj (by omega), rfl⟩
                  case round =>
                    obtain ⟨K, hK, rfl, hb, rfl⟩ := hrel
                    have HB : Hid (∀ j, j < K → H (j + 1) = true) := hb
                    clear hb
                    by_cases hKm : K < m
                    · have ch : wr.cell? ⟨G1, K + 1, none⟩ = some (.bool (H (K + 1))) := RowF.cell (MA.out.holds 1) (by omega)
                      have hK1 : (K : Int) + 1 ≤ m := by omega
                      cases hH : H (K + 1)
                      · rw [hH] at ch
                        have HH : Hid (H (K + 1) = false) := hH
                        clear hH
                        go_wp2
                        go_meet
                        exact ⟨K, by omega, rfl, HB.out, fun _ => HH.out, rfl⟩
                      · rw [hH] at ch
                        have HH : Hid (H (K + 1) = true) := hH
                        clear hH
                        go_wp2
                        go_roundg (gk - 1)
                        case measure => omega
                        case rel =>
                          refine ⟨K + 1, by omega, by go_num, fun j hj => ?_, rfl⟩
                          by_cases e : j = K
                          · subst e; exact HH.out
                          · exact HB.out j (by omega)
                    · have hK1 : ¬ (K : Int) + 1 ≤ m := by omega
                      go_wp2
                      go_meet
                      exact ⟨K, by omega, rfl, HB.out, fun h => absurd h hKm, rfl⟩
                case rest =>
                  obtain ⟨K, hK, rfl, hb, he, rfl⟩ := hcut
                  have hfr := HS.out.free hK hb he
                  have HF : Hid (SI.IsFree ps K) := hfr
                  have hKl := hfr.1
                  have hlm := HS.out.le
                  clear hfr hb he
                  rcases (by omega : (K = m ∧ ps.length = m) ∨ (K < m ∧ K < ps.length) ∨ (K < m ∧ K = ps.length)) with ⟨c1, c2⟩ | ⟨c1, c2⟩ | ⟨c1, c2⟩
                  · as_aux_lemma =>
                    subst c1
                    have ct := SI.add_full X wc (MA.out.holds 0) (by rw [c2]; exact HF.out) (by omega)
                    have CT : Hid (Calls Try.prog 32 #[.pointer (some ⟨B, 0, none⟩), .int .i64 X] wc fun e w' => e = .returned (.int .i64 0) ∧ w' = wc) := ct
                    clear ct c2
                    go_wp2_with fail
                    refine CT.out.mono ?_
                    rintro e w' ⟨rfl, hw⟩
                    subst w'
                    go_wp2
                    go_meet
                    exact ⟨ps, v, H, V, HS.out, Few.less (l := [_, _, _]) MA.out⟩
                  · as_aux_lemma =>
                    have ct := SI.add_there K X wc (MA.out.holds 0) HF.out c2
                    have CT : Hid (Calls Try.prog 32 #[.pointer (some ⟨B, 0, none⟩), .int .i64 X] wc fun e w' => e = .returned (.int .i64 ((K : Int) + 1)) ∧ SI.Seats w' B m v (ps.set K (X, true)) ∧ Only (foot B v) wc w') := ct
                    have HSY : Hid (SI.Sync m (ps.set K (X, true)) (upd H (K + 1) true) (upd V (K + 1) X)) := HS.out.there c2 X
                    have c1' : ¬ (m : Int) < (K : Int) + 1 := by omega
                    have x0 : (0 : Int) ≤ (K : Int) + 1 := by omega
                    have x1 : (K : Int) + 1 < (m : Int) + 2 := by omega
                    have x2 : (K : Int) + 1 < ((m + 2 : Nat) : Int) := by omega
                    clear ct
                    go_wp2_with fail
                    refine CT.out.mono ?_
                    rintro e w2 ⟨rfl, h2, o2⟩
                    have M2 : Hid (Few w [(foot B v, fun u => SI.Seats u B m v (ps.set K (X, true))), ([G1], RowF G1 4 (m + 2) (fun j => .bool (H j))), ([G2], RowF G2 3 (m + 2) (fun j => .int .i64 (V j))), ([P], OpAt P ⟨0, ov, oa, ob⟩)] w2) := SI.few_set MA.out 0 rfl h2 o2
                    have HFW : Hid (∀ w', Below w2.heap.size w2 w' → Few w [(foot B v, fun u => SI.Seats u B m v (ps.set K (X, true))), ([G1], RowF G1 4 (m + 2) (fun j => .bool (upd H (K + 1) true j))), ([G2], RowF G2 3 (m + 2) (fun j => .int .i64 (upd V (K + 1) X j))), ([P], OpAt P ⟨0, ov, oa, ob⟩)] ((w'.setCell ⟨G1, K + 1, none⟩ (.bool true)).setCell ⟨G2, K + 1, none⟩ (.int .i64 X))) := fun w' g => few_upd (fun x => Value.int .i64 x) V (few_upd Value.bool H (M2.out.below g) 1 rfl (K + 1) true) 2 rfl (K + 1) X
                    obtain ⟨_, _, e2, _⟩ := OpAt.cells (M2.out.holds 3)
                    have f1 : w2.cell? ⟨G1, K + 1, none⟩ = some (.bool (H (K + 1))) := RowF.cell (M2.out.holds 1) (by omega)
                    have f2 : w2.cell? ⟨G2, K + 1, none⟩ = some (.int .i64 (V (K + 1))) := RowF.cell (M2.out.holds 2) (by omega)
                    have f3 : w2.frozen? ⟨G1, K + 1, none⟩ = false := RowF.fz (M2.out.holds 1)
                    have f4 : w2.frozen? ⟨G2, K + 1, none⟩ = false := RowF.fz (M2.out.holds 2)
                    clear MA d0 d1 d2 d3 h2 o2 CT M2
                    go_wp2
                    go_region
                    go_wp2
                    go_meet
                    exact ⟨_, v, _, _, HSY.out, Few.less (l := [_, _, _]) ((HFW.out _ (Below.refl _ _)).below (Below.refl _ _).drew)⟩
                  · as_aux_lemma =>
                    subst c2
                    have ct := SI.add_new X wc (MA.out.holds 0) HF.out (by omega)
                    have CT : Hid (Calls Try.prog 32 #[.pointer (some ⟨B, 0, none⟩), .int .i64 X] wc fun e w' => ∃ v', e = .returned (.int .i64 ((ps.length : Int) + 1)) ∧ SI.Seats w' B m v' (ps ++ [(X, true)]) ∧ Only (foot B v) wc w' ∧ ∀ k ∈ foot B v', k ∈ foot B v ∨ wc.heap.size ≤ k) := ct
                    have HSY : Hid (SI.Sync m (ps ++ [(X, true)]) (upd H (ps.length + 1) true) (upd V (ps.length + 1) X)) := HS.out.new c1 X
                    have c1' : ¬ (m : Int) < (ps.length : Int) + 1 := by omega
                    have x0 : (0 : Int) ≤ (ps.length : Int) + 1 := by omega
                    have x1 : (ps.length : Int) + 1 < (m : Int) + 2 := by omega
                    have x2 : (ps.length : Int) + 1 < ((m + 2 : Nat) : Int) := by omega
                    clear ct
                    go_wp2_with fail
                    refine CT.out.mono ?_
                    rintro e w2 ⟨v2, rfl, h2, o2, g2⟩
                    have M2 : Hid (Few w [(foot B v2, fun u => SI.Seats u B m v2 (ps ++ [(X, true)])), ([G1], RowF G1 4 (m + 2) (fun j => .bool (H j))), ([G2], RowF G2 3 (m + 2) (fun j => .int .i64 (V j))), ([P], OpAt P ⟨0, ov, oa, ob⟩)] w2) := SI.few_put MA.out 0 rfl h2 o2 g2
                    have HFW : Hid (∀ w', Below w2.heap.size w2 w' → Few w [(foot B v2, fun u => SI.Seats u B m v2 (ps ++ [(X, true)])), ([G1], RowF G1 4 (m + 2) (fun j => .bool (upd H (ps.length + 1) true j))), ([G2], RowF G2 3 (m + 2) (fun j => .int .i64 (upd V (ps.length + 1) X j))), ([P], OpAt P ⟨0, ov, oa, ob⟩)] ((w'.setCell ⟨G1, ps.length + 1, none⟩ (.bool true)).setCell ⟨G2, ps.length + 1, none⟩ (.int .i64 X))) := fun w' g => few_upd (fun x => Value.int .i64 x) V (few_upd Value.bool H (M2.out.below g) 1 rfl (ps.length + 1) true) 2 rfl (ps.length + 1) X
                    obtain ⟨_, _, e2, _⟩ := OpAt.cells (M2.out.holds 3)
                    have f1 : w2.cell? ⟨G1, ps.length + 1, none⟩ = some (.bool (H (ps.length + 1))) := RowF.cell (M2.out.holds 1) (by omega)
                    have f2 : w2.cell? ⟨G2, ps.length + 1, none⟩ = some (.int .i64 (V (ps.length + 1))) := RowF.cell (M2.out.holds 2) (by omega)
                    have f3 : w2.frozen? ⟨G1, ps.length + 1, none⟩ = false := RowF.fz (M2.out.holds 1)
                    have f4 : w2.frozen? ⟨G2, ps.length + 1, none⟩ = false := RowF.fz (M2.out.holds 2)
                    clear MA d0 d1 d2 d3 h2 o2 g2 CT M2
                    go_wp2
                    go_region
                    go_wp2
                    go_meet
                    exact ⟨_, v2, _, _, HSY.out, Few.less (l := [_, _, _]) ((HFW.out _ (Below.refl _ _)).below (Below.refl _ _).drew)⟩
              · by_cases k1 : kd = 1
                · as_aux_lemma =>
                  subst k1
                  rcases HIN.out with ⟨rfl, hin⟩ | ⟨rfl, hno⟩
                  · obtain ⟨n, rfl, hnm, hp⟩ := HS.out.in hin
                    have HP : Hid (ps[n]? = some (V (n + 1), true)) := hp
                    clear HIN hin hp
                    go_wp2_with fail
                    refine (SI.drop_yes n ((n : Int) + 1) wc (MA.out.holds 0) HP.out rfl).mono ?_
                    rintro e w2 ⟨rfl, h2, o2⟩
                    have M2 : Hid (Few w [(foot B v, fun u => SI.Seats u B m v (ps.set n (0, false))), ([G1], RowF G1 4 (m + 2) (fun j => .bool (H j))), ([G2], RowF G2 3 (m + 2) (fun j => .int .i64 (V j))), ([P], OpAt P ⟨1, (n : Int) + 1, oa, ob⟩)] w2) := SI.few_set MA.out 0 rfl h2 o2
                    obtain ⟨_, e1, _, _⟩ := OpAt.cells (M2.out.holds 3)
                    have f1 : w2.cell? ⟨G1, n + 1, none⟩ = some (.bool (H (n + 1))) := RowF.cell (M2.out.holds 1) (by omega)
                    have f3 : w2.frozen? ⟨G1, n + 1, none⟩ = false := RowF.fz (M2.out.holds 1)
                    clear MA d0 d1 d2 d3 h2 o2
                    go_wp2
                    go_meet
                    exact ⟨ps.set n (0, false), v, upd H (n + 1) false, V, HS.out.drop n, Few.less (l := [_, _, _]) (few_upd Value.bool H M2.out 1 rfl (n + 1) false)⟩
                  · have CT : Hid (Calls Try.prog 34 #[.pointer (some ⟨B, 0, none⟩), .int .i64 ov] wc fun e w' => e = .returned (.bool false) ∧ w' = wc) := SI.drop_no ov wc (HS.out.out (MA.out.holds 0) hno) (MA.out.holds 0)
                    clear HIN hno
                    go_wp2_with fail
                    refine CT.out.mono ?_
                    rintro e w' ⟨rfl, hw⟩
                    subst w'
                    go_wp2
                    go_meet
                    exact ⟨ps, v, H, V, HS.out, Few.less (l := [_, _, _]) MA.out⟩
                · by_cases k2 : kd = 2
                  · as_aux_lemma =>
                    subst k2
                    rcases HIN.out with ⟨rfl, hin⟩ | ⟨rfl, hno⟩
                    · obtain ⟨n, rfl, hnm, hp⟩ := HS.out.in hin
                      have HP : Hid (ps[n]? = some (V (n + 1), true)) := hp
                      clear HIN hin hp
                      go_wp2_with fail
                      refine (SI.set_yes n ((n : Int) + 1) Y wc (MA.out.holds 0) HP.out rfl).mono ?_
                      rintro e w2 ⟨rfl, h2, o2⟩
                      have M2 : Hid (Few w [(foot B v, fun u => SI.Seats u B m v (ps.set n (Y, true))), ([G1], RowF G1 4 (m + 2) (fun j => .bool (H j))), ([G2], RowF G2 3 (m + 2) (fun j => .int .i64 (V j))), ([P], OpAt P ⟨2, (n : Int) + 1, oa, ob⟩)] w2) := SI.few_set MA.out 0 rfl h2 o2
                      obtain ⟨_, e1, _, e3⟩ := OpAt.cells (M2.out.holds 3)
                      have f1 : w2.cell? ⟨G2, n + 1, none⟩ = some (.int .i64 (V (n + 1))) := RowF.cell (M2.out.holds 2) (by omega)
                      have f3 : w2.frozen? ⟨G2, n + 1, none⟩ = false := RowF.fz (M2.out.holds 2)
                      clear MA d0 d1 d2 d3 h2 o2
                      go_wp2
                      go_meet
                      exact ⟨ps.set n (Y, true), v, H, upd V (n + 1) Y, HS.out.set HP.out Y, Few.less (l := [_, _, _]) (few_upd (fun x => Value.int .i64 x) V M2.out 2 rfl (n + 1) Y)⟩
                    · have CT : Hid (Calls Try.prog 33 #[.pointer (some ⟨B, 0, none⟩), .int .i64 ov, .int .i64 Y] wc fun e w' => e = .returned (.bool false) ∧ w' = wc) := SI.set_no ov Y wc (HS.out.out (MA.out.holds 0) hno) (MA.out.holds 0)
                      clear HIN hno
                      go_wp2_with fail
                      refine CT.out.mono ?_
                      rintro e w' ⟨rfl, hw⟩
                      subst w'
                      go_wp2
                      go_meet
                      exact ⟨ps, v, H, V, HS.out, Few.less (l := [_, _, _]) MA.out⟩
                  · as_aux_lemma =>
                    rcases HIN.out with ⟨rfl, hin⟩ | ⟨rfl, hno⟩
                    · obtain ⟨n, rfl, hnm, hp⟩ := HS.out.in hin
                      obtain ⟨vn, hvn⟩ : ∃ z, V (n + 1) = z := ⟨_, rfl⟩
                      rw [hvn] at hp
                      have CT : Hid (Calls Try.prog 21 #[.pointer (some ⟨B, 0, none⟩), .int .i64 ((n : Int) + 1)] wc fun e w' => e = .returned (.tuple #[.int .i64 vn, .bool true]) ∧ w' = wc) := SI.get_yes n ((n : Int) + 1) wc (MA.out.holds 0) hp rfl
                      have f1 : wc.cell? ⟨G2, n + 1, none⟩ = some (.int .i64 (V (n + 1))) := RowF.cell (MA.out.holds 2) (by omega)
                      rw [hvn] at f1
                      clear HIN hin hp hvn
                      go_wp2_with fail
                      refine CT.out.mono ?_
                      rintro e w' ⟨rfl, hw⟩
                      subst w'
                      go_wp2
                      go_meet
                      exact ⟨ps, v, H, V, HS.out, Few.less (l := [_, _, _]) MA.out⟩
                    · have CT : Hid (Calls Try.prog 21 #[.pointer (some ⟨B, 0, none⟩), .int .i64 ov] wc fun e w' => e = .returned (.tuple #[.int .i64 0, .bool false]) ∧ Below wc.heap.size wc w') := SI.get_no ov wc (HS.out.out (MA.out.holds 0) hno) (MA.out.holds 0)
                      clear HIN hno
                      go_wp2_with fail
                      refine CT.out.mono ?_
                      rintro e w2 ⟨rfl, g2⟩
                      have M2 : Hid (Few w [(foot B v, fun u => SI.Seats u B m v (ps)), ([G1], RowF G1 4 (m + 2) (fun j => .bool (H j))), ([G2], RowF G2 3 (m + 2) (fun j => .int .i64 (V j))), ([P], OpAt P ⟨kd, ov, oa, ob⟩)] w2) := MA.out.below g2
                      clear MA d0 d1 d2 d3 g2
                      go_wp2
                      go_meet
                      exact ⟨ps, v, H, V, HS.out, Few.less (l := [_, _, _]) M2.out⟩
            case rest =>
              as_aux_lemma =>
              clear MA d0 d1 d2 d3 HIN HS
              obtain ⟨ps2, v2, H2, V2, hsy, M2⟩ := hcut
              have HM : Hid (Few w [(foot B v2, fun u => SI.Seats u B m v2 ps2), ([G1], RowF G1 4 (m + 2) (fun j => .bool (H2 j))), ([G2], RowF G2 3 (m + 2) (fun j => .int .i64 (V2 j)))] wc) := M2
              have HS : Hid (SI.Sync m ps2 H2 V2) := hsy
              clear M2 hsy
              go_wp2_with fail
              refine (SI.ids_any wc (HM.out.holds 0)).mono ?_
              rintro e w3 ⟨dv, rfl, own, g3⟩
              rw [HS.out.all] at own
              have hlm := SI.idsH_le H2 m
              obtain ⟨L, hL⟩ : ∃ L, L = (SI.idsH H2 m).length := ⟨_, rfl⟩
              rw [← hL] at own hlm
              have HLL : Hid (L = (SI.idsH H2 m).length) := hL
              have M3 : Hid (Few w [(foot B v2, fun u => SI.Seats u B m v2 ps2), ([G1], RowF G1 4 (m + 2) (fun j => .bool (H2 j))), ([G2], RowF G2 3 (m + 2) (fun j => .int .i64 (V2 j))), (dv.ownBlock.toList, fun u => u.ownsRow wc.heap.size 3 1 dv L ((SI.idsH H2 m).map mkI))] w3) := HM.out.add g3 own (fun k hk => (own.lt k (by simpa using hk)).2) (fun k hk => (own.lt k (by simpa using hk)).1) rows_keep
              obtain ⟨ad, cap, rfl, hml⟩ := row_form own
              clear HM own g3 hL hml
              go_wp2
              go_loopg [16, 18] m (fun gk s16 s18 wr => ∃ j : Nat, gk + j = m ∧ s18 = .int .i64 ((j : Int) + 1) ∧ s16 = .int .i64 (SI.idsH H2 j).length ∧ wr = w3)
              case atStart => exact ⟨0, by omega, rfl, rfl, rfl⟩
              case round =>
                obtain ⟨j, hj, rfl, rfl, rfl⟩ := hrel
                have hjm := SI.idsH_le H2 j
                by_cases hjm2 : j < m
                · have c1 : wr.cell? ⟨G1, j + 1, none⟩ = some (.bool (H2 (j + 1))) := RowF.cell (M3.out.holds 1) (by omega)
                  have hst := SI.idsH_step H2 j
                  have HST : Hid ((SI.idsH H2 (j + 1)).length = (SI.idsH H2 j).length + if H2 (j + 1) then 1 else 0) := hst
                  clear hst
                  have hj1 : (j : Int) + 1 ≤ m := by omega
                  cases hH : H2 (j + 1)
                  · rw [hH] at c1
                    have HH : Hid (H2 (j + 1) = false) := hH
                    clear hH
                    go_wp2
                    go_roundg (gk - 1)
                    case measure => omega
                    case rel => exact ⟨j + 1, by omega, by go_num, by rw [HST.out, HH.out]; simp, rfl⟩
                  · rw [hH] at c1
                    have hat := SI.idsH_at H2 hjm2 hH
                    have hlt : (SI.idsH H2 j).length < L := by rw [HLL.out]; exact (List.getElem?_eq_some_iff.1 hat).1
                    obtain ⟨g, rfl, cl⟩ := row_cell (j := (SI.idsH H2 j).length) (u := .int .i64 ((j : Int) + 1)) (M3.out.holds 3) (by simp [hat, mkI]) (by rw [List.length_map]; exact HLL.out.symm)
                    have HH : Hid (H2 (j + 1) = true) := hH
                    have hlt' : ((SI.idsH H2 j).length : Int) < (L : Int) := by omega
                    clear hH hat
                    go_wp2
                    go_roundg (gk - 1)
                    case measure => omega
                    case rel => exact ⟨j + 1, by omega, by go_num, by rw [HST.out, HH.out]; simp, rfl⟩
                · obtain rfl : j = m := by omega
                  have hLL : (SI.idsH H2 j).length = L := HLL.out.symm
                  clear HLL
                  go_wp2
                  go_roundg (59 - k)
                  case measure => omega
                  case rel => exact ⟨k + 1, ps2, v2, H2, V2, by omega, by omega, by go_num, HS.out, Few.less (l := [_, _, _]) M3.out⟩
          · go_wp2
            go_ret
            exact ⟨rfl, HM.out.bel⟩
        · go_wp2
          go_ret
          exact ⟨rfl, HM.out.bel⟩

set_option maxRecDepth 100000 in
theorem lifted (os : Os) (started : os.Started) (H : Type) (enc : TypeId × Value → H) :
    ReturnsInHanded {} Try.checked os 10 .any (Rows.seatAllSpec.pre6 enc Try.prog Try.f10 Rows.seatAllRow.domain false) (Rows.seatAllSpec.post enc Try.prog Try.f10 false true false false) := by
  refine returnsInHanded_of_change (C := Try.checked) own started (by kernel_rfl) Try.func10
    (ChangeSpec.witness6 (enc := enc) (C := Try.checked) false ⟨#[], #[.int .i64 0, .slice none 0 0], []⟩ 8 (by kernel_rfl) (by kernel_rfl) (by kernel_rfl) (by kernel_rfl)) ?_
  intro W base args ds gs before hval0 hW hcnd _
  have hval : ∀ (j : Nat) t v, Try.f10.params[j]? = some t → args[j]? = some v → Value.okWide Try.prog W .any base t v := hval0
  have hW' := hW
  obtain ⟨p, q, hA0, hV, rfl, hfz, hnd⟩ := hW
  have hA : DataW.TrodAll enc Try.prog W 0 (fun _ => true) true Try.f10.params.toList args.toList ds p := hA0
  rw [Try.params10] at hA hval
  obtain ⟨v0, vs0, d0, ds0, p0, q0, hargs, rfl, rfl, h0, r0⟩ := trodAll_cons hA
  obtain ⟨v1, vs1, d1, ds1, p1, q1, rfl, rfl, rfl, h1, r1⟩ := trodAll_cons r0
  obtain ⟨rfl, rfl, rfl⟩ := trodAll_nil r1
  obtain rfl : args = #[v0, v1] := by cases args; simp_all
  obtain ⟨rfl, rfl⟩ := trodVars_none hV
  obtain ⟨a0, rfl, rfl, rfl, w0⟩ := open_int Try.underlying3 (hval 0 3 v0 rfl rfl) h0
  obtain ⟨a1, len1, cap1, rfl⟩ := okWide_slice Try.underlying58 (hval 1 58 v1 rfl rfl)
  have k1 := h1
  have lt1 : ∀ x ∈ p1, x.block < W.heap.size := by obtain ⟨m, hm⟩ := k1; exact DataW.trod_lt m _ _ _ hm
  obtain ⟨z1, w1⟩ := (by obtain ⟨fuel, hf⟩ := h1; exact open_ops hf : ∃ zs, IsOps W a1 len1 zs)
  clear hA0 hval0
  refine (walk a0 a1 len1 cap1 z1 W w0 w1).mono fun e W' ⟨he, bel⟩ => ?_
  subst he
  exact ⟨_, rfl, _, _, _, [], _, [], hW', trodAll_mk1 (shut_bool Try.underlying4 _), (trodAll_cons_mk (shut_int Try.underlying3 w0) (trodAll_cons_mk (Below.trod laidOut (by kernel_rfl) (of_decide_eq_true (by kernel_rfl)) k1 bel lt1) trodAll_mk0)), rfl, bel.frame _, fun h => by cases h⟩

theorem over : Rows.seatAllRow.holds Try.pinned (OpenSpec.ofChange Rows.seatAllSpec) :=
  OpenClaim.holds_of_wide 10 Try.f10 rfl rfl rfl rfl rfl rfl rfl ⟨rfl, rfl, rfl, rfl, rfl⟩ rfl rfl rfl rfl rfl (by kernel_rfl) Try.func10 (by kernel_rfl)
    (of_decide_eq_true (by kernel_rfl)) (by unfold Func.isWrapper; first | (rw [if_pos (by decide +kernel)]; kernel_rfl) | (rw [if_neg (by decide +kernel)]; exact ⟨rfl, rfl⟩))
    (fun os started H enc _ => lifted os started H enc)

theorem proved : Rows.SeatAllSaid := over
end Go.Proofs.Ytkbmpoiokdoclaa.seatAll
