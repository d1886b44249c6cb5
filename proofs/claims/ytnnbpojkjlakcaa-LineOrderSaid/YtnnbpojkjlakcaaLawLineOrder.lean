/-
PROVED: the statement hortatorlaw2.LineOrder answers true over the landed packages: whatever is put, all comes by its times when time goes on step by step.
  CONDITIONS: none beside the row's own.
-/
import Derived.Test.YtnnbpojkjlakcaaRows
import Derived.WalkKit
import Derived.ProofKit
import Derived.OpenShut
import Derived.ShutString
import Derived.ChangeOld
import Derived.Below
import Derived.Test.YtnnbpojkjlakcaaBegun
import Derived.Test.YtnnbpojkjlakcaaLineEnts
namespace Go.Proofs.Ytnnbpojkjlakcaa.lineOrder
open Go.ChangeShapes Go.WideShapes Go.ChangeAt Go.RowKit
open Go.ChangeMaps (open_string shut_string)
set_option linter.unusedVariables false

theorem own : ownKnob Try.prog.godebug = none := by kernel_rfl
theorem laidOut : laidOutB Try.prog = true := by kernel_rfl

def IsRow (k : IntKind) (w : World) (a : Option Addr) (len cap : Nat) (zs : List Int) : Prop :=
  (a = none ∧ len = 0 ∧ cap = 0 ∧ zs = []) ∨
  ∃ x, a = some x ∧ len ≤ cap ∧ cap ≤ maxLen ∧ zs.length = cap ∧ (∀ i, i < zs.length → w.cell? (x.add i) = some (.int k (zs.getD i 0))) ∧ ∀ n ∈ zs, (Lit.int k n).wf = true

set_option maxHeartbeats 8000000 in
set_option maxRecDepth 100000 in
theorem walk (a0 : Option Addr) (len0 cap0 : Nat) (z0 : List Int) (a1 : Option Addr) (len1 cap1 : Nat) (z1 : List Int) (w : World) (w0 : IsRow .i64 w a0 len0 cap0 z0) (w1 : IsRow .i64 w a1 len1 cap1 z1) :
    Calls Try.prog 9 #[.slice a0 len0 cap0, .slice a1 len1 cap1] w fun e w' => e = .returned (.bool true) ∧ Below w.heap.size w w' := by
  have hcells0 : ∀ i, i < len0 → ∃ x : Addr, a0 = some x ∧ (x.add i).block < w.heap.size ∧ w.cell? (x.add i) = some (.int .i64 (z0.getD i 0)) := by
    intro i hi
    rcases w0 with ⟨_, rfl, _, _⟩ | ⟨x, rfl, hl, hm, hz, hc, hw⟩
    · omega
    · have c := hc i (by omega)
      exact ⟨x, rfl, World.block_lt_of_cell? w _ c, c⟩
  have hcells1 : ∀ i, i < len1 → ∃ x : Addr, a1 = some x ∧ (x.add i).block < w.heap.size ∧ w.cell? (x.add i) = some (.int .i64 (z1.getD i 0)) := by
    intro i hi
    rcases w1 with ⟨_, rfl, _, _⟩ | ⟨x, rfl, hl, hm, hz, hc, hw⟩
    · omega
    · have c := hc i (by omega)
      exact ⟨x, rfl, World.block_lt_of_cell? w _ c, c⟩
  have hlen0 : len0 ≤ 9223372036854775807 := by
    rcases w0 with ⟨_, rfl, _, _⟩ | ⟨x, rfl, hl, hm, _⟩
    · omega
    · unfold maxLen at hm; omega
  have hlen1 : len1 ≤ 9223372036854775807 := by
    rcases w1 with ⟨_, rfl, _, _⟩ | ⟨x, rfl, hl, hm, _⟩
    · omega
    · unfold maxLen at hm; omega
  have HC : Hid (∀ i, i < len0 → ∃ x : Addr, a0 = some x ∧ (x.add i).block < w.heap.size ∧ w.cell? (x.add i) = some (.int .i64 (z0.getD i 0))) := hcells0
  have HC1 : Hid (∀ i, i < len1 → ∃ x : Addr, a1 = some x ∧ (x.add i).block < w.heap.size ∧ w.cell? (x.add i) = some (.int .i64 (z1.getD i 0))) := hcells1
  clear hcells0 hcells1 w0 w1
  obtain ⟨A, hA⟩ : ∃ A : Nat → Int, ∀ i, bits .and .i64 (z0.getD i 0) 127 = A i := ⟨fun i => _, fun i => rfl⟩
  obtain ⟨D, hD⟩ : ∃ D : Nat → Int, ∀ i, bits .and .i64 (z1.getD i 0) 15 = D i := ⟨fun i => _, fun i => rfl⟩
  have HA : Hid ((∀ i, bits .and .i64 (z0.getD i 0) 127 = A i) ∧ ∀ i, 0 ≤ A i ∧ A i ≤ 127) := ⟨hA, fun i => by rw [← hA i, i64_and127]; omega⟩
  have HD : Hid ((∀ i, bits .and .i64 (z1.getD i 0) 15 = D i) ∧ ∀ i, 0 ≤ D i ∧ D i ≤ 15) := ⟨hD, fun i => by rw [← hD i, LI.i64_and15]; omega⟩
  clear hA hD
  go_enter Try.func9, Try.ntmps9
  go_wp2_with fail
  refine (begun2_any _).mono ?_
  rintro e W ⟨rfl, g0⟩
  have M0 : Hid (Few w [] W) := (Few.start w).below g0
  clear g0
  go_wp2_with fail
  refine (LI.new_any 60 W (by omega) (by omega)).mono ?_
  rintro e w1 ⟨lb, rfl, hlb, h1, g1⟩
  rw [show HP.roomV 60 = 60 by unfold HP.roomV; omega] at h1
  have M1 : Hid (Few w [(LI.footL lb W.heap.size (.slice none 0 0) (.slice none 0 0) [], fun u => LI.Lines u lb W.heap.size 60 0 (.slice none 0 0) (.slice none 0 0) [] [])] w1) := M0.out.add g1 h1 h1.foot_lt (by intro k hk; simp [LI.footL, foot, Value.ownBlock] at hk; omega) LI.keeps
  clear M0 g1 h1 hlb
  obtain ⟨B, hB⟩ : ∃ B, B = W.heap.size := ⟨_, rfl⟩
  rw [← hB] at M1
  clear hB
  go_upto_region 5 with fail
  go_cut [7] (fun s7 wc => ∃ n : Nat, n ≤ len0 ∧ n ≤ 50 ∧ s7 = .int .i64 n ∧ wc = w1)
  case first =>
    rcases (by omega : (len0 : Int) ≤ 50 ∨ 50 < (len0 : Int)) with h | h
    · go_wp2
      go_meet
      exact ⟨len0, by omega, by omega, rfl, rfl⟩
    · go_wp2
      go_meet
      exact ⟨50, by omega, by omega, rfl, rfl⟩
  case rest =>
    obtain ⟨n, hn0, hn1, rfl, rfl⟩ := hcut
    go_wp2
    go_loopg [8] n (fun gk s8 wr => ∃ (k : Nat) (hv av : Value) (P : List (Nat × Int)) (Z : List (Ent (Nat × Int))), gk + k = n ∧ s8 = .int .i64 k ∧ Z.map LI.hi = ents A (fun _ => 0) k ∧ Few w [(LI.footL lb B hv av P, fun u => LI.Lines u lb B 60 k hv av P Z)] wr)
    case atStart => exact ⟨0, _, _, [], [], by omega, rfl, rfl, M1.out⟩
    case round =>
      clear M1
      obtain ⟨k, hv, av, P, Z, hk, rfl, hZ, M⟩ := hrel
      have HM : Hid (Few w [(LI.footL lb B hv av P, fun u => LI.Lines u lb B 60 k hv av P Z)] wr) := M
      have HZ : Hid (Z.map LI.hi = ents A (fun _ => 0) k) := hZ
      clear M hZ
      by_cases hkn : k < n
      · have hkl : k < len0 := by omega
        have hkl' : (k : Int) < (len0 : Int) := by omega
        obtain ⟨x, rfl, hblk, hc⟩ := HC.out k hkl
        have hcr := (HM.out.bel.cell (p := x.add k) hblk).trans hc
        obtain ⟨d, hd⟩ : ∃ d, z0.getD k 0 = d := ⟨_, rfl⟩
        have e7 := HA.out.1 k
        rw [hd] at hcr e7
        have HP : Hid (Calls Try.prog 32 #[.pointer (some ⟨lb, 0, none⟩), .int .i64 k, .int .i64 (A k)] wr fun e w' => ∃ hv' av' P' Z', e = .returned (.bool true) ∧ LI.Lines w' lb B 60 ((k + 1 : Nat) : Int) hv' av' P' Z' ∧ Z'.map LI.hi = ents A (fun _ => 0) (k + 1) ∧ Only (LI.footL lb B hv av P) wr w' ∧ ∀ j ∈ LI.footL lb B hv' av' P', j ∈ LI.footL lb B hv av P ∨ wr.heap.size ≤ j) := LI.put_ent (HM.out.holds 0) HZ.out (by omega) (by omega)
        clear hd hc hblk
        go_wp2_with fail
        refine HP.out.mono ?_
        rintro e w2 ⟨hv2, av2, P2, Z2, rfl, h2, hZ2, o2, f2⟩
        go_wp2
        go_roundg (gk - 1)
        case measure => omega
        case rel => exact ⟨k + 1, hv2, av2, P2, Z2, by omega, by go_num, hZ2, LI.few_turn HM.out 0 rfl h2 o2 f2⟩
      · obtain rfl : k = n := by omega
        have hall : ∀ z ∈ Z, LI.hi z ∈ ents A (fun _ => 0) k := fun z hz => by rw [← HZ.out]; exact List.mem_map.2 ⟨z, hz, rfl⟩
        have hzlen : Z.length = k := by have := congrArg List.length HZ.out; rw [ents_length] at this; simpa using this
        have HZ2 : Hid ((∀ z ∈ Z, LI.hi z ∈ ents A (fun _ => 0) k) ∧ Z.length = k) := ⟨hall, hzlen⟩
        clear hall hzlen HZ
        obtain ⟨m, hm1, hm2, hm3⟩ : ∃ m : Nat, m ≤ len1 ∧ m ≤ 19 ∧ (m = len1 ∨ m = 19) := ⟨min len1 19, by omega, by omega, by omega⟩
        go_wp2
        go_loopg [9, 10, 11, 12] (m + 1) (fun gk s9 s10 s11 s12 wr => ∃ (i c : Nat) (now : Int) (hv av : Value) (P : List (Nat × Int)) (Z : List (Ent (Nat × Int))), gk + i = m + 1 ∧ s12 = .int .i64 i ∧ s9 = .int .i64 now ∧ 0 ≤ now ∧ now ≤ 1000 ∧ (i ≤ m → now ≤ 15 * i) ∧ s11 = .int .i64 c ∧ c + Z.length = k ∧ (∀ z ∈ Z, LI.hi z ∈ ents A (fun _ => 0) k) ∧ (i = m + 1 → Z = []) ∧ LI.Last A k s10 (Z.map LI.hi) ∧ Few w [(LI.footL lb B hv av P, fun u => LI.Lines u lb B 60 k hv av P Z)] wr)
        case atStart => exact ⟨0, 0, 0, hv, av, P, Z, by omega, rfl, rfl, by omega, by omega, by omega, rfl, by rw [HZ2.out.2]; omega, HZ2.out.1, by omega, .inl rfl, HM.out⟩
        case round =>
          clear HM HZ2
          obtain ⟨i, c, now, hv, av, P, Z, hgk, rfl, rfl, hn0, hn1, hn2, rfl, hcz, hZ, hend, hlast, M⟩ := hrel
          have HM : Hid (Few w [(LI.footL lb B hv av P, fun u => LI.Lines u lb B 60 k hv av P Z)] wr) := M
          have HZ : Hid ((∀ z ∈ Z, LI.hi z ∈ ents A (fun _ => 0) k) ∧ c + Z.length = k) := ⟨hZ, hcz⟩
          have HL : Hid (LI.Last A k u10 (Z.map LI.hi)) := hlast
          have HE : Hid (i = m + 1 → Z = []) := hend
          have hck : c ≤ k := by omega
          clear M hZ hcz hlast hend
          by_cases him : i ≤ m
          · have hi1 : (i : Int) ≤ (len1 : Int) := by omega
            have hi2 : (i : Int) < 20 := by omega
            have hn2' := hn2 him
            go_upto_region 15 with fail
            go_cut [54] (fun s54 wc => s54 = .bool (decide (i < m)) ∧ wc = wr)
            case first =>
              clear HE HL HZ
              rcases (by omega : (i < m ∧ (i : Int) < (len1 : Int) ∧ (i : Int) < 19) ∨ (¬ i < m ∧ ¬ (i : Int) < (len1 : Int)) ∨ (¬ i < m ∧ (i : Int) < (len1 : Int) ∧ ¬ (i : Int) < 19)) with ⟨h1, h2, h3⟩ | ⟨h1, h2⟩ | ⟨h1, h2, h3⟩
              · go_wp2
                go_meet
                exact ⟨congrArg Value.bool (by simp [h1]), rfl⟩
              · go_wp2
                go_meet
                exact ⟨congrArg Value.bool (by simp [h1]), rfl⟩
              · go_wp2
                go_meet
                exact ⟨congrArg Value.bool (by simp [h1]), rfl⟩
            case rest =>
            obtain ⟨rfl, rfl⟩ := hcut
            go_upto_if 54 with fail
            go_cut [9] (fun s9 wd => ∃ nw : Int, s9 = .int .i64 nw ∧ 0 ≤ nw ∧ nw ≤ 1000 ∧ (i + 1 ≤ m → nw ≤ 15 * (i + 1)) ∧ (i = m → nw = 200) ∧ wd = wc)
            case first =>
              by_cases h : i < m
              · have h1 : (i : Int) < (len1 : Int) := by omega
                have h2 : (i : Int) < 19 := by omega
                obtain ⟨x, rfl, hblk, hc⟩ := HC1.out i (by omega)
                have hcr := (HM.out.bel.cell (p := x.add i) hblk).trans hc
                obtain ⟨d, hd⟩ : ∃ d, z1.getD i 0 = d := ⟨_, rfl⟩
                have e7 := HD.out.1 i
                have b7 := HD.out.2 i
                rw [hd] at hcr e7
                obtain ⟨Di, hDi⟩ : ∃ d, D i = d := ⟨_, rfl⟩
                rw [hDi] at e7 b7
                obtain ⟨b70, b71⟩ := b7
                clear hd hc hblk hDi HE HL HZ
                go_wp2
                go_meet
                exact ⟨now + Di, rfl, by omega, by omega, by omega, by omega, rfl⟩
              · obtain rfl : i = m := by omega
                go_wp2
                go_meet
                exact ⟨200, rfl, by omega, by omega, by omega, by omega, rfl⟩
            case rest =>
              obtain ⟨nw, rfl, hw0, hw1, hw2, hw3, rfl⟩ := hcut
              clear hn0 hn1 hn2 hn2'
              go_wp2_with fail
              refine (LI.due_ents nw (HM.out.holds 0) HZ.out.1).mono ?_
              rintro e w2 ⟨dv, hv2, av2, P2, Z2, is, rfl, own2, h2, ⟨p1, p2, p3, p4, p5, p6⟩, f2, o2⟩
              have own2' : w2.ownsRow wc.heap.size 3 1 dv (is.map fun i : Nat => (Value.int .i64 (i : Int))).length (is.map fun i : Nat => (Value.int .i64 (i : Int))) := by simpa using own2
              have M2 : Hid (Few w [(LI.footL lb B hv2 av2 P2, fun u => LI.Lines u lb B 60 k hv2 av2 P2 Z2), (dv.ownBlock.toList, fun u => u.ownsRow wc.heap.size 3 1 dv (is.map fun i : Nat => (Value.int .i64 (i : Int))).length (is.map fun i : Nat => (Value.int .i64 (i : Int))))] w2) := LI.few_due HM.out 0 rfl h2 o2 f2 own2'
              obtain ⟨ad, cap, rfl, hml⟩ := LI.row_form own2
              unfold maxLen at hml
              have HP : Hid ((∀ z ∈ Z2, LI.hi z ∈ ents A (fun _ => 0) k) ∧ (∀ i ∈ is, i < k ∧ A i ≤ nw) ∧ is.Pairwise (fun i j => Le (ent A (fun _ => 0) i) (ent A (fun _ => 0) j)) ∧ (∀ i ∈ is, ∀ z ∈ Z2, Le (ent A (fun _ => 0) i) (LI.hi z)) ∧ c + is.length + Z2.length = k ∧ (i = m → Z2 = [])) := ⟨fun z hz => HZ.out.1 z (p1 z hz), fun i hi => ⟨(p2 i hi).1, (p2 i hi).2.1⟩, p3, p4, by have := HZ.out.2; omega, fun e => p6 fun j _ => by have := (HA.out.2 j).2; have := hw3 e; omega⟩
              have HL2 : Hid (LI.Last A k u10 (LI.left A is 0 Z2)) := LI.left_start HL.out p1 p2
              have hcis : c + is.length ≤ k := by have := HP.out.2.2.2.2.1; omega
              clear HM HZ HL HE own2 own2' h2 o2 f2 p1 p2 p3 p4 p5 p6
              go_wp2
              go_loopg [10, 11, 14] is.length (fun gk s10 s11 s14 wr => ∃ j : Nat, gk + j = is.length ∧ s14 = .int .i64 j ∧ s11 = .int .i64 ((c + j : Nat) : Int) ∧ LI.Last A k s10 (LI.left A is j Z2) ∧ Few w [(LI.footL lb B hv2 av2 P2, fun u => LI.Lines u lb B 60 k hv2 av2 P2 Z2), ((Value.slice ad is.length cap).ownBlock.toList, fun u => u.ownsRow wc.heap.size 3 1 (.slice ad is.length cap) (is.map fun i : Nat => (Value.int .i64 (i : Int))).length (is.map fun i : Nat => (Value.int .i64 (i : Int))))] wr)
              case atStart => exact ⟨0, by omega, rfl, rfl, HL2.out, M2.out⟩
              case round =>
                clear M2 HL2
                obtain ⟨j, hgj, rfl, rfl, hl, M⟩ := hrel
                have HM : Hid (Few w [(LI.footL lb B hv2 av2 P2, fun u => LI.Lines u lb B 60 k hv2 av2 P2 Z2), ((Value.slice ad is.length cap).ownBlock.toList, fun u => u.ownsRow wc.heap.size 3 1 (.slice ad is.length cap) (is.map fun i : Nat => (Value.int .i64 (i : Int))).length (is.map fun i : Nat => (Value.int .i64 (i : Int))))] wr) := M
                clear M
                by_cases hj : j < is.length
                · have hj' : (j : Int) < (is.length : Int) := by omega
                  obtain ⟨x, hx⟩ : ∃ x, is[j]? = some x := ⟨_, List.getElem?_eq_getElem hj⟩
                  obtain ⟨g, rfl, hg⟩ := LI.row_cell (j := j) (u := .int .i64 x) (by have := HM.out.holds 1; simpa using this) (by simp [hx]) (by simp)
                  obtain ⟨hxk, hxn⟩ := HP.out.2.1 x (List.mem_of_getElem? hx)
                  have HN : Hid (LI.Last A k (.int .i64 x) (LI.left A is (j + 1) Z2)) := LI.left_next hx hxk HP.out.2.2.1 HP.out.2.2.2.1
                  obtain ⟨y, rfl, hblk, hc⟩ := HC.out x (by omega)
                  have hcx := (HM.out.bel.cell (p := y.add x) hblk).trans hc
                  obtain ⟨dx, hdx⟩ : ∃ d, z0.getD x 0 = d := ⟨_, rfl⟩
                  have e7 := HA.out.1 x
                  rw [hdx] at hcx e7
                  have hxl : (x : Int) < (len0 : Int) := by omega
                  have hxk' : (x : Int) < (k : Int) := by omega
                  rcases hl with rfl | ⟨l, hlk, rfl, hle⟩
                  · obtain ⟨Ax, hAx⟩ : ∃ a, A x = a := ⟨_, rfl⟩
                    rw [hAx] at e7 hxn
                    have q1 : decide ((x : Int) < 0) = false := by simp
                    have q2 : decide ((k : Int) ≤ (x : Int)) = false := by simp; omega
                    have q2' : decide (k ≤ x) = false := by simp; omega
                    have q3 : decide (nw < Ax) = false := by simp; omega
                    clear hAx hdx hc hx HC1 HD HA
                    go_wp2
                    go_big_quiet (fail)
                    go_wp2
                    go_roundg (gk - 1)
                    case measure => omega
                    case rel => exact ⟨j + 1, by omega, by go_num, by go_num, HN.out, HM.out.below (below_drewN _ _)⟩
                  · have cmp := LI.left_head hx hle
                    obtain ⟨y', hy', hbl, hcl0⟩ := HC.out l (by omega)
                    obtain rfl : y = y' := by simpa using hy'
                    have hcl := (HM.out.bel.cell (p := y.add l) hbl).trans hcl0
                    obtain ⟨dl, hdl⟩ : ∃ d, z0.getD l 0 = d := ⟨_, rfl⟩
                    have el := HA.out.1 l
                    rw [hdl] at hcl el
                    have hll : (l : Int) < (len0 : Int) := by omega
                    obtain ⟨Ax, hAx⟩ : ∃ a, A x = a := ⟨_, rfl⟩
                    obtain ⟨Al, hAl⟩ : ∃ a, A l = a := ⟨_, rfl⟩
                    rw [hAx] at e7 hxn cmp
                    rw [hAl] at el cmp
                    have q1 : decide ((x : Int) < 0) = false := by simp
                    have q2 : decide ((k : Int) ≤ (x : Int)) = false := by simp; omega
                    have q2' : decide (k ≤ x) = false := by simp; omega
                    have q3 : decide (nw < Ax) = false := by simp; omega
                    have q4 : decide (0 ≤ (l : Int)) = true := by simp
                    have q5 : decide (Ax < Al) = false := by simp; omega
                    clear hAx hAl hdx hdl hc hcl0 hbl hblk hy' hx hle HC1 HD HA
                    rcases cmp with hlt | ⟨rfl, hlx⟩
                    · have q6 : decide (Al = Ax) = false := by simp; omega
                      have q7 : (Al == Ax) = false := by simp; omega
                      go_wp2
                      go_big_quiet (fail)
                      go_wp2
                      go_roundg (gk - 1)
                      case measure => omega
                      case rel => exact ⟨j + 1, by omega, by go_num, by go_num, HN.out, HM.out.below (below_drewN _ _)⟩
                    · have q6 : decide ((x : Int) < (l : Int)) = false := by simp; omega
                      have q7 : decide (x < l) = false := by simp; omega
                      go_wp2
                      go_big_quiet (fail)
                      go_wp2
                      go_roundg (gk - 1)
                      case measure => omega
                      case rel => exact ⟨j + 1, by omega, by go_num, by go_num, HN.out, HM.out.below (below_drewN _ _)⟩
                · obtain rfl : j = is.length := by omega
                  clear HC HC1 HA HD
                  go_wp2
                  go_roundg (m - i)
                  case measure => omega
                  case rel => exact ⟨i + 1, c + is.length, nw, hv2, av2, P2, Z2, by omega, by go_num, rfl, hw0, hw1, fun h => by have := hw2 h; omega, rfl, HP.out.2.2.2.2.1, HP.out.1, fun e => HP.out.2.2.2.2.2 (by omega), LI.left_end hl, Few.less (l := [_]) HM.out⟩
          · have hi1 : i = m + 1 := by omega
            have hz := HE.out hi1
            subst hz
            obtain rfl : c = k := by have := HZ.out.2; simpa using this
            have hl0 : P = [] := List.eq_nil_of_length_eq_zero (by have := LI.Lines.len (HM.out.holds 0); simpa using this)
            subst hl0
            have CT : Hid (Calls Try.prog 36 #[.pointer (some ⟨lb, 0, none⟩)] wr fun e w' => e = .returned (.int .i64 0) ∧ w' = wr) := LI.len_any (HM.out.holds 0)
            clear HE HZ HL HC HC1 HA HD
            rcases (by omega : ¬ (i : Int) ≤ (len1 : Int) ∨ ((i : Int) ≤ (len1 : Int) ∧ ¬ (i : Int) < 20)) with h1 | ⟨h1, h2⟩
            all_goals
              go_wp2_with fail
              refine CT.out.mono ?_
              rintro e w' ⟨rfl, hw⟩
              subst w'
              go_wp2
              go_ret
              exact ⟨rfl, HM.out.bel⟩

set_option maxRecDepth 100000 in
theorem lifted (os : Os) (started : os.Started) (H : Type) (enc : TypeId × Value → H) :
    ReturnsInHanded {} Try.checked os 9 .any (Rows.lineOrderSpec.pre6 enc Try.prog Try.f9 Rows.lineOrderRow.domain false) (Rows.lineOrderSpec.post enc Try.prog Try.f9 false true false false) := by
  refine returnsInHanded_of_change (C := Try.checked) own started (by kernel_rfl) Try.func9
    (ChangeSpec.witness6 (enc := enc) (C := Try.checked) false ⟨#[], #[.slice none 0 0, .slice none 0 0], []⟩ 8 (by kernel_rfl) (by kernel_rfl) (by kernel_rfl) (by kernel_rfl)) ?_
  intro W base args ds gs before hval0 hW hcnd _
  have hval : ∀ (j : Nat) t v, Try.f9.params[j]? = some t → args[j]? = some v → Value.okWide Try.prog W .any base t v := hval0
  have hW' := hW
  obtain ⟨p, q, hA0, hV, rfl, hfz, hnd⟩ := hW
  have hA : DataW.TrodAll enc Try.prog W 0 (fun _ => true) true Try.f9.params.toList args.toList ds p := hA0
  rw [Try.params9] at hA hval
  obtain ⟨v0, vs0, d0, ds0, p0, q0, hargs, rfl, rfl, h0, r0⟩ := trodAll_cons hA
  obtain ⟨v1, vs1, d1, ds1, p1, q1, rfl, rfl, rfl, h1, r1⟩ := trodAll_cons r0
  obtain ⟨rfl, rfl, rfl⟩ := trodAll_nil r1
  obtain rfl : args = #[v0, v1] := by cases args; simp_all
  obtain ⟨rfl, rfl⟩ := trodVars_none hV
  obtain ⟨a0, len0, cap0, rfl⟩ := okWide_slice Try.underlying41 (hval 0 41 v0 rfl rfl)
  have k0 := h0
  have lt0 : ∀ x ∈ p0, x.block < W.heap.size := by obtain ⟨m, hm⟩ := k0; exact DataW.trod_lt m _ _ _ hm
  obtain ⟨z0, w0⟩ : ∃ zs, IsRow .i64 W a0 len0 cap0 zs := by
    obtain ⟨fuel, hf⟩ := h0
    rcases open_ints Try.underlying41 Try.underlying2 (by kernel_rfl) hf with ⟨hcs, _⟩ | ⟨x, l, c, zs, hcs, _, hl, hm, hz, _, hcell, hwz⟩
    · simp [Value.cells] at hcs
      obtain ⟨rfl, rfl, rfl⟩ := hcs
      exact ⟨[], .inl ⟨rfl, rfl, rfl, rfl⟩⟩
    · simp [Value.cells] at hcs
      obtain ⟨rfl, rfl, rfl⟩ := hcs
      exact ⟨zs, .inr ⟨_, rfl, hl, hm, by simpa using hz, hcell, hwz⟩⟩
  obtain ⟨a1, len1, cap1, rfl⟩ := okWide_slice Try.underlying41 (hval 1 41 v1 rfl rfl)
  have k1 := h1
  have lt1 : ∀ x ∈ p1, x.block < W.heap.size := by obtain ⟨m, hm⟩ := k1; exact DataW.trod_lt m _ _ _ hm
  obtain ⟨z1, w1⟩ : ∃ zs, IsRow .i64 W a1 len1 cap1 zs := by
    obtain ⟨fuel, hf⟩ := h1
    rcases open_ints Try.underlying41 Try.underlying2 (by kernel_rfl) hf with ⟨hcs, _⟩ | ⟨x, l, c, zs, hcs, _, hl, hm, hz, _, hcell, hwz⟩
    · simp [Value.cells] at hcs
      obtain ⟨rfl, rfl, rfl⟩ := hcs
      exact ⟨[], .inl ⟨rfl, rfl, rfl, rfl⟩⟩
    · simp [Value.cells] at hcs
      obtain ⟨rfl, rfl, rfl⟩ := hcs
      exact ⟨zs, .inr ⟨_, rfl, hl, hm, by simpa using hz, hcell, hwz⟩⟩
  clear hA0 hval0
  refine (walk a0 len0 cap0 z0 a1 len1 cap1 z1 W w0 w1).mono fun e W' ⟨he, bel⟩ => ?_
  subst he
  exact ⟨_, rfl, _, _, _, [], _, [], hW', trodAll_mk1 (shut_bool Try.underlying4 _), (trodAll_cons_mk (Below.trod laidOut (by kernel_rfl) (of_decide_eq_true (by kernel_rfl)) k0 bel lt0) (trodAll_cons_mk (Below.trod laidOut (by kernel_rfl) (of_decide_eq_true (by kernel_rfl)) k1 bel lt1) trodAll_mk0)), rfl, bel.frame _, fun h => by cases h⟩

theorem over : Rows.lineOrderRow.holds Try.pinned (OpenSpec.ofChange Rows.lineOrderSpec) :=
  OpenClaim.holds_of_wide 9 Try.f9 rfl rfl rfl rfl rfl rfl rfl ⟨rfl, rfl, rfl, rfl, rfl⟩ rfl rfl rfl rfl rfl (by kernel_rfl) Try.func9 (by kernel_rfl)
    (of_decide_eq_true (by kernel_rfl)) (by unfold Func.isWrapper; first | (rw [if_pos (by decide +kernel)]; kernel_rfl) | (rw [if_neg (by decide +kernel)]; exact ⟨rfl, rfl⟩))
    (fun os started H enc _ => lifted os started H enc)

theorem proved : Rows.LineOrderSaid := over
end Go.Proofs.Ytnnbpojkjlakcaa.lineOrder
