/-
PROVED: the statement hortatorlaw2.HeapDrop answers true over the landed packages: whatever is dropped, what is left comes out in its order.
  CONDITIONS: none beside the row's own.
-/
import Derived.Test.YtnnbpojkjlakcaaRows
import Derived.WalkKit
import Derived.ProofKit
import Derived.OpenShut
import Derived.ShutString
import Derived.ChangeOld
import Derived.Below
import Derived.Test.YtnnbpojkjlakcaaBegun
import Derived.Test.YtnnbpojkjlakcaaHeapGone
namespace Go.Proofs.Ytnnbpojkjlakcaa.heapDrop
open Go.ChangeShapes Go.WideShapes Go.ChangeAt Go.RowKit
open Go.ChangeMaps (open_string shut_string)
set_option linter.unusedVariables false

theorem own : ownKnob Try.prog.godebug = none := by kernel_rfl
theorem laidOut : laidOutB Try.prog = true := by kernel_rfl

def IsRow (k : IntKind) (w : World) (a : Option Addr) (len cap : Nat) (zs : List Int) : Prop :=
  (a = none ∧ len = 0 ∧ cap = 0 ∧ zs = []) ∨
  ∃ x, a = some x ∧ len ≤ cap ∧ cap ≤ maxLen ∧ zs.length = cap ∧ (∀ i, i < zs.length → w.cell? (x.add i) = some (.int k (zs.getD i 0))) ∧ ∀ n ∈ zs, (Lit.int k n).wf = true

set_option maxHeartbeats 8000000 in
set_option maxRecDepth 100000 in
theorem walk (a0 : Option Addr) (len0 cap0 : Nat) (z0 : List Int) (a1 : Option Addr) (len1 cap1 : Nat) (z1 : List Int) (w : World) (w0 : IsRow .i64 w a0 len0 cap0 z0) (w1 : IsRow .i64 w a1 len1 cap1 z1) :
    Calls Try.prog 7 #[.slice a0 len0 cap0, .slice a1 len1 cap1] w fun e w' => e = .returned (.bool true) ∧ Below w.heap.size w w' := by
  have hcells0 : ∀ i, i < len0 → ∃ x : Addr, a0 = some x ∧ (x.add i).block < w.heap.size ∧ w.cell? (x.add i) = some (.int .i64 (z0.getD i 0)) := by
    intro i hi
    rcases w0 with ⟨_, rfl, _, _⟩ | ⟨x, rfl, hl, hm, hz, hc, hw⟩
    · omega
    · have c := hc i (by omega)
      exact ⟨x, rfl, World.block_lt_of_cell? w _ c, c⟩
  have hcells1 : ∀ i, i < len1 → ∃ x : Addr, a1 = some x ∧ (x.add i).block < w.heap.size ∧ w.cell? (x.add i) = some (.int .i64 (z1.getD i 0)) := by
    intro i hi
    rcases w1 with ⟨_, rfl, _, _⟩ | ⟨x, rfl, hl, hm, hz, hc, hw⟩
    · omega
    · have c := hc i (by omega)
      exact ⟨x, rfl, World.block_lt_of_cell? w _ c, c⟩
  have hlen0 : len0 ≤ 9223372036854775807 := by
    rcases w0 with ⟨_, rfl, _, _⟩ | ⟨x, rfl, hl, hm, _⟩
    · omega
    · unfold maxLen at hm; omega
  have hlen1 : len1 ≤ 9223372036854775807 := by
    rcases w1 with ⟨_, rfl, _, _⟩ | ⟨x, rfl, hl, hm, _⟩
    · omega
    · unfold maxLen at hm; omega
  have HC : Hid (∀ i, i < len0 → ∃ x : Addr, a0 = some x ∧ (x.add i).block < w.heap.size ∧ w.cell? (x.add i) = some (.int .i64 (z0.getD i 0))) := hcells0
  have HC1 : Hid (∀ i, i < len1 → ∃ x : Addr, a1 = some x ∧ (x.add i).block < w.heap.size ∧ w.cell? (x.add i) = some (.int .i64 (z1.getD i 0))) := hcells1
  clear hcells0 hcells1 w0 w1
  obtain ⟨A, hA⟩ : ∃ A : Nat → Int, ∀ i, bits .and .i64 (z0.getD i 0) 31 = A i := ⟨fun i => _, fun i => rfl⟩
  have HA : Hid ((∀ i, bits .and .i64 (z0.getD i 0) 31 = A i) ∧ ∀ i, 0 ≤ A i ∧ A i ≤ 31) := ⟨hA, fun i => by rw [← hA i, i64_and31]; omega⟩
  clear hA
  go_enter Try.func7, Try.ntmps7
  go_wp2_with fail
  refine (begun2_any _).mono ?_
  rintro e W ⟨rfl, g0⟩
  have M0 : Hid (Few w [] W) := (Few.start w).below g0
  clear g0
  go_upto_region 4 with fail
  go_cut [6] (fun s6 wc => ∃ n : Nat, n ≤ len0 ∧ n ≤ 40 ∧ s6 = .int .i64 n ∧ wc = W)
  case first =>
    rcases (by omega : (len0 : Int) ≤ 40 ∨ 40 < (len0 : Int)) with h | h
    · go_wp2
      go_meet
      exact ⟨len0, by omega, by omega, rfl, rfl⟩
    · go_wp2
      go_meet
      exact ⟨40, by omega, by omega, rfl, rfl⟩
  case rest =>
    obtain ⟨n, hn0, hn1, rfl, rfl⟩ := hcut
    go_wp2_with fail
    refine (HI.new_any 40 wc (by omega) (by omega)).mono ?_
    rintro e w1 ⟨rfl, h1, g1⟩
    rw [show HI.roomV 40 = 40 by unfold HI.roomV; omega] at h1
    have M1 : Hid (Few w [(foot wc.heap.size (.slice none 0 0), fun u => HI.Heaps u wc.heap.size 40 0 (.slice none 0 0) [])] w1) := M0.out.add g1 h1 h1.foot_lt h1.foot_ge HI.keeps
    clear M0 g1 h1
    obtain ⟨B, hB⟩ : ∃ B, B = wc.heap.size := ⟨_, rfl⟩
    rw [← hB]
    rw [← hB] at M1
    clear hB
    have mk := madeB n (by omega)
    go_upto_region 7 with fail
    have M2 : Hid (Few w [(foot B (.slice none 0 0), fun u => HI.Heaps u B 40 0 (.slice none 0 0) []), ([w1.heap.size], RowF w1.heap.size 4 n (fun j => .bool ((fun _ => false) j)))] (w1.alloc (.cells (Array.replicate n (.bool false)) 4))) := M1.out.add ((Below.refl _ _).alloc (Nat.le_refl _) _) (RowF.made w1 4 n (.bool false)) (by simp) (by simp) RowF.keeps
    obtain ⟨G, hG⟩ : ∃ G, G = w1.heap.size := ⟨_, rfl⟩
    rw [← hG] at M2 ⊢
    clear hG M1 mk
    generalize w1.alloc (.cells (Array.replicate n (.bool false)) 4) = wa at M2 ⊢
    go_wp2
    go_loopg [9] n (fun gk s9 wr => ∃ (k : Nat) (v : Value), gk + k = n ∧ s9 = .int .i64 k ∧ Few w [(foot B v, fun u => HI.Heaps u B 40 k v (ents A (fun _ => 0) k)), ([G], RowF G 4 n (fun j => .bool ((fun _ => false) j)))] wr)
    case atStart => exact ⟨0, _, by omega, rfl, M2.out⟩
    case round =>
      clear M2
      obtain ⟨k, v, hk, rfl, M⟩ := hrel
      have HM : Hid (Few w [(foot B v, fun u => HI.Heaps u B 40 k v (ents A (fun _ => 0) k)), ([G], RowF G 4 n (fun j => .bool ((fun _ => false) j)))] wr) := M
      clear M
      by_cases hkn : k < n
      · have hkl : k < len0 := by omega
        have hkl' : (k : Int) < (len0 : Int) := by omega
        obtain ⟨x, rfl, hblk, hc⟩ := HC.out k hkl
        have hcr := (HM.out.bel.cell (p := x.add k) hblk).trans hc
        obtain ⟨d, hd⟩ : ∃ d, z0.getD k 0 = d := ⟨_, rfl⟩
        have e7 := HA.out.1 k
        rw [hd] at hcr e7
        have put := HI.put_new (k : Int) (A k) 0 wr (HM.out.holds 0) trivial (ents_not (by omega)) (by rw [ents_length]; omega) (by omega) (by omega)
        rw [← ents_succ A (fun _ => 0)] at put
        have HP : Hid (Calls Try.prog 13 #[.pointer (some ⟨B, 0, none⟩), mkI (k : Int), .int .i64 (A k), .int .i64 0] wr fun e w' => ∃ v', e = .returned (.bool true) ∧ HI.Heaps w' B 40 ((k : Int) + 1) v' (ents A (fun _ => 0) (k + 1)) ∧ Only (foot B v) wr w' ∧ ∀ j ∈ foot B v', j ∈ foot B v ∨ wr.heap.size ≤ j) := put
        clear put hd hc hblk
        go_wp2_with fail
        refine HP.out.mono ?_
        rintro e w2 ⟨v2, rfl, h2, o2, f2⟩
        have M2 : Hid (Few w [(foot B v2, fun u => HI.Heaps u B 40 ((k : Int) + 1) v2 (ents A (fun _ => 0) (k + 1))), ([G], RowF G 4 n (fun j => .bool ((fun _ => false) j)))] w2) := HI.few_put HM.out 0 rfl h2 o2 f2
        clear HM HP h2 o2 f2
        go_wp2
        go_roundg (gk - 1)
        case measure => omega
        case rel => exact ⟨k + 1, v2, by omega, by go_num, M2.out⟩
      · obtain rfl : k = n := by omega
        go_wp2
        go_loopg [10, 11] 30 (fun gk s10 s11 wr => ∃ (i : Nat) (l : List (Ent Int)) (v : Value) (H : Nat → Bool), i ≤ len1 ∧ gk + i = 30 ∧ s11 = .int .i64 i ∧ s10 = .int .i64 l.length ∧ l.length ≤ 40 ∧ Gone A k l H ∧ Few w [(foot B v, fun u => HI.Heaps u B 40 k v l), ([G], RowF G 4 k (fun j => .bool (H j)))] wr)
        case atStart => exact ⟨0, ents A (fun _ => 0) k, v, fun _ => false, by omega, by omega, rfl, by rw [ents_length], by rw [ents_length]; omega, Gone.start, HM.out⟩
        case round =>
          clear HM
          obtain ⟨i, l, v, H, hi, hgi, rfl, rfl, hl40, hgo, M⟩ := hrel
          have HM : Hid (Few w [(foot B v, fun u => HI.Heaps u B 40 k v l), ([G], RowF G 4 k (fun j => .bool (H j)))] wr) := M
          have HG : Hid (Gone A k l H) := hgo
          clear M hgo
          go_upto_region 13 with fail
          go_cut [50] (fun s50 wc => s50 = .bool (decide (i < len1 ∧ i < 30 ∧ 0 < k)) ∧ wc = wr)
          case first =>
            rcases (by omega : (i < len1 ∧ i < 30 ∧ 0 < k ∧ (i : Int) < (len1 : Int) ∧ (i : Int) < 30 ∧ (0 : Int) < (k : Int)) ∨ (¬ i < len1 ∧ ¬ (i : Int) < (len1 : Int)) ∨ (¬ i < 30 ∧ (i : Int) < (len1 : Int) ∧ ¬ (i : Int) < 30) ∨ (¬ 0 < k ∧ (i : Int) < (len1 : Int) ∧ (i : Int) < 30 ∧ ¬ (0 : Int) < (k : Int))) with ⟨c1, c2, c3, c4, c5, c6⟩ | ⟨c1, c2⟩ | ⟨c1, c2, c3⟩ | ⟨c1, c2, c3, c4⟩
            all_goals
              go_wp2
              go_meet
              exact ⟨congrArg Value.bool (by simp [c1] <;> omega), rfl⟩
          case rest =>
          obtain ⟨rfl, rfl⟩ := hcut
          by_cases hcont : i < len1 ∧ i < 30 ∧ 0 < k
          · obtain ⟨hi1, hi2, hk0⟩ := hcont
            have hi1' : (i : Int) < (len1 : Int) := by omega
            have hi2' : (i : Int) < 30 := by omega
            have hk0' : (0 : Int) < (k : Int) := by omega
            obtain ⟨x, rfl, hblk, hc⟩ := HC1.out i hi1
            have hcr := (HM.out.bel.cell (p := x.add i) hblk).trans hc
            obtain ⟨d, hd⟩ : ∃ d, z1.getD i 0 = d := ⟨_, rfl⟩
            rw [hd] at hcr
            clear hd hc hblk
            go_upto_region 15 with fail
            go_cut [12] (fun s12 wd => ∃ K : Nat, K < k ∧ s12 = .int .i64 K ∧ wd = wc)
            case first =>
              have t0 : -(k : Int) < d.tmod k ∧ d.tmod k < k := ⟨by have := Int.tmod_lt_of_pos (-d) hk0'; rw [Int.neg_tmod] at this; omega, Int.tmod_lt_of_pos _ hk0'⟩
              have kn0 : ¬ (k : Int) = 0 := by omega
              obtain ⟨x0, hx0⟩ : ∃ x, d.tmod k = x := ⟨_, rfl⟩
              rw [hx0] at t0
              obtain ⟨t00, t01⟩ := t0
              obtain ⟨x1, hx1⟩ : ∃ x, (x0 + k).tmod k = x := ⟨_, rfl⟩
              have r0 : 0 ≤ x1 := by rw [← hx1, Int.tmod_eq_emod_of_nonneg (by omega)]; exact Int.emod_nonneg _ kn0
              have r1 : x1 < k := by rw [← hx1]; exact Int.tmod_lt_of_pos _ hk0'
              clear HG HC HC1 HA
              go_wp2
              go_meet
              exact ⟨x1.toNat, by omega, congrArg (Value.int .i64) (by omega), rfl⟩
            case rest =>
              obtain ⟨K, hK, rfl, rfl⟩ := hcut
              have hK' : (K : Int) < (k : Int) := by omega
              have MD : Hid (Few w [(foot B v, fun u => HI.Heaps u B 40 k v l), ([G], RowF G 4 k (fun j => .bool (H j)))] wc.drew) := HM.out.below (Below.refl _ _).drew
              have cg : wc.cell? ⟨G, K, none⟩ = some (.bool (H K)) := RowF.cell (HM.out.holds 1) hK
              have hll := HI.Heaps.items (HM.out.holds 0)
              have HI0 : Hid (Items l k) := hll
              clear hll hcr
              cases hH : H K
              · rw [hH] at cg
                have HH : Hid (H K = false) := hH
                have dr := HI.drop_some (K : Int) wc.drew (MD.out.holds 0) (F := []) trivial (HG.out.in hK hH)
                have HP : Hid (Calls Try.prog 17 #[.pointer (some ⟨B, 0, none⟩), mkI (K : Int)] wc.drew fun e w' => ∃ v', e = .returned (.bool true) ∧ HI.Heaps w' B 40 k v' (less l (K : Int)) ∧ foot B v' = foot B v ∧ Only (foot B v) wc.drew w') := dr
                have HL : Hid ((less l (K : Int)).length + 1 = l.length) := less_length HI0.out (HG.out.in hK hH)
                have hl1 : 1 ≤ l.length := by have := HL.out; omega
                clear hH dr HC HC1 HA HM HI0
                go_wp2_with fail
                go_region_held3 (fun w' => w'.cell? ⟨G, K, none⟩ = some (.bool false)) (go_keep)
                  (first | (go_at_call 17; refine HP.out.mono ?_; rintro e w2 ⟨v2, rfl, h2, f2, o2⟩; have M2 : Hid (Few w [(foot B v2, fun u => HI.Heaps u B 40 k v2 (less l (K : Int))), ([G], RowF G 4 k (fun j => .bool (H j)))] w2) := (HI.few_set MD.out 0 rfl h2 o2 f2); have hc2 : w2.cell? ⟨G, K, none⟩ = some (.bool false) := (RowF.cell (M2.out.holds 1) hK).trans (by rw [HH.out]); have fz2 : w2.frozen? ⟨G, K, none⟩ = false := RowF.fz (M2.out.holds 1); clear HP h2 o2 f2))
                go_wp2
                go_roundg (gk - 1)
                case measure => omega
                case rel => exact ⟨i + 1, less l (K : Int), v2, upd H K true, by omega, by omega, by go_num, congrArg (Value.int .i64) (by have := HL.out; omega), by have := HL.out; omega, HG.out.drop K, few_upd Value.bool H M2.out 1 rfl K true⟩
              · rw [hH] at cg
                have HH : Hid (H K = true) := hH
                have dr := HI.drop_none (K : Int) wc.drew (MD.out.holds 0) (F := []) trivial (HG.out.out hK hH)
                have HP : Hid (Calls Try.prog 17 #[.pointer (some ⟨B, 0, none⟩), mkI (K : Int)] wc.drew fun e w' => e = .returned (.bool false) ∧ Below wc.drew.heap.size wc.drew w') := dr
                clear hH dr HC HC1 HA HM HI0
                go_wp2_with fail
                go_region_held3 (fun w' => w'.cell? ⟨G, K, none⟩ = some (.bool true)) (go_keep)
                  (first | (go_at_call 17; refine HP.out.mono ?_; rintro e w2 ⟨rfl, g2⟩; have M2 : Hid (Few w [(foot B v, fun u => HI.Heaps u B 40 k v l), ([G], RowF G 4 k (fun j => .bool (H j)))] w2) := (MD.out.below g2); have hc2 : w2.cell? ⟨G, K, none⟩ = some (.bool true) := (RowF.cell (M2.out.holds 1) hK).trans (by rw [HH.out]); have fz2 : w2.frozen? ⟨G, K, none⟩ = false := RowF.fz (M2.out.holds 1); clear HP g2))
                go_wp2
                go_roundg (gk - 1)
                case measure => omega
                case rel => exact ⟨i + 1, l, v, upd H K true, by omega, by omega, by go_num, rfl, hl40, HG.out.again HH.out, few_upd Value.bool H M2.out 1 rfl K true⟩
          · clear HC1
            rw [decide_eq_false hcont]
            clear hcont
            go_wp2
            go_loopg [10, 13] l.length (fun gk s10 s13 wr => ∃ (l : List (Ent Int)) (v : Value) (H : Nat → Bool) (last : Int), gk = l.length ∧ s10 = .int .i64 l.length ∧ s13 = .int .i64 last ∧ (∀ y ∈ l, last ≤ y.a) ∧ l.length ≤ 40 ∧ Gone A k l H ∧ Few w [(foot B v, fun u => HI.Heaps u B 40 k v l), ([G], RowF G 4 k (fun j => .bool (H j)))] wr)
            case atStart => exact ⟨l, v, H, -1, rfl, rfl, rfl, fun y hy => by obtain ⟨j, _, rfl⟩ := ent_mem (HG.out.1 y hy); have := (HA.out.2 j).1; show -1 ≤ A j; omega, hl40, HG.out, HM.out⟩
            case round =>
              clear HM HG
              obtain ⟨l3, v3, H3, last, rfl, rfl, rfl, hlast, hl3, hgo, M⟩ := hrel
              have HM : Hid (Few w [(foot B v3, fun u => HI.Heaps u B 40 k v3 l3), ([G], RowF G 4 k (fun j => .bool (H3 j)))] wr) := M
              have HG : Hid (Gone A k l3 H3 ∧ ∀ y ∈ l3, last ≤ y.a) := ⟨hgo, hlast⟩
              clear M hgo hlast
              by_cases hne : l3 = []
              · subst hne
                go_wp2_with fail
                refine (HI.heap_len wr (HM.out.holds 0)).mono ?_
                rintro e w' ⟨rfl, hw⟩
                subst w'
                go_wp2
                go_ret
                exact ⟨rfl, HM.out.bel⟩
              · have hpos : 0 < l3.length := List.length_pos_iff.2 hne
                have hpos' : (0 : Int) < (l3.length : Int) := by omega
                have HT := HI.take_ent (HM.out.holds 0) hne HG.out.1.1
                clear hne
                go_wp2_with fail
                refine HT.mono ?_
                rintro e w2 ⟨x, v4, hx, rfl, h2, f2, o2, hin, hfi, hle2⟩
                have M2 : Hid (Few w [(foot B v4, fun u => HI.Heaps u B 40 k v4 (less l3 (x : Int))), ([G], RowF G 4 k (fun j => .bool (H3 j)))] w2) := HI.few_set HM.out 0 rfl h2 o2 f2
                have HF : Hid ((∀ y ∈ less l3 (x : Int), A x ≤ y.a) ∧ (less l3 (x : Int)).length + 1 = l3.length) := ⟨fun y hy => le_key (hfi y (mem_less.1 hy).1), hle2⟩
                have hla : last ≤ A x := HG.out.2 _ hin
                have hHx : H3 x = false := (HG.out.1.2 x hx).2 ⟨_, hin, rfl⟩
                have cg : w2.cell? ⟨G, x, none⟩ = some (.bool false) := (RowF.cell (M2.out.holds 1) hx).trans (by rw [hHx])
                have fg : w2.frozen? ⟨G, x, none⟩ = false := RowF.fz (M2.out.holds 1)
                obtain ⟨y, rfl, hby, hcy⟩ := HC.out x (by omega)
                have hcy2 := (M2.out.bel.cell (p := y.add x) hby).trans hcy
                obtain ⟨dx, hdx⟩ : ∃ d, z0.getD x 0 = d := ⟨_, rfl⟩
                have e7 := HA.out.1 x
                rw [hdx] at hcy2 e7
                obtain ⟨Ax, hAx⟩ : ∃ a, A x = a := ⟨_, rfl⟩
                have HAX : Hid (A x = Ax) := hAx
                rw [hAx] at e7 hla
                have hxl : (x : Int) < (len0 : Int) := by omega
                have hxk : (x : Int) < (k : Int) := by omega
                have hll : ¬ Ax < last := by omega
                clear HT h2 f2 o2 hin hfi hle2 hHx hcy hby hdx hAx HM HC HA
                go_wp2
                go_roundg ((less l3 (x : Int)).length)
                case measure => have := HF.out.2; omega
                case rel => exact ⟨less l3 (x : Int), v4, upd H3 x true, Ax, rfl, congrArg (Value.int .i64) (by have := HF.out.2; omega), rfl, by have := HF.out.1; rw [HAX.out] at this; exact this, by have := HF.out.2; omega, HG.out.1.drop x, few_upd Value.bool H3 M2.out 1 rfl x true⟩

set_option maxRecDepth 100000 in
theorem lifted (os : Os) (started : os.Started) (H : Type) (enc : TypeId × Value → H) :
    ReturnsInHanded {} Try.checked os 7 .any (Rows.heapDropSpec.pre6 enc Try.prog Try.f7 Rows.heapDropRow.domain false) (Rows.heapDropSpec.post enc Try.prog Try.f7 false true false false) := by
  refine returnsInHanded_of_change (C := Try.checked) own started (by kernel_rfl) Try.func7
    (ChangeSpec.witness6 (enc := enc) (C := Try.checked) false ⟨#[], #[.slice none 0 0, .slice none 0 0], []⟩ 8 (by kernel_rfl) (by kernel_rfl) (by kernel_rfl) (by kernel_rfl)) ?_
  intro W base args ds gs before hval0 hW hcnd _
  have hval : ∀ (j : Nat) t v, Try.f7.params[j]? = some t → args[j]? = some v → Value.okWide Try.prog W .any base t v := hval0
  have hW' := hW
  obtain ⟨p, q, hA0, hV, rfl, hfz, hnd⟩ := hW
  have hA : DataW.TrodAll enc Try.prog W 0 (fun _ => true) true Try.f7.params.toList args.toList ds p := hA0
  rw [Try.params7] at hA hval
  obtain ⟨v0, vs0, d0, ds0, p0, q0, hargs, rfl, rfl, h0, r0⟩ := trodAll_cons hA
  obtain ⟨v1, vs1, d1, ds1, p1, q1, rfl, rfl, rfl, h1, r1⟩ := trodAll_cons r0
  obtain ⟨rfl, rfl, rfl⟩ := trodAll_nil r1
  obtain rfl : args = #[v0, v1] := by cases args; simp_all
  obtain ⟨rfl, rfl⟩ := trodVars_none hV
  obtain ⟨a0, len0, cap0, rfl⟩ := okWide_slice Try.underlying41 (hval 0 41 v0 rfl rfl)
  have k0 := h0
  have lt0 : ∀ x ∈ p0, x.block < W.heap.size := by obtain ⟨m, hm⟩ := k0; exact DataW.trod_lt m _ _ _ hm
  obtain ⟨z0, w0⟩ : ∃ zs, IsRow .i64 W a0 len0 cap0 zs := by
    obtain ⟨fuel, hf⟩ := h0
    rcases open_ints Try.underlying41 Try.underlying2 (by kernel_rfl) hf with ⟨hcs, _⟩ | ⟨x, l, c, zs, hcs, _, hl, hm, hz, _, hcell, hwz⟩
    · simp [Value.cells] at hcs
      obtain ⟨rfl, rfl, rfl⟩ := hcs
      exact ⟨[], .inl ⟨rfl, rfl, rfl, rfl⟩⟩
    · simp [Value.cells] at hcs
      obtain ⟨rfl, rfl, rfl⟩ := hcs
      exact ⟨zs, .inr ⟨_, rfl, hl, hm, by simpa using hz, hcell, hwz⟩⟩
  obtain ⟨a1, len1, cap1, rfl⟩ := okWide_slice Try.underlying58 (hval 1 58 v1 rfl rfl)
  have k1 := h1
  have lt1 : ∀ x ∈ p1, x.block < W.heap.size := by obtain ⟨m, hm⟩ := k1; exact DataW.trod_lt m _ _ _ hm
  obtain ⟨z1, w1⟩ : ∃ zs, IsRow .i64 W a1 len1 cap1 zs := by
    obtain ⟨fuel, hf⟩ := h1
    rcases open_ints Try.underlying58 Try.underlying3 (by kernel_rfl) hf with ⟨hcs, _⟩ | ⟨x, l, c, zs, hcs, _, hl, hm, hz, _, hcell, hwz⟩
    · simp [Value.cells] at hcs
      obtain ⟨rfl, rfl, rfl⟩ := hcs
      exact ⟨[], .inl ⟨rfl, rfl, rfl, rfl⟩⟩
    · simp [Value.cells] at hcs
      obtain ⟨rfl, rfl, rfl⟩ := hcs
      exact ⟨zs, .inr ⟨_, rfl, hl, hm, by simpa using hz, hcell, hwz⟩⟩
  clear hA0 hval0
  refine (walk a0 len0 cap0 z0 a1 len1 cap1 z1 W w0 w1).mono fun e W' ⟨he, bel⟩ => ?_
  subst he
  exact ⟨_, rfl, _, _, _, [], _, [], hW', trodAll_mk1 (shut_bool Try.underlying4 _), (trodAll_cons_mk (Below.trod laidOut (by kernel_rfl) (of_decide_eq_true (by kernel_rfl)) k0 bel lt0) (trodAll_cons_mk (Below.trod laidOut (by kernel_rfl) (of_decide_eq_true (by kernel_rfl)) k1 bel lt1) trodAll_mk0)), rfl, bel.frame _, fun h => by cases h⟩

theorem over : Rows.heapDropRow.holds Try.pinned (OpenSpec.ofChange Rows.heapDropSpec) :=
  OpenClaim.holds_of_wide 7 Try.f7 rfl rfl rfl rfl rfl rfl rfl ⟨rfl, rfl, rfl, rfl, rfl⟩ rfl rfl rfl rfl rfl (by kernel_rfl) Try.func7 (by kernel_rfl)
    (of_decide_eq_true (by kernel_rfl)) (by unfold Func.isWrapper; first | (rw [if_pos (by decide +kernel)]; kernel_rfl) | (rw [if_neg (by decide +kernel)]; exact ⟨rfl, rfl⟩))
    (fun os started H enc _ => lifted os started H enc)

theorem proved : Rows.HeapDropSaid := over
end Go.Proofs.Ytnnbpojkjlakcaa.heapDrop
