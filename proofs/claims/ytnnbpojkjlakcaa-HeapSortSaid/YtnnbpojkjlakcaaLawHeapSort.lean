/-
PROVED: the statement hortatorlaw2.HeapSort answers true over the landed packages: what is put comes out by keys, alike ones as they came.
  CONDITIONS: none beside the row's own.
-/
import Derived.Test.YtnnbpojkjlakcaaRows
import Derived.WalkKit
import Derived.ProofKit
import Derived.OpenShut
import Derived.ShutString
import Derived.ChangeOld
import Derived.Below
import Derived.Test.YtnnbpojkjlakcaaBegun
import Derived.Test.YtnnbpojkjlakcaaEnts
namespace Go.Proofs.Ytnnbpojkjlakcaa.heapSort
open Go.ChangeShapes Go.WideShapes Go.ChangeAt Go.RowKit
open Go.ChangeMaps (open_string shut_string)
set_option linter.unusedVariables false

theorem own : ownKnob Try.prog.godebug = none := by kernel_rfl
theorem laidOut : laidOutB Try.prog = true := by kernel_rfl

def IsRow (k : IntKind) (w : World) (a : Option Addr) (len cap : Nat) (zs : List Int) : Prop :=
  (a = none ∧ len = 0 ∧ cap = 0 ∧ zs = []) ∨
  ∃ x, a = some x ∧ len ≤ cap ∧ cap ≤ maxLen ∧ zs.length = cap ∧ (∀ i, i < zs.length → w.cell? (x.add i) = some (.int k (zs.getD i 0))) ∧ ∀ n ∈ zs, (Lit.int k n).wf = true

set_option maxHeartbeats 8000000 in
set_option maxRecDepth 100000 in
theorem walk (a0 : Option Addr) (len0 cap0 : Nat) (z0 : List Int) (w : World) (w0 : IsRow .i64 w a0 len0 cap0 z0) :
    Calls Try.prog 4 #[.slice a0 len0 cap0] w fun e w' => e = .returned (.bool true) ∧ Below w.heap.size w w' := by
  have hcells : ∀ i, i < len0 → ∃ x : Addr, a0 = some x ∧ (x.add i).block < w.heap.size ∧ w.cell? (x.add i) = some (.int .i64 (z0.getD i 0)) := by
    intro i hi
    rcases w0 with ⟨_, rfl, _, _⟩ | ⟨x, rfl, hl, hm, hz, hc, hw⟩
    · omega
    · have c := hc i (by omega)
      exact ⟨x, rfl, World.block_lt_of_cell? w _ c, c⟩
  have hlen : len0 ≤ 9223372036854775807 := by
    rcases w0 with ⟨_, rfl, _, _⟩ | ⟨x, rfl, hl, hm, _⟩
    · omega
    · unfold maxLen at hm; omega
  have HC : Hid (∀ i, i < len0 → ∃ x : Addr, a0 = some x ∧ (x.add i).block < w.heap.size ∧ w.cell? (x.add i) = some (.int .i64 (z0.getD i 0))) := hcells
  clear hcells w0
  obtain ⟨A, hA⟩ : ∃ A : Nat → Int, ∀ i, bits .and .i64 (z0.getD i 0) 7 = A i := ⟨fun i => _, fun i => rfl⟩
  obtain ⟨C, hC⟩ : ∃ C : Nat → Int, ∀ i, bits .and .i64 (z0.getD i 0) 1 = C i := ⟨fun i => _, fun i => rfl⟩
  have HA : Hid ((∀ i, bits .and .i64 (z0.getD i 0) 7 = A i) ∧ ∀ i, bits .and .i64 (z0.getD i 0) 1 = C i) := ⟨hA, hC⟩
  clear hA hC
  go_enter Try.func4, Try.ntmps4
  go_wp2_with fail
  refine (begun2_any _).mono ?_
  rintro e W ⟨rfl, g0⟩
  have M0 : Hid (Few w [] W) := (Few.start w).below g0
  clear g0
  go_upto_region 4 with fail
  go_cut [4] (fun s4 wc => ∃ n : Nat, n ≤ len0 ∧ n ≤ 60 ∧ s4 = .int .i64 n ∧ wc = W)
  case first =>
    rcases (by omega : (len0 : Int) ≤ 60 ∨ 60 < (len0 : Int)) with h | h
    · go_wp2
      go_meet
      exact ⟨len0, by omega, by omega, rfl, rfl⟩
    · go_wp2
      go_meet
      exact ⟨60, by omega, by omega, rfl, rfl⟩
  case rest =>
    obtain ⟨n, hn0, hn1, rfl, rfl⟩ := hcut
    go_wp2_with fail
    refine (HI.new_any 60 wc (by omega) (by omega)).mono ?_
    rintro e w1 ⟨rfl, h1, g1⟩
    have M1 : Hid (Few w [(foot wc.heap.size (.slice none 0 0), fun u => HI.Heaps u wc.heap.size 60 0 (.slice none 0 0) [])] w1) := M0.out.add g1 h1 h1.foot_lt h1.foot_ge HI.keeps
    clear M0 g1 h1
    obtain ⟨B, hB⟩ : ∃ B, B = wc.heap.size := ⟨_, rfl⟩
    rw [← hB]
    rw [← hB] at M1
    clear hB
    go_wp2
    go_loopw [6] (fun s6 wr => ∃ (k : Nat) (v : Value), k ≤ n ∧ s6 = .int .i64 k ∧ Few w [(foot B v, fun u => HI.Heaps u B 60 k v (ents A C k))] wr) (fun i _ => n - (intOf i).toNat)
    case atStart => exact ⟨0, _, by omega, rfl, M1.out⟩
    case round =>
      clear M1
      obtain ⟨k, v, hk, rfl, M⟩ := hrel
      have HM : Hid (Few w [(foot B v, fun u => HI.Heaps u B 60 k v (ents A C k))] wr) := M
      clear M
      by_cases hkn : k < n
      · have hkl : k < len0 := by omega
        have hkl' : (k : Int) < (len0 : Int) := by omega
        obtain ⟨x, rfl, hblk, hc⟩ := HC.out k hkl
        have hcr := (HM.out.bel.cell (p := x.add k) hblk).trans hc
        obtain ⟨d, hd⟩ : ∃ d, z0.getD k 0 = d := ⟨_, rfl⟩
        have e7 := HA.out.1 k
        have e1 := HA.out.2 k
        rw [hd] at hcr e7 e1
        have hc' : w.cell? (x.add k) = some (.int .i64 d) := by rw [hc, hd]
        have HCW : Hid (w.cell? (x.add k) = some (.int .i64 d)) := hc'
        clear hd hc hc'
        have MD : Hid (Few w [(foot B v, fun u => HI.Heaps u B 60 k v (ents A C k))] wr.drew) := HM.out.below (Below.refl _ _).drew
        have put := HI.put_new (k : Int) (A k) (C k) wr.drew (MD.out.holds 0) trivial (ents_not (by omega)) (by rw [ents_length]; omega) (by omega) (by omega)
        rw [← ents_succ] at put
        have HP : Hid (Calls Try.prog 13 #[.pointer (some ⟨B, 0, none⟩), mkI (k : Int), .int .i64 (A k), .int .i64 (C k)] wr.drew fun e w' => ∃ v', e = .returned (.bool true) ∧ HI.Heaps w' B 60 ((k : Int) + 1) v' (ents A C (k + 1)) ∧ Only (foot B v) wr.drew w' ∧ ∀ j ∈ foot B v', j ∈ foot B v ∨ wr.drew.heap.size ≤ j) := put
        clear put HM
        go_wp2_with fail
        go_region_held3 (fun w' => w'.cell? (x.add k) = some (.int .i64 d)) (go_keep)
          (first | (go_at_call 13; refine HP.out.mono ?_; rintro e w2 ⟨v2, rfl, h2, o2, f2⟩; have M2 : Hid (Few w [(foot B v2, fun u => HI.Heaps u B 60 ((k : Int) + 1) v2 (ents A C (k + 1)))] w2) := (HI.few_put MD.out 0 rfl h2 o2 f2); have hc2 : w2.cell? (x.add k) = some (.int .i64 d) := (M2.out.bel.cell (p := x.add k) hblk).trans HCW.out; clear HP h2 o2 f2))
        go_wp2
        go_roundw
        case rel => exact ⟨k + 1, v2, hkn, by go_num, M2.out⟩
        case measure => simp [intOf]; omega
      · obtain rfl : k = n := by omega
        go_wp2
        go_loopw [7, 8] (fun s7 s8 wr => ∃ (j : Nat) (l : List (Ent Int)) (v : Value), j ≤ k ∧ s8 = .int .i64 j ∧ l.length + j = k ∧ (∀ y ∈ l, y ∈ ents A C k) ∧ (s7 = .int .i64 (-1) ∨ ∃ z : Nat, z < k ∧ s7 = .int .i64 z ∧ ∀ y ∈ l, Le (ent A C z) y) ∧ Few w [(foot B v, fun u => HI.Heaps u B 60 k v l)] wr) (fun _ i _ => k - (intOf i).toNat)
        case atStart => exact ⟨0, _, v, by omega, rfl, by rw [ents_length]; rfl, fun y hy => hy, .inl rfl, HM.out⟩
        case round =>
          clear HM
          obtain ⟨j, l, v3, hj, rfl, hll, hsub, hlast, M⟩ := hrel
          have HM : Hid (Few w [(foot B v3, fun u => HI.Heaps u B 60 k v3 l)] wr) := M
          have HS : Hid ((∀ y ∈ l, y ∈ ents A C k) ∧ l.length + j = k) := ⟨hsub, hll⟩
          clear M hsub hll
          by_cases hjk : j < k
          · have hne : l ≠ [] := fun e => by have := HS.out.2; rw [e] at this; simp at this; omega
            have HT := HI.take_ent (HM.out.holds 0) hne HS.out.1
            clear hne
            rcases hlast with rfl | ⟨z, hz, rfl, hle⟩
            · go_wp2_with fail
              refine HT.mono ?_
              rintro e w2 ⟨i, v4, hi, rfl, h2, f2, o2, hin, hfi, hle2⟩
              have M2 : Hid (Few w [(foot B v4, fun u => HI.Heaps u B 60 k v4 (less l i))] w2) := HI.few_set HM.out 0 rfl h2 o2 f2
              have HF : Hid ((∀ y ∈ less l i, Le (ent A C i) y) ∧ (less l i).length + 1 = l.length) := ⟨fun y hy => hfi y (mem_less.1 hy).1, hle2⟩
              clear HT h2 f2 o2 hin hfi hle2
              go_wp2
              go_roundw
              case rel => exact ⟨j + 1, less l i, v4, hjk, by go_num, by have := HF.out.2; have := HS.out.2; omega, less_sub HS.out.1, .inr ⟨i, hi, rfl, HF.out.1⟩, M2.out⟩
              case measure => simp [intOf]; omega
            · have HLE : Hid (∀ y ∈ l, Le (ent A C z) y) := hle
              clear hle
              go_wp2_with fail
              refine HT.mono ?_
              rintro e w2 ⟨i, v4, hi, rfl, h2, f2, o2, hin, hfi, hle2⟩
              have M2 : Hid (Few w [(foot B v4, fun u => HI.Heaps u B 60 k v4 (less l i))] w2) := HI.few_set HM.out 0 rfl h2 o2 f2
              have HF : Hid ((∀ y ∈ less l i, Le (ent A C i) y) ∧ (less l i).length + 1 = l.length) := ⟨fun y hy => hfi y (mem_less.1 hy).1, hle2⟩
              have cmp := ent_le (HLE.out _ hin)
              clear HT h2 f2 o2 hin hfi hle2 HLE
              have hzl : z < len0 := by omega
              have hzl' : (z : Int) < (len0 : Int) := by omega
              have hil : i < len0 := by omega
              have hil' : (i : Int) < (len0 : Int) := by omega
              obtain ⟨x, rfl, hbz, hcz⟩ := HC.out z (by omega)
              obtain ⟨x', e', hbi, hci⟩ := HC.out i (by omega)
              obtain rfl : x = x' := by simpa using e'
              have hcz2 := (M2.out.bel.cell (p := x.add z) hbz).trans hcz
              have hci2 := (M2.out.bel.cell (p := x.add i) hbi).trans hci
              obtain ⟨dz, hdz⟩ : ∃ d, z0.getD z 0 = d := ⟨_, rfl⟩
              obtain ⟨di, hdi⟩ : ∃ d, z0.getD i 0 = d := ⟨_, rfl⟩
              have z7 := HA.out.1 z
              have z1 := HA.out.2 z
              have i7 := HA.out.1 i
              have i1 := HA.out.2 i
              rw [hdz] at hcz2 z7 z1
              rw [hdi] at hci2 i7 i1
              have HREL : Hid ((∃ (j2 : Nat) (l2 : List (Ent Int)) (v2 : Value), j2 ≤ k ∧ Value.int .i64 ((j : Int) + 1) = .int .i64 j2 ∧ l2.length + j2 = k ∧ (∀ y ∈ l2, y ∈ ents A C k) ∧ (Value.int .i64 (i : Int) = .int .i64 (-1) ∨ ∃ z : Nat, z < k ∧ Value.int .i64 (i : Int) = .int .i64 z ∧ ∀ y ∈ l2, Le (ent A C z) y) ∧ ∀ w', Below w2.heap.size w2 w' → Few w [(foot B v2, fun u => HI.Heaps u B 60 k v2 l2)] w')) := ⟨j + 1, less l i, v4, hjk, by go_num, by have := HF.out.2; have := HS.out.2; omega, less_sub HS.out.1, .inr ⟨i, hi, rfl, HF.out.1⟩, fun w' g => M2.out.below g⟩
              obtain ⟨Az, hAz⟩ : ∃ a, A z = a := ⟨_, rfl⟩
              obtain ⟨Ai, hAi⟩ : ∃ a, A i = a := ⟨_, rfl⟩
              obtain ⟨Cz, hCz⟩ : ∃ a, C z = a := ⟨_, rfl⟩
              obtain ⟨Ci, hCi⟩ : ∃ a, C i = a := ⟨_, rfl⟩
              rw [hAz] at z7 cmp
              rw [hAi] at i7 cmp
              rw [hCz] at z1 cmp
              rw [hCi] at i1 cmp
              clear hAz hAi hCz hCi hdz hdi hcz hci hbz hbi e' HF HS HM
              rcases cmp with h1 | ⟨rfl, h1 | ⟨rfl, h1⟩⟩
              all_goals
                go_wp2_with fail
                go_region_held3 (fun w' => w'.cell? (x.add z) = some (.int .i64 dz) ∧ w'.cell? (x.add i) = some (.int .i64 di)) (go_keep) (fail)
                go_wp2_with fail
                go_region_held3 (fun w' => w'.cell? (x.add z) = some (.int .i64 dz) ∧ w'.cell? (x.add i) = some (.int .i64 di)) (go_keep) (fail)
                go_wp2
                go_roundw
                case rel =>
                  obtain ⟨q1, q2, q3, q4, q5, q6, q7, q8, q9⟩ := HREL.out
                  exact ⟨q1, q2, q3, q4, q5, q6, q7, q8, q9 _ (by first | exact Below.refl _ _ | exact (Below.refl _ _).drew | exact (Below.refl _ _).drew.drew | exact below_drewN _ _)⟩
                case measure => simp [intOf]; omega
          · have e0 : l = [] := List.eq_nil_of_length_eq_zero (by have := HS.out.2; omega)
            subst e0
            go_wp2_with fail
            refine (HI.take_none wr (HM.out.holds 0)).mono ?_
            rintro e w2 ⟨rfl, g2⟩
            have M2 : Hid (Few w [(foot B v3, fun u => HI.Heaps u B 60 k v3 [])] w2) := HM.out.below g2
            clear HM g2
            go_wp2_with fail
            refine (HI.heap_len w2 (M2.out.holds 0)).mono ?_
            rintro e w' ⟨rfl, hw⟩
            subst w'
            go_wp2
            go_ret
            exact ⟨rfl, M2.out.bel⟩

set_option maxRecDepth 100000 in
theorem lifted (os : Os) (started : os.Started) (H : Type) (enc : TypeId × Value → H) :
    ReturnsInHanded {} Try.checked os 4 .any (Rows.heapSortSpec.pre6 enc Try.prog Try.f4 Rows.heapSortRow.domain false) (Rows.heapSortSpec.post enc Try.prog Try.f4 false true false false) := by
  refine returnsInHanded_of_change (C := Try.checked) own started (by kernel_rfl) Try.func4
    (ChangeSpec.witness6 (enc := enc) (C := Try.checked) false ⟨#[], #[.slice none 0 0], []⟩ 8 (by kernel_rfl) (by kernel_rfl) (by kernel_rfl) (by kernel_rfl)) ?_
  intro W base args ds gs before hval0 hW hcnd _
  have hval : ∀ (j : Nat) t v, Try.f4.params[j]? = some t → args[j]? = some v → Value.okWide Try.prog W .any base t v := hval0
  have hW' := hW
  obtain ⟨p, q, hA0, hV, rfl, hfz, hnd⟩ := hW
  have hA : DataW.TrodAll enc Try.prog W 0 (fun _ => true) true Try.f4.params.toList args.toList ds p := hA0
  rw [Try.params4] at hA hval
  obtain ⟨v0, vs0, d0, ds0, p0, q0, hargs, rfl, rfl, h0, r0⟩ := trodAll_cons hA
  obtain ⟨rfl, rfl, rfl⟩ := trodAll_nil r0
  obtain rfl : args = #[v0] := by cases args; simp_all
  obtain ⟨rfl, rfl⟩ := trodVars_none hV
  obtain ⟨a0, len0, cap0, rfl⟩ := okWide_slice Try.underlying41 (hval 0 41 v0 rfl rfl)
  have k0 := h0
  have lt0 : ∀ x ∈ p0, x.block < W.heap.size := by obtain ⟨m, hm⟩ := k0; exact DataW.trod_lt m _ _ _ hm
  obtain ⟨z0, w0⟩ : ∃ zs, IsRow .i64 W a0 len0 cap0 zs := by
    obtain ⟨fuel, hf⟩ := h0
    rcases open_ints Try.underlying41 Try.underlying2 (by kernel_rfl) hf with ⟨hcs, _⟩ | ⟨x, l, c, zs, hcs, _, hl, hm, hz, _, hcell, hwz⟩
    · simp [Value.cells] at hcs
      obtain ⟨rfl, rfl, rfl⟩ := hcs
      exact ⟨[], .inl ⟨rfl, rfl, rfl, rfl⟩⟩
    · simp [Value.cells] at hcs
      obtain ⟨rfl, rfl, rfl⟩ := hcs
      exact ⟨zs, .inr ⟨_, rfl, hl, hm, by simpa using hz, hcell, hwz⟩⟩
  clear hA0 hval0
  refine (walk a0 len0 cap0 z0 W w0).mono fun e W' ⟨he, bel⟩ => ?_
  subst he
  exact ⟨_, rfl, _, _, _, [], _, [], hW', trodAll_mk1 (shut_bool Try.underlying4 _), (trodAll_cons_mk (Below.trod laidOut (by kernel_rfl) (of_decide_eq_true (by kernel_rfl)) k0 bel lt0) trodAll_mk0), rfl, bel.frame _, fun h => by cases h⟩

theorem over : Rows.heapSortRow.holds Try.pinned (OpenSpec.ofChange Rows.heapSortSpec) :=
  OpenClaim.holds_of_wide 4 Try.f4 rfl rfl rfl rfl rfl rfl rfl ⟨rfl, rfl, rfl, rfl, rfl⟩ rfl rfl rfl rfl rfl (by kernel_rfl) Try.func4 (by kernel_rfl)
    (of_decide_eq_true (by kernel_rfl)) (by unfold Func.isWrapper; first | (rw [if_pos (by decide +kernel)]; kernel_rfl) | (rw [if_neg (by decide +kernel)]; exact ⟨rfl, rfl⟩))
    (fun os started H enc _ => lifted os started H enc)

theorem proved : Rows.HeapSortSaid := over
end Go.Proofs.Ytnnbpojkjlakcaa.heapSort
