/-
PROVED: the statement hortatorlaw2.SeatTurn answers true over the landed packages: the least free seat is always the next.
  CONDITIONS: none beside the row's own.
-/
import Derived.Test.YtkbmpoiokdoclaaRows
import Derived.WalkKit
import Derived.ProofKit
import Derived.OpenShut
import Derived.ShutString
import Derived.ChangeOld
import Derived.Below
import Derived.Test.YtkbmpoiokdoclaaBegun
import Derived.Test.YtkbmpoiokdoclaaSeatAmongI
namespace Go.Proofs.Ytkbmpoiokdoclaa.seatTurn
open Go.ChangeShapes Go.WideShapes Go.ChangeAt Go.RowKit
open Go.ChangeMaps (open_string shut_string)
set_option linter.unusedVariables false

theorem own : ownKnob Try.prog.godebug = none := by kernel_rfl
theorem laidOut : laidOutB Try.prog = true := by kernel_rfl

def IsRow (k : IntKind) (w : World) (a : Option Addr) (len cap : Nat) (zs : List Int) : Prop :=
  (a = none ∧ len = 0 ∧ cap = 0 ∧ zs = []) ∨
  ∃ x, a = some x ∧ len ≤ cap ∧ cap ≤ maxLen ∧ zs.length = cap ∧ (∀ i, i < zs.length → w.cell? (x.add i) = some (.int k (zs.getD i 0))) ∧ ∀ n ∈ zs, (Lit.int k n).wf = true

set_option maxHeartbeats 8000000 in
set_option maxRecDepth 100000 in
theorem walk (a0 : Option Addr) (len0 cap0 : Nat) (z0 : List Int) (a1 : Int) (w : World) (w0 : IsRow .i64 w a0 len0 cap0 z0) (w1 : (Lit.int .i64 a1).wf = true) :
    Calls Try.prog 11 #[.slice a0 len0 cap0, .int .i64 a1] w fun e w' => e = .returned (.bool true) ∧ Below w.heap.size w w' := by
  obtain ⟨b1, b2⟩ := bounds_i64 w1
  have hcells : ∀ i, i < len0 → ∃ x : Addr, a0 = some x ∧ (x.add i).block < w.heap.size ∧ w.cell? (x.add i) = some (.int .i64 (z0.getD i 0)) ∧ len0 ≤ cap0 ∧ cap0 ≤ maxLen ∧ -9223372036854775808 ≤ z0.getD i 0 ∧ z0.getD i 0 ≤ 9223372036854775807 := by
    intro i hi
    rcases w0 with ⟨_, rfl, _, _⟩ | ⟨x, rfl, hl, hm, hz, hc, hw⟩
    · omega
    · have c := hc i (by omega)
      refine ⟨x, rfl, ?_, c, hl, hm, ?_⟩
      · exact World.block_lt_of_cell? w _ c
      · have hm := hw (z0.getD i 0) (by rw [List.getD, List.getElem?_eq_getElem (by omega)]; exact List.getElem_mem _)
        exact bounds_i64 hm
  have hlen : len0 ≤ 9223372036854775807 := by
    rcases w0 with ⟨_, rfl, _, _⟩ | ⟨x, rfl, hl, hm, _⟩
    · omega
    · unfold maxLen at hm; omega
  have HC : Hid (∀ i, i < len0 → ∃ x : Addr, a0 = some x ∧ (x.add i).block < w.heap.size ∧ w.cell? (x.add i) = some (.int .i64 (z0.getD i 0)) ∧ len0 ≤ cap0 ∧ cap0 ≤ maxLen ∧ -9223372036854775808 ≤ z0.getD i 0 ∧ z0.getD i 0 ≤ 9223372036854775807) := hcells
  clear hcells w0
  go_enter Try.func11, Try.ntmps11
  go_wp2_with fail
  refine (begun2_any _).mono ?_
  rintro e W ⟨rfl, g0⟩
  have M0 : Hid (Few w [] W) := (Few.start w).below g0
  clear g0
  go_upto_region 4 with fail
  go_cut [1] (fun s1 wc => ∃ n : Nat, 0 < n ∧ n ≤ 30 ∧ s1 = .int .i64 n ∧ wc = W)
  case first =>
    have t1 : -30 < a1.tmod 30 ∧ a1.tmod 30 < 30 := ⟨by have := Int.tmod_lt_of_pos (-a1) (show (0 : Int) < 30 by omega); rw [Int.neg_tmod] at this; omega, Int.tmod_lt_of_pos _ (by omega)⟩
    obtain ⟨x1, hx1⟩ : ∃ x, a1.tmod 30 = x := ⟨_, rfl⟩
    rw [hx1] at t1
    have e1 : (x1 + 30).tmod 30 = (x1 + 30) % 30 := Int.tmod_eq_emod_of_nonneg (by omega)
    go_wp2
    go_meet
    exact ⟨(1 + (x1 + 30) % 30).toNat, by omega, by omega, congrArg (Value.int .i64) (by omega), rfl⟩
  case rest =>
    obtain ⟨n, hn0, hn1, rfl, rfl⟩ := hcut
    have HR : Hid (SI.roomV n = (n : Int)) := by show _ = _; unfold SI.roomV; omega
    clear b1 b2 w1
    go_wp2_with fail
    refine (SI.new_any n wc (by omega) (by omega)).mono ?_
    rintro e w1 ⟨rfl, h1, g1⟩
    rw [HR.out] at h1
    have M1 : Hid (Few w [(foot wc.heap.size (.slice none 0 0), fun u => SI.Seats u wc.heap.size n (.slice none 0 0) [])] w1) := M0.out.add g1 h1 h1.foot_lt h1.foot_ge SI.keeps
    clear M0 g1 h1
    obtain ⟨B, hB⟩ : ∃ B, B = wc.heap.size := ⟨_, rfl⟩
    rw [← hB]
    rw [← hB] at M1
    clear hB
    go_wp2
    go_loopw [7] (fun s7 wr => ∃ (k : Nat) (v : Value) (ps : List (Int × Bool)), k ≤ n ∧ s7 = .int .i64 (k + 1 : Nat) ∧ ps.length = k ∧ SI.Full ps ∧ Few w [(foot B v, fun u => SI.Seats u B n v ps)] wr) (fun s _ => n + 1 - (intOf s).toNat)
    case atStart => exact ⟨0, _, [], by omega, rfl, rfl, fun p hp => by simp at hp, M1.out⟩
    case round =>
      clear M1
      obtain ⟨k, v, ps, hk, rfl, hps, hfull, M⟩ := hrel
      have HP : Hid (ps.length = k ∧ SI.Full ps) := ⟨hps, hfull⟩
      have HM : Hid (Few w [(foot B v, fun u => SI.Seats u B n v ps)] wr) := M
      clear hps hfull M
      by_cases hkn : k < n
      · have add := SI.add_new ((k : Int) + 1) wr (HM.out.holds 0) HP.out.2.free (by rw [HP.out.1]; omega)
        rw [HP.out.1] at add
        have HA : Hid (Calls Try.prog 32 #[.pointer (some ⟨B, 0, none⟩), mkI ((k : Int) + 1)] wr fun e w' => ∃ v', e = .returned (.int .i64 (k + 1)) ∧ SI.Seats w' B n v' (ps ++ [((k : Int) + 1, true)]) ∧ Only (foot B v) wr w' ∧ ∀ k ∈ foot B v', k ∈ foot B v ∨ wr.heap.size ≤ k) := add
        clear add
        go_wp2_with fail
        refine HA.out.mono ?_
        rintro e w2 ⟨v2, rfl, h2, o2, f2⟩
        go_wp2
        go_round
        case rel => exact ⟨k + 1, v2, _, hkn, by go_num, by simp [HP.out.1], HP.out.2.snoc _, SI.few_put HM.out 0 rfl h2 o2 f2⟩
        case measure => simp [intOf]; omega
      · obtain rfl : k = n := by omega
        go_wp2_with fail
        refine (SI.add_full 0 wr (HM.out.holds 0) HP.out.2.free (by rw [HP.out.1])).mono ?_
        rintro e w' ⟨rfl, hw⟩
        subst w'
        go_wp2
        go_loopw [8] (fun s8 wr => ∃ (i : Nat) (ps : List (Int × Bool)), i ≤ len0 ∧ i ≤ 20 ∧ s8 = .int .i64 i ∧ ps.length = k ∧ SI.Full ps ∧ Few w [(foot B v, fun u => SI.Seats u B k v ps)] wr) (fun s _ => 20 - (intOf s).toNat)
        case atStart => exact ⟨0, ps, by omega, by omega, rfl, HP.out.1, HP.out.2, HM.out⟩
        case round =>
          clear HP HM
          obtain ⟨i, qs, hi, hi20, rfl, hqs, hfull, M⟩ := hrel
          have HP : Hid (qs.length = k ∧ SI.Full qs) := ⟨hqs, hfull⟩
          have HM : Hid (Few w [(foot B v, fun u => SI.Seats u B k v qs)] wr) := M
          clear hqs hfull M
          by_cases hil : i < len0
          · by_cases hi2 : i < 20
            · obtain ⟨x, rfl, hblk, hc, hlc, hcm, hd1, hd2⟩ := HC.out i hil
              have hcr := (HM.out.bel.cell (p := x.add i) hblk).trans hc
              obtain ⟨d, hd⟩ : ∃ d, z0.getD i 0 = d := ⟨_, rfl⟩
              rw [hd] at hcr hd1 hd2
              have t1 : -(k : Int) < d.tmod k ∧ d.tmod k < k := ⟨by have := Int.tmod_lt_of_pos (-d) (show (0 : Int) < k by omega); rw [Int.neg_tmod] at this; omega, Int.tmod_lt_of_pos _ (by omega)⟩
              obtain ⟨y, hy⟩ : ∃ y, d.tmod k = y := ⟨_, rfl⟩
              rw [hy] at t1
              obtain ⟨r, hr⟩ : ∃ r : Nat, (y + k).tmod k = (r : Int) := ⟨((y + k) % k).toNat, by rw [Int.tmod_eq_emod_of_nonneg (by omega)]; have := Int.emod_nonneg (y + k) (show (k : Int) ≠ 0 by omega); omega⟩
              have hrk : r < k := by have := Int.tmod_lt_of_pos (y + k) (show (0 : Int) < k by omega); omega
              have hk0 : ¬ (k : Int) = 0 := by omega
              have hk0' : ¬ k = 0 := by omega
              clear hd hc hblk
              obtain ⟨z, hz⟩ := HP.out.2.at (show r < qs.length by rw [HP.out.1]; exact hrk)
              have HZ : Hid (qs[r]? = some (z, true)) := hz
              clear hz
              go_wp2_with fail
              refine (SI.drop_yes r (1 + (r : Int)) wr (HM.out.holds 0) HZ.out (by omega)).mono ?_
              rintro e w2 ⟨rfl, h2, o2⟩
              have M2 : Hid (Few w [(foot B v, fun u => SI.Seats u B k v (qs.set r (0, false)))] w2) := SI.few_set HM.out 0 rfl h2 o2
              clear HM h2 o2 hcr
              have HG : Hid ((qs.set r ((0 : Int), false))[r]? = some (0, false) ∧ SI.IsFree (qs.set r ((0 : Int), false)) r ∧ (qs.set r ((0 : Int), false)).length = k) := ⟨List.getElem?_set_self (by rw [HP.out.1]; exact hrk), HP.out.2.gap (by rw [HP.out.1]; exact hrk) 0, by simp [HP.out.1]⟩
              go_wp2_with fail
              refine (SI.drop_no (1 + (r : Int)) w2 (SI.has_gap r _ w2 (M2.out.holds 0) HG.out.1 (by omega)) (M2.out.holds 0)).mono ?_
              rintro e w' ⟨rfl, hw⟩
              subst w'
              go_wp2_with fail
              refine (SI.add_there r (100 + (i : Int)) w2 (M2.out.holds 0) HG.out.2.1 (by rw [HG.out.2.2]; exact hrk)).mono ?_
              rintro e w3 ⟨he, h3, o3⟩
              rw [show (r : Int) + 1 = 1 + (r : Int) by omega] at he
              subst he
              rw [List.set_set] at h3
              have M3 : Hid (Few w [(foot B v, fun u => SI.Seats u B k v (qs.set r (100 + (i : Int), true)))] w3) := SI.few_set M2.out 0 rfl h3 o3
              clear M2 h3 o3 HG
              have HF : Hid (SI.Full (qs.set r (100 + (i : Int), true)) ∧ (qs.set r (100 + (i : Int), true)).length = k ∧ (qs.set r (100 + (i : Int), true))[r]? = some (100 + (i : Int), true)) := ⟨HP.out.2.set r _, by simp [HP.out.1], List.getElem?_set_self (by rw [HP.out.1]; exact hrk)⟩
              go_wp2_with fail
              refine (SI.add_full 1 w3 (M3.out.holds 0) HF.out.1.free (by rw [HF.out.2.1])).mono ?_
              rintro e w' ⟨rfl, hw⟩
              subst w'
              have mk : mkI (100 + (i : Int)) = .int .i64 (100 + (i : Int)) := rfl
              go_wp2_with fail
              refine (SI.get_yes r (1 + (r : Int)) w3 (M3.out.holds 0) HF.out.2.2 (by omega)).mono ?_
              rintro e w' ⟨rfl, hw⟩
              subst w'
              go_wp2
              go_round
              case rel => exact ⟨i + 1, _, by omega, by omega, by go_num, HF.out.2.1, HF.out.1, M3.out⟩
              case measure => simp [intOf]; omega
            · obtain rfl : i = 20 := by omega
              have ids := SI.ids_any wr (HM.out.holds 0)
              rw [HP.out.1, HP.out.2.ids k (by rw [HP.out.1]; exact Nat.le_refl _)] at ids
              go_wp2_with fail
              refine ids.mono ?_
              rintro e w2 ⟨u, rfl, own2, g2⟩
              obtain ⟨na, ncap, rfl⟩ : ∃ a cap, u = .slice a k cap := by
                rcases own2.2 with ⟨rfl, e⟩ | ⟨g, cap, cur, rfl, _⟩
                · exact ⟨none, 0, by rw [e]⟩
                · exact ⟨_, _, rfl⟩
              clear own2 ids
              go_wp2
              go_ret
              exact ⟨rfl, (HM.out.below g2).bel⟩
          · have ids := SI.ids_any wr (HM.out.holds 0)
            rw [HP.out.1, HP.out.2.ids k (by rw [HP.out.1]; exact Nat.le_refl _)] at ids
            go_wp2_with fail
            refine ids.mono ?_
            rintro e w2 ⟨u, rfl, own2, g2⟩
            obtain ⟨na, ncap, rfl⟩ : ∃ a cap, u = .slice a k cap := by
              rcases own2.2 with ⟨rfl, e⟩ | ⟨g, cap, cur, rfl, _⟩
              · exact ⟨none, 0, by rw [e]⟩
              · exact ⟨_, _, rfl⟩
            clear own2 ids
            go_wp2
            go_ret
            exact ⟨rfl, (HM.out.below g2).bel⟩

set_option maxRecDepth 100000 in
theorem lifted (os : Os) (started : os.Started) (H : Type) (enc : TypeId × Value → H) :
    ReturnsInHanded {} Try.checked os 11 .any (Rows.seatTurnSpec.pre6 enc Try.prog Try.f11 Rows.seatTurnRow.domain false) (Rows.seatTurnSpec.post enc Try.prog Try.f11 false true false false) := by
  refine returnsInHanded_of_change (C := Try.checked) own started (by kernel_rfl) Try.func11
    (ChangeSpec.witness6 (enc := enc) (C := Try.checked) false ⟨#[], #[.slice none 0 0, .int .i64 0], []⟩ 8 (by kernel_rfl) (by kernel_rfl) (by kernel_rfl) (by kernel_rfl)) ?_
  intro W base args ds gs before hval0 hW hcnd _
  have hval : ∀ (j : Nat) t v, Try.f11.params[j]? = some t → args[j]? = some v → Value.okWide Try.prog W .any base t v := hval0
  have hW' := hW
  obtain ⟨p, q, hA0, hV, rfl, hfz, hnd⟩ := hW
  have hA : DataW.TrodAll enc Try.prog W 0 (fun _ => true) true Try.f11.params.toList args.toList ds p := hA0
  rw [Try.params11] at hA hval
  obtain ⟨v0, vs0, d0, ds0, p0, q0, hargs, rfl, rfl, h0, r0⟩ := trodAll_cons hA
  obtain ⟨v1, vs1, d1, ds1, p1, q1, rfl, rfl, rfl, h1, r1⟩ := trodAll_cons r0
  obtain ⟨rfl, rfl, rfl⟩ := trodAll_nil r1
  obtain rfl : args = #[v0, v1] := by cases args; simp_all
  obtain ⟨rfl, rfl⟩ := trodVars_none hV
  obtain ⟨a0, len0, cap0, rfl⟩ := okWide_slice Try.underlying42 (hval 0 42 v0 rfl rfl)
  have k0 := h0
  have lt0 : ∀ x ∈ p0, x.block < W.heap.size := by obtain ⟨m, hm⟩ := k0; exact DataW.trod_lt m _ _ _ hm
  obtain ⟨z0, w0⟩ : ∃ zs, IsRow .i64 W a0 len0 cap0 zs := by
    obtain ⟨fuel, hf⟩ := h0
    rcases open_ints Try.underlying42 Try.underlying3 (by kernel_rfl) hf with ⟨hcs, _⟩ | ⟨x, l, c, zs, hcs, _, hl, hm, hz, _, hcell, hwz⟩
    · simp [Value.cells] at hcs
      obtain ⟨rfl, rfl, rfl⟩ := hcs
      exact ⟨[], .inl ⟨rfl, rfl, rfl, rfl⟩⟩
    · simp [Value.cells] at hcs
      obtain ⟨rfl, rfl, rfl⟩ := hcs
      exact ⟨zs, .inr ⟨_, rfl, hl, hm, by simpa using hz, hcell, hwz⟩⟩
  obtain ⟨a1, rfl, rfl, rfl, w1⟩ := open_int Try.underlying3 (hval 1 3 v1 rfl rfl) h1
  clear hA0 hval0
  refine (walk a0 len0 cap0 z0 a1 W w0 w1).mono fun e W' ⟨he, bel⟩ => ?_
  subst he
  exact ⟨_, rfl, _, _, _, [], _, [], hW', trodAll_mk1 (shut_bool Try.underlying4 _), (trodAll_cons_mk (Below.trod laidOut (by kernel_rfl) (of_decide_eq_true (by kernel_rfl)) k0 bel lt0) (trodAll_cons_mk (shut_int Try.underlying3 w1) trodAll_mk0)), rfl, bel.frame _, fun h => by cases h⟩

theorem over : Rows.seatTurnRow.holds Try.pinned (OpenSpec.ofChange Rows.seatTurnSpec) :=
  OpenClaim.holds_of_wide 11 Try.f11 rfl rfl rfl rfl rfl rfl rfl ⟨rfl, rfl, rfl, rfl, rfl⟩ rfl rfl rfl rfl rfl (by kernel_rfl) Try.func11 (by kernel_rfl)
    (of_decide_eq_true (by kernel_rfl)) (by unfold Func.isWrapper; first | (rw [if_pos (by decide +kernel)]; kernel_rfl) | (rw [if_neg (by decide +kernel)]; exact ⟨rfl, rfl⟩))
    (fun os started H enc _ => lifted os started H enc)

theorem proved : Rows.SeatTurnSaid := over
end Go.Proofs.Ytkbmpoiokdoclaa.seatTurn
