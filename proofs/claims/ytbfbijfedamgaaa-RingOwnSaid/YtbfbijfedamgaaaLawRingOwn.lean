/-
PROVED: the statement hortatorlaw2.RingOwn answers true over the landed packages: what stands in a queue is what was put, whatever kind it is.
  CONDITIONS: none beside the row's own.
-/
import Derived.Test.YtbfbijfedamgaaaRows
import Derived.WalkKit
import Derived.ProofKit
import Derived.OpenShut
import Derived.ShutString
import Derived.ChangeOld
import Derived.Below
import Derived.Test.YtbfbijfedamgaaaArgs
import Derived.Test.YtbfbijfedamgaaaBegun
import Derived.Test.YtbfbijfedamgaaaRingTexts
namespace Go.Proofs.Ytbfbijfedamgaaa.ringOwn
open Go.ChangeShapes Go.WideShapes Go.ChangeAt Go.RowKit
open Go.ChangeMaps (open_string shut_string)
set_option linter.unusedVariables false

theorem own : ownKnob Try.prog.godebug = none := by kernel_rfl
theorem laidOut : laidOutB Try.prog = true := by kernel_rfl

set_option maxHeartbeats 8000000 in
set_option maxRecDepth 100000 in
theorem walk (a0 : Option Addr) (len0 cap0 : Nat) (z0 : List ByteArray) (a1 : Int) (w : World) (w0 : IsStrs w a0 len0 z0) (w1 : (Lit.int .i64 a1).wf = true) :
    Calls Try.prog 6 #[.slice a0 len0 cap0, .int .i64 a1] w fun e w' => e = .returned (.bool true) ∧ Below w.heap.size w w' := by
  obtain ⟨b1, b2⟩ := bounds_i64 w1
  obtain ⟨hzl, hlen, hstr⟩ := w0
  have HO : Hid (∀ i s, z0[i]? = some s → ∃ x, a0 = some x ∧ x.block < w.heap.size ∧ w.cell? (x.add i) = some (.string s)) := hstr
  have HZ : Hid (z0.length = len0) := hzl
  clear hstr hzl
  go_enter Try.func6, Try.ntmps6
  go_wp2_with fail
  refine (begun2_any _).mono ?_
  rintro e W ⟨rfl, g0⟩
  have M0 : Hid (Few w [] W) := (Few.start w).below g0
  clear g0
  go_upto_region 4 with fail
  go_cut [1] (fun s1 wc => ∃ m : Nat, m < 40 ∧ s1 = .int .i64 m ∧ wc = W)
  case first =>
    have t0 : -40 < a1.tmod 40 ∧ a1.tmod 40 < 40 := ⟨by have := Int.tmod_lt_of_pos (-a1) (show (0 : Int) < 40 by omega); rw [Int.neg_tmod] at this; omega, Int.tmod_lt_of_pos _ (by omega)⟩
    obtain ⟨x0, hx0⟩ : ∃ x, a1.tmod 40 = x := ⟨_, rfl⟩
    rw [hx0] at t0
    have e0 : (x0 + 40).tmod 40 = (x0 + 40) % 40 := Int.tmod_eq_emod_of_nonneg (by omega)
    go_wp2
    go_meet
    exact ⟨((x0 + 40) % 40).toNat, by omega, congrArg (Value.int .i64) (by omega), rfl⟩
  case rest =>
    obtain ⟨m, hm, rfl, rfl⟩ := hcut
    have HR : Hid (RR.roomV m = (m : Int)) := by show _ = _; unfold RR.roomV; omega
    go_wp2_with fail
    refine (RR.new_any m wc (by omega) (by omega)).mono ?_
    rintro e w1 ⟨rfl, h1, g1⟩
    rw [HR.out] at h1
    have M1 : Hid (Few w [(foot wc.heap.size (.slice none 0 0), fun u => RR.Rings u wc.heap.size m (.slice none 0 0) []), ([], Texts [])] w1) := (M0.out.add g1 h1 h1.foot_lt h1.foot_ge RR.keeps).add (Below.refl _ _) (Texts.nil _) (by simp) (by simp) Texts.keeps
    clear M0 g1 h1
    obtain ⟨B, hB⟩ : ∃ B, B = wc.heap.size := ⟨_, rfl⟩
    rw [← hB]
    rw [← hB] at M1
    clear hB
    go_wp2
    go_loopg [7, 8] 50 (fun gk s7 s8 wr => ∃ (k : Nat) (ps : List (Nat × ByteArray)) (v : Value), k ≤ len0 ∧ gk + k = 50 ∧ s8 = .int .i64 k ∧ s7 = .int .i64 ps.length ∧ ps.length = min k m ∧ Firsts z0 ps ∧ Few w [(foot B v, fun u => RR.Rings u B m v (ps.map (·.1))), (ps.map (·.1), Texts ps)] wr)
    case atStart => exact ⟨0, [], _, by omega, by omega, rfl, rfl, by simp, fun j p h => by simp at h, M1.out⟩
    case round =>
      clear M1
      skip
      obtain ⟨k, ps, v, hk, hgk, rfl, rfl, hpl, hfi, M2⟩ := hrel
      have HM : Hid (Few w [(foot B v, fun u => RR.Rings u B m v (ps.map (·.1))), (ps.map (·.1), Texts ps)] wr) := M2
      have HF : Hid (Firsts z0 ps) := hfi
      clear M2 hfi
      by_cases hkl : k < len0
      · have hkl' : (k : Int) < (len0 : Int) := by omega
        by_cases hk50 : k < 50
        · have hk50' : (k : Int) < 50 := by omega
          obtain ⟨s, hs⟩ : ∃ s, z0[k]? = some s := ⟨_, List.getElem?_eq_getElem (by rw [HZ.out]; exact hkl)⟩
          obtain ⟨x, rfl, hxb, hcs⟩ := HO.out k s hs
          have cx : wr.cell? (x.add k) = some (.string s) := (HM.out.bel.cell (by rw [add_block]; exact hxb)).trans hcs
          have HS : Hid (z0[k]? = some s) := hs
          clear hs hcs
          have MA : Hid (Few w [(foot B v, fun u => RR.Rings u B m v (ps.map (·.1))), ((ps ++ [(wr.heap.size, s)]).map (·.1), Texts (ps ++ [(wr.heap.size, s)]))] (wr.alloc (.cells #[.string s] 9))) := few_text HM.out 1 rfl s
          by_cases hroom : k < m
          · have hpk : ps.length = k := by omega
            have HPK : Hid (ps.length = k) := hpk
            have ct := RR.put_ok wr.heap.size (wr.alloc (.cells #[.string s] 9)) (MA.out.holds 0) (by simp; omega)
            have CT : Hid (Calls Try.prog 36 #[.pointer (some ⟨B, 0, none⟩), .slice (some ⟨wr.heap.size, 0, none⟩) 1 1] (wr.alloc (.cells #[.string s] 9)) fun e w' => ∃ v', e = .returned (.bool true) ∧ RR.Rings w' B m v' (ps.map (·.1) ++ [wr.heap.size]) ∧ Only (foot B v) (wr.alloc (.cells #[.string s] 9)) w' ∧ ∀ k ∈ foot B v', k ∈ foot B v ∨ (wr.alloc (.cells #[.string s] 9)).heap.size ≤ k) := ct
            have hlt : (ps.length : Int) < (m : Int) := by omega
            have hle : ¬ (m : Int) < (ps.length : Int) + 1 := by omega
            clear ct hpl hpk
            go_wp2_with fail
            refine CT.out.mono ?_
            rintro e w2 ⟨v2, rfl, h2, o2, f2⟩
            have M2 : Hid (Few w [(foot B v2, fun u => RR.Rings u B m v2 (ps.map (·.1) ++ [wr.heap.size])), ((ps ++ [(wr.heap.size, s)]).map (·.1), Texts (ps ++ [(wr.heap.size, s)]))] w2) := RR.few_put MA.out 0 rfl h2 o2 f2
            clear MA HM CT h2 o2 f2 cx
            go_wp2
            go_roundg (gk - 1)
            case measure => omega
            case rel =>
              refine ⟨k + 1, ps ++ [(wr.heap.size, s)], v2, by omega, by omega, by go_num, by rw [List.length_append]; go_num, by have := HPK.out; simp; omega, HF.out.snoc (by rw [HPK.out]; exact HS.out), ?_⟩
              have := M2.out
              rw [List.map_append] at this ⊢
              exact this
          · have hpk : ps.length = m := by omega
            have ct := RR.put_full wr.heap.size (wr.alloc (.cells #[.string s] 9)) (MA.out.holds 0) (by simp; omega)
            have CT : Hid (Calls Try.prog 36 #[.pointer (some ⟨B, 0, none⟩), .slice (some ⟨wr.heap.size, 0, none⟩) 1 1] (wr.alloc (.cells #[.string s] 9)) fun e w' => e = .returned (.bool false) ∧ Below (wr.alloc (.cells #[.string s] 9)).heap.size (wr.alloc (.cells #[.string s] 9)) w') := ct
            have M2 := HM.out.below ((Below.refl _ _).alloc (Nat.le_refl _) (.cells #[.string s] 9))
            have M2' : Hid (Few w [(foot B v, fun u => RR.Rings u B m v (ps.map (·.1))), (ps.map (·.1), Texts ps)] (wr.alloc (.cells #[.string s] 9))) := M2
            clear ct hpl M2
            have HPK : Hid (ps.length = m) := hpk
            have hlt : ¬ (ps.length : Int) < (m : Int) := by omega
            have hle : (m : Int) < (ps.length : Int) + 1 := by omega
            have hb1 : ps.length ≤ 40 := by omega
            have hb2 : m ≤ ps.length := by omega
            clear hpk
            go_wp2_with fail
            refine CT.out.mono ?_
            rintro e w2 ⟨rfl, g2⟩
            have M3 : Hid (Few w [(foot B v, fun u => RR.Rings u B m v (ps.map (·.1))), (ps.map (·.1), Texts ps)] w2) := M2'.out.below g2
            clear MA HM CT g2 cx M2'
            go_wp2
            go_roundg (gk - 1)
            case measure => omega
            case rel => exact ⟨k + 1, ps, v, by omega, by omega, by go_num, congrArg (Value.int .i64) (by have := HPK.out; omega), by have := HPK.out; omega, HF.out, M3.out⟩
        · have hk50' : ¬ (k : Int) < 50 := by omega
          have hb1 : ps.length ≤ 40 := by omega
          have hb3 : ps.length ≤ m := by omega
          have hb4 : ps.length ≤ len0 := by omega
          obtain ⟨n, hn⟩ : ∃ n, ps.length = n := ⟨_, rfl⟩
          have HN : Hid (ps.length = n) := hn
          rw [hn] at hb1 hb3 hb4 ⊢
          clear hn hpl
          go_wp2
          go_loopg [9] n (fun gk s9 wr => ∃ j : Nat, gk + j = n ∧ s9 = .int .i64 j ∧ Few w [(foot B v, fun u => RR.Rings u B m v (ps.map (·.1))), (ps.map (·.1), Texts ps)] wr)
          case atStart => exact ⟨0, by omega, rfl, HM.out⟩
          case round =>
            clear HM
            obtain ⟨j, hj, rfl, M3⟩ := hrel
            have HM : Hid (Few w [(foot B v, fun u => RR.Rings u B m v (ps.map (·.1))), (ps.map (·.1), Texts ps)] wr) := M3
            clear M3
            by_cases hjn : j < n
            · have hjn' : (j : Int) < (n : Int) := by omega
              obtain ⟨p, hp⟩ : ∃ p, ps[j]? = some p := ⟨_, List.getElem?_eq_getElem (by rw [HN.out]; exact hjn)⟩
              obtain ⟨pb, ss⟩ := p
              have hz := HF.out j _ hp
              obtain ⟨x, rfl, hxb, hcs⟩ := HO.out j ss hz
              have CT : Hid (Calls Try.prog 37 #[.pointer (some ⟨B, 0, none⟩), .int .i64 j] wr fun e w' => e = .returned (.tuple #[.slice (some ⟨pb, 0, none⟩) 1 1, .bool true]) ∧ Below wr.heap.size wr w') := RR.at_in j wr (HM.out.holds 0) (u := pb) (by rw [List.getElem?_map, hp]; rfl)
              have HP : Hid (ps[j]? = some (pb, ss)) := hp
              have HC : Hid (x.block < w.heap.size ∧ w.cell? (x.add j) = some (.string ss)) := ⟨hxb, hcs⟩
              clear hp hz hxb hcs
              go_wp2_with fail
              refine CT.out.mono ?_
              rintro e w2 ⟨rfl, g2⟩
              have M2 : Hid (Few w [(foot B v, fun u => RR.Rings u B m v (ps.map (·.1))), (ps.map (·.1), Texts ps)] w2) := HM.out.below g2
              have e1 : w2.cell? ⟨pb, 0, none⟩ = some (.string ss) := Texts.cell (M2.out.holds 1) HP.out
              have e2 : w2.cell? (x.add j) = some (.string ss) := (M2.out.bel.cell (by rw [add_block]; exact HC.out.1)).trans HC.out.2
              clear HM g2 CT
              have hj0 : (j : Int) < (len0 : Int) := by omega
              go_wp2
              go_big_quiet (fail)
              go_wp2
              go_roundg (n - (j + 1))
              case measure => omega
              case rel => exact ⟨j + 1, by omega, by go_num, M2.out.below (below_drewN _ _)⟩
            · obtain rfl : n = j := by omega
              have ct := RR.at_out n wr (HM.out.holds 0) (.inr (by rw [List.length_map, HN.out]; exact Int.le_refl _))
              have CT : Hid (Calls Try.prog 37 #[.pointer (some ⟨B, 0, none⟩), .int .i64 n] wr fun e w' => e = .returned (.tuple #[.slice none 0 0, .bool false]) ∧ Below wr.heap.size wr w') := ct
              clear ct
              go_wp2_with fail
              refine CT.out.mono ?_
              rintro e w2 ⟨rfl, g2⟩
              have M2 : Hid (Few w [(foot B v, fun u => RR.Rings u B m v (ps.map (·.1))), (ps.map (·.1), Texts ps)] w2) := HM.out.below g2
              clear HM g2 CT
              have CL : Hid (Calls Try.prog 38 #[.pointer (some ⟨B, 0, none⟩)] w2 fun e w' => e = .returned (.int .i64 n) ∧ w' = w2) := by have := RR.ring_len w2 (M2.out.holds 0); rw [List.length_map, HN.out] at this; exact this
              go_wp2_with fail
              refine CL.out.mono ?_
              rintro e w' ⟨rfl, hw⟩
              subst w'
              clear CL
              have CR : Hid (Calls Try.prog 39 #[.pointer (some ⟨B, 0, none⟩)] w2 fun e w' => e = .returned (.int .i64 ((m : Int) - n)) ∧ Below w2.heap.size w2 w') := by have := RR.ring_room w2 (M2.out.holds 0); rw [List.length_map, HN.out] at this; exact this
              go_wp2_with fail
              refine CR.out.mono ?_
              rintro e w3 ⟨rfl, g3⟩
              have M3 : Hid (Few w [(foot B v, fun u => RR.Rings u B m v (ps.map (·.1))), (ps.map (·.1), Texts ps)] w3) := M2.out.below g3
              clear M2 g3 CR
              go_wp2
              go_ret
              exact ⟨rfl, M3.out.bel⟩
      · have hkl' : ¬ (k : Int) < (len0 : Int) := by omega
        have hb1 : ps.length ≤ 40 := by omega
        have hb3 : ps.length ≤ m := by omega
        have hb4 : ps.length ≤ len0 := by omega
        obtain ⟨n, hn⟩ : ∃ n, ps.length = n := ⟨_, rfl⟩
        have HN : Hid (ps.length = n) := hn
        rw [hn] at hb1 hb3 hb4 ⊢
        clear hn hpl
        go_wp2
        go_loopg [9] n (fun gk s9 wr => ∃ j : Nat, gk + j = n ∧ s9 = .int .i64 j ∧ Few w [(foot B v, fun u => RR.Rings u B m v (ps.map (·.1))), (ps.map (·.1), Texts ps)] wr)
        case atStart => exact ⟨0, by omega, rfl, HM.out⟩
        case round =>
          clear HM
          obtain ⟨j, hj, rfl, M3⟩ := hrel
          have HM : Hid (Few w [(foot B v, fun u => RR.Rings u B m v (ps.map (·.1))), (ps.map (·.1), Texts ps)] wr) := M3
          clear M3
          by_cases hjn : j < n
          · have hjn' : (j : Int) < (n : Int) := by omega
            obtain ⟨p, hp⟩ : ∃ p, ps[j]? = some p := ⟨_, List.getElem?_eq_getElem (by rw [HN.out]; exact hjn)⟩
            obtain ⟨pb, ss⟩ := p
            have hz := HF.out j _ hp
            obtain ⟨x, rfl, hxb, hcs⟩ := HO.out j ss hz
            have CT : Hid (Calls Try.prog 37 #[.pointer (some ⟨B, 0, none⟩), .int .i64 j] wr fun e w' => e = .returned (.tuple #[.slice (some ⟨pb, 0, none⟩) 1 1, .bool true]) ∧ Below wr.heap.size wr w') := RR.at_in j wr (HM.out.holds 0) (u := pb) (by rw [List.getElem?_map, hp]; rfl)
            have HP : Hid (ps[j]? = some (pb, ss)) := hp
            have HC : Hid (x.block < w.heap.size ∧ w.cell? (x.add j) = some (.string ss)) := ⟨hxb, hcs⟩
            clear hp hz hxb hcs
            go_wp2_with fail
            refine CT.out.mono ?_
            rintro e w2 ⟨rfl, g2⟩
            have M2 : Hid (Few w [(foot B v, fun u => RR.Rings u B m v (ps.map (·.1))), (ps.map (·.1), Texts ps)] w2) := HM.out.below g2
            have e1 : w2.cell? ⟨pb, 0, none⟩ = some (.string ss) := Texts.cell (M2.out.holds 1) HP.out
            have e2 : w2.cell? (x.add j) = some (.string ss) := (M2.out.bel.cell (by rw [add_block]; exact HC.out.1)).trans HC.out.2
            clear HM g2 CT
            have hj0 : (j : Int) < (len0 : Int) := by omega
            go_wp2
            go_big_quiet (fail)
            go_wp2
            go_roundg (n - (j + 1))
            case measure => omega
            case rel => exact ⟨j + 1, by omega, by go_num, M2.out.below (below_drewN _ _)⟩
          · obtain rfl : n = j := by omega
            have ct := RR.at_out n wr (HM.out.holds 0) (.inr (by rw [List.length_map, HN.out]; exact Int.le_refl _))
            have CT : Hid (Calls Try.prog 37 #[.pointer (some ⟨B, 0, none⟩), .int .i64 n] wr fun e w' => e = .returned (.tuple #[.slice none 0 0, .bool false]) ∧ Below wr.heap.size wr w') := ct
            clear ct
            go_wp2_with fail
            refine CT.out.mono ?_
            rintro e w2 ⟨rfl, g2⟩
            have M2 : Hid (Few w [(foot B v, fun u => RR.Rings u B m v (ps.map (·.1))), (ps.map (·.1), Texts ps)] w2) := HM.out.below g2
            clear HM g2 CT
            have CL : Hid (Calls Try.prog 38 #[.pointer (some ⟨B, 0, none⟩)] w2 fun e w' => e = .returned (.int .i64 n) ∧ w' = w2) := by have := RR.ring_len w2 (M2.out.holds 0); rw [List.length_map, HN.out] at this; exact this
            go_wp2_with fail
            refine CL.out.mono ?_
            rintro e w' ⟨rfl, hw⟩
            subst w'
            clear CL
            have CR : Hid (Calls Try.prog 39 #[.pointer (some ⟨B, 0, none⟩)] w2 fun e w' => e = .returned (.int .i64 ((m : Int) - n)) ∧ Below w2.heap.size w2 w') := by have := RR.ring_room w2 (M2.out.holds 0); rw [List.length_map, HN.out] at this; exact this
            go_wp2_with fail
            refine CR.out.mono ?_
            rintro e w3 ⟨rfl, g3⟩
            have M3 : Hid (Few w [(foot B v, fun u => RR.Rings u B m v (ps.map (·.1))), (ps.map (·.1), Texts ps)] w3) := M2.out.below g3
            clear M2 g3 CR
            go_wp2
            go_ret
            exact ⟨rfl, M3.out.bel⟩

set_option maxRecDepth 100000 in
theorem lifted (os : Os) (started : os.Started) (H : Type) (enc : TypeId × Value → H) :
    ReturnsInHanded {} Try.checked os 6 .any (Rows.ringOwnSpec.pre6 enc Try.prog Try.f6 Rows.ringOwnRow.domain false) (Rows.ringOwnSpec.post enc Try.prog Try.f6 false true false false) := by
  refine returnsInHanded_of_change (C := Try.checked) own started (by kernel_rfl) Try.func6
    (ChangeSpec.witness6 (enc := enc) (C := Try.checked) false ⟨#[], #[.slice none 0 0, .int .i64 0], []⟩ 8 (by kernel_rfl) (by kernel_rfl) (by kernel_rfl) (by kernel_rfl)) ?_
  intro W base args ds gs before hval0 hW hcnd _
  have hval : ∀ (j : Nat) t v, Try.f6.params[j]? = some t → args[j]? = some v → Value.okWide Try.prog W .any base t v := hval0
  have hW' := hW
  obtain ⟨p, q, hA0, hV, rfl, hfz, hnd⟩ := hW
  have hA : DataW.TrodAll enc Try.prog W 0 (fun _ => true) true Try.f6.params.toList args.toList ds p := hA0
  rw [Try.params6] at hA hval
  obtain ⟨v0, vs0, d0, ds0, p0, q0, hargs, rfl, rfl, h0, r0⟩ := trodAll_cons hA
  obtain ⟨v1, vs1, d1, ds1, p1, q1, rfl, rfl, rfl, h1, r1⟩ := trodAll_cons r0
  obtain ⟨rfl, rfl, rfl⟩ := trodAll_nil r1
  obtain rfl : args = #[v0, v1] := by cases args; simp_all
  obtain ⟨rfl, rfl⟩ := trodVars_none hV
  obtain ⟨a0, len0, cap0, rfl⟩ := okWide_slice Try.underlying41 (hval 0 41 v0 rfl rfl)
  have k0 := h0
  have lt0 : ∀ x ∈ p0, x.block < W.heap.size := by obtain ⟨m, hm⟩ := k0; exact DataW.trod_lt m _ _ _ hm
  obtain ⟨z0, w0⟩ := (by obtain ⟨fuel, hf⟩ := h0; exact open_strs hf : ∃ zs, IsStrs W a0 len0 zs)
  obtain ⟨a1, rfl, rfl, rfl, w1⟩ := open_int Try.underlying3 (hval 1 3 v1 rfl rfl) h1
  clear hA0 hval0
  refine (walk a0 len0 cap0 z0 a1 W w0 w1).mono fun e W' ⟨he, bel⟩ => ?_
  subst he
  exact ⟨_, rfl, _, _, _, [], _, [], hW', trodAll_mk1 (shut_bool Try.underlying4 _), (trodAll_cons_mk (Below.trod laidOut (by kernel_rfl) (of_decide_eq_true (by kernel_rfl)) k0 bel lt0) (trodAll_cons_mk (shut_int Try.underlying3 w1) trodAll_mk0)), rfl, bel.frame _, fun h => by cases h⟩

theorem over : Rows.ringOwnRow.holds Try.pinned (OpenSpec.ofChange Rows.ringOwnSpec) :=
  OpenClaim.holds_of_wide 6 Try.f6 rfl rfl rfl rfl rfl rfl rfl ⟨rfl, rfl, rfl, rfl, rfl⟩ rfl rfl rfl rfl rfl (by kernel_rfl) Try.func6 (by kernel_rfl)
    (of_decide_eq_true (by kernel_rfl)) (by unfold Func.isWrapper; first | (rw [if_pos (by decide +kernel)]; kernel_rfl) | (rw [if_neg (by decide +kernel)]; exact ⟨rfl, rfl⟩))
    (fun os started H enc _ => lifted os started H enc)

theorem proved : Rows.RingOwnSaid := over
end Go.Proofs.Ytbfbijfedamgaaa.ringOwn
