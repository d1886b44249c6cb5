/-
PROVED: the statement hortatorlaw2.BoxEither answers true over the landed packages: as long as the first one has something, its things come; then the other's.
  CONDITIONS: none beside the row's own.
-/
import Derived.ChangeOld
import Derived.Below
import Derived.Test.YtkbmpoiokdoclaaRows
import Derived.WalkKit
import Derived.ProofKit
import Derived.OpenShut
import Derived.ShutString
import Derived.Test.YtkbmpoiokdoclaaBegun
import Derived.Test.YtkbmpoiokdoclaaBoxMoreS
namespace Go.Proofs.Ytkbmpoiokdoclaa.boxEither
open Go.ChangeShapes Go.WideShapes Go.ChangeAt Go.RowKit
open Go.ChangeMaps (open_string shut_string)
set_option linter.unusedVariables false

theorem own : ownKnob Try.prog.godebug = none := by kernel_rfl

set_option maxHeartbeats 8000000 in
set_option maxRecDepth 100000 in
theorem walk (a0 : Int) (a1 : Int) (w0 : (Lit.int .i64 a0).wf = true) (w1 : (Lit.int .i64 a1).wf = true) (w : World) :
    Calls Try.prog 14 #[.int .i64 a0, .int .i64 a1] w fun e w' => e = .returned (.bool true) ∧ Below w.heap.size w w' := by
  obtain ⟨b1, b2⟩ := bounds_i64 w0
  obtain ⟨c1, c2⟩ := bounds_i64 w1
  obtain ⟨ta, hta⟩ : ∃ ta : ByteArray, ta = ⟨#[97]⟩ := ⟨_, rfl⟩
  obtain ⟨tb, htb⟩ : ∃ tb : ByteArray, tb = ⟨#[98]⟩ := ⟨_, rfl⟩
  have HA : Hid (mkS ta = .string ⟨#[97]⟩) := by subst hta; exact rfl
  have HB : Hid (mkS tb = .string ⟨#[98]⟩) := by subst htb; exact rfl
  clear hta htb
  go_enter Try.func14, Try.ntmps14
  go_wp2_with fail
  refine (begun2_any _).mono ?_
  rintro e W ⟨rfl, g0⟩
  have M0 : Hid (Few w [] W) := (Few.start w).below g0
  clear g0
  go_upto_region 4 with fail
  go_cut [0, 1] (fun s0 s1 wc => ∃ m n : Nat, m < 20 ∧ n < 20 ∧ s0 = .int .i64 m ∧ s1 = .int .i64 n ∧ wc = W)
  case first =>
    have r0 := Int.emod_nonneg (a0.tmod 20 + 20) (show (20 : Int) ≠ 0 by omega)
    have t0 : -20 < a0.tmod 20 ∧ a0.tmod 20 < 20 := ⟨by have := Int.tmod_lt_of_pos (-a0) (show (0 : Int) < 20 by omega); rw [Int.neg_tmod] at this; omega, Int.tmod_lt_of_pos _ (by omega)⟩
    have t1 : -20 < a1.tmod 20 ∧ a1.tmod 20 < 20 := ⟨by have := Int.tmod_lt_of_pos (-a1) (show (0 : Int) < 20 by omega); rw [Int.neg_tmod] at this; omega, Int.tmod_lt_of_pos _ (by omega)⟩
    obtain ⟨x0, hx0⟩ : ∃ x, a0.tmod 20 = x := ⟨_, rfl⟩
    obtain ⟨x1, hx1⟩ : ∃ x, a1.tmod 20 = x := ⟨_, rfl⟩
    rw [hx0] at t0
    rw [hx1] at t1
    have e0 : (x0 + 20).tmod 20 = (x0 + 20) % 20 := Int.tmod_eq_emod_of_nonneg (by omega)
    have e1 : (x1 + 20).tmod 20 = (x1 + 20) % 20 := Int.tmod_eq_emod_of_nonneg (by omega)
    clear r0
    go_wp2
    go_meet
    refine ⟨((x0 + 20) % 20).toNat, ((x1 + 20) % 20).toNat, by omega, by omega, congrArg (Value.int .i64) (by omega), congrArg (Value.int .i64) (by omega), rfl⟩
  case rest =>
    obtain ⟨m, n, hm, hn, rfl, rfl, rfl⟩ := hcut
    clear b1 b2 c1 c2
    go_wp2_with fail
    refine (BS.new_any 20 wc (by omega) (by omega)).mono ?_
    rintro e w1 ⟨rfl, h1, g1⟩
    have M1 : Hid (Few w [(BS.footB (wc.heap.size + 1) wc.heap.size [], fun u => BS.Boxes u (wc.heap.size + 1) wc.heap.size 20 [])] w1) := M0.out.add g1 h1 (BS.foots_lt h1) BS.foot_new BS.keeps
    clear M0 g1 h1
    go_wp2_with fail
    refine (BS.new_any 20 w1 (by omega) (by omega)).mono ?_
    rintro e w2 ⟨rfl, h2, g2⟩
    have M2 : Hid (Few w [(BS.footB (wc.heap.size + 1) wc.heap.size [], fun u => BS.Boxes u (wc.heap.size + 1) wc.heap.size 20 []), (BS.footB (w1.heap.size + 1) w1.heap.size [], fun u => BS.Boxes u (w1.heap.size + 1) w1.heap.size 20 [])] w2) := M1.out.add g2 h2 (BS.foots_lt h2) BS.foot_new BS.keeps
    clear M1 g2 h2
    obtain ⟨A, hA⟩ : ∃ A, A = wc.heap.size := ⟨_, rfl⟩
    obtain ⟨B, hB⟩ : ∃ B, B = w1.heap.size := ⟨_, rfl⟩
    rw [← hA, ← hB]
    rw [← hA, ← hB] at M2
    clear hA hB
    go_wp2
    go_loopw [8] (fun s8 wr => ∃ (k : Nat) (qa qb : List (Nat × ByteArray)), k ≤ max m n ∧ s8 = .int .i64 k ∧ qa.map (·.2) = List.replicate (min k m) ta ∧ qb.map (·.2) = List.replicate (min k n) tb ∧ Few w [(BS.footB (A + 1) A qa, fun u => BS.Boxes u (A + 1) A 20 qa), (BS.footB (B + 1) B qb, fun u => BS.Boxes u (B + 1) B 20 qb)] wr) (fun i _ => max m n - (intOf i).toNat)
    case atStart => exact ⟨0, [], [], by omega, rfl, by simp, by simp, M2.out⟩
    case round =>
      clear M2
      obtain ⟨k, qa, qb, hk, rfl, hqa, hqb, M⟩ := hrel
      have la : qa.length = min k m := by have := congrArg List.length hqa; simpa using this
      have lb : qb.length = min k n := by have := congrArg List.length hqb; simpa using this
      have HQ : Hid (qa.map (·.2) = List.replicate (min k m) ta ∧ qb.map (·.2) = List.replicate (min k n) tb) := ⟨hqa, hqb⟩
      have HM : Hid (Few w [(BS.footB (A + 1) A qa, fun u => BS.Boxes u (A + 1) A 20 qa), (BS.footB (B + 1) B qb, fun u => BS.Boxes u (B + 1) B 20 qb)] wr) := M
      have hla : qa.length < 20 := by omega
      have hlb : qb.length < 20 := by omega
      clear hqa hqb M la lb
      have puta := BS.put_room ta wr (HM.out.holds 0) hla
      rw [HA.out] at puta
      have HPA : Hid (Calls Try.prog 59 #[.pointer (some ⟨A + 1, 0, none⟩), .string ⟨#[97]⟩] wr fun e w' => e = .returned (.bool true) ∧ BS.Boxes w' (A + 1) A 20 (qa ++ [(wr.heap.size, ta)]) ∧ Only [A] wr w') := puta
      have hputb := fun wx (h : BS.Boxes wx (B + 1) B 20 qb) => BS.put_room tb wx h hlb
      rw [HB.out] at hputb
      have HPB : Hid (∀ wx, BS.Boxes wx (B + 1) B 20 qb → Calls Try.prog 59 #[.pointer (some ⟨B + 1, 0, none⟩), .string ⟨#[98]⟩] wx fun e w' => e = .returned (.bool true) ∧ BS.Boxes w' (B + 1) B 20 (qb ++ [(wx.heap.size, tb)]) ∧ Only [B] wx w') := hputb
      clear puta hputb hla hlb
      by_cases h1 : k < m
      · have ea : List.replicate (min (k + 1) m) ta = List.replicate (min k m) ta ++ [ta] := by
          rw [show min (k + 1) m = k + 1 by omega, show min k m = k by omega, List.replicate_succ']
        have EA : Hid (List.replicate (min (k + 1) m) ta = List.replicate (min k m) ta ++ [ta]) := ea
        clear ea
        by_cases h2 : k < n
        · have eb : List.replicate (min (k + 1) n) tb = List.replicate (min k n) tb ++ [tb] := by
            rw [show min (k + 1) n = k + 1 by omega, show min k n = k by omega, List.replicate_succ']
          have EB : Hid (List.replicate (min (k + 1) n) tb = List.replicate (min k n) tb ++ [tb]) := eb
          clear eb
          rcases (by omega : ((m : Int) < n ∧ ¬ (n : Int) ≤ m) ∨ ((m : Int) ≤ n ∧ (n : Int) ≤ m) ∨ ((n : Int) < m ∧ ¬ (m : Int) ≤ n)) with hmn | hmn | hmn
          all_goals
            go_wp2_with fail
            refine HPA.out.mono ?_
            rintro e w3 ⟨rfl, h3, o3⟩
            have M3 : Hid (Few w [(BS.footB (A + 1) A (qa ++ [(wr.heap.size, ta)]), fun u => BS.Boxes u (A + 1) A 20 (qa ++ [(wr.heap.size, ta)])), (BS.footB (B + 1) B qb, fun u => BS.Boxes u (B + 1) B 20 qb)] w3) := BS.few_put HM.out 0 rfl h3 o3
            clear HM h3 o3 HPA
            go_wp2_with fail
            refine (HPB.out w3 (M3.out.holds 1)).mono ?_
            rintro e w4 ⟨rfl, h4, o4⟩
            have M4 : Hid (Few w [(BS.footB (A + 1) A (qa ++ [(wr.heap.size, ta)]), fun u => BS.Boxes u (A + 1) A 20 (qa ++ [(wr.heap.size, ta)])), (BS.footB (B + 1) B (qb ++ [(w3.heap.size, tb)]), fun u => BS.Boxes u (B + 1) B 20 (qb ++ [(w3.heap.size, tb)]))] w4) := BS.few_put M3.out 1 rfl h4 o4
            clear M3 h4 o4 HPB
            go_wp2
            go_round
            case rel => exact ⟨k + 1, _, _, by omega, by go_num, by rw [EA.out, List.map_append, HQ.out.1]; rfl, by rw [EB.out, List.map_append, HQ.out.2]; rfl, M4.out⟩
            case measure => simp [intOf]; omega
        · have eb : min (k + 1) n = min k n := by omega
          have EB : Hid (min (k + 1) n = min k n) := eb
          clear eb
          have hmn : (n : Int) < m ∧ ¬ (m : Int) ≤ n := by omega
          all_goals
            go_wp2_with fail
            refine HPA.out.mono ?_
            rintro e w3 ⟨rfl, h3, o3⟩
            have M3 : Hid (Few w [(BS.footB (A + 1) A (qa ++ [(wr.heap.size, ta)]), fun u => BS.Boxes u (A + 1) A 20 (qa ++ [(wr.heap.size, ta)])), (BS.footB (B + 1) B qb, fun u => BS.Boxes u (B + 1) B 20 qb)] w3) := BS.few_put HM.out 0 rfl h3 o3
            clear HM h3 o3 HPA HPB
            go_wp2
            go_round
            case rel => exact ⟨k + 1, _, _, by omega, by go_num, by rw [EA.out, List.map_append, HQ.out.1]; rfl, by rw [EB.out, HQ.out.2], M3.out⟩
            case measure => simp [intOf]; omega
      · have EA : Hid (min (k + 1) m = min k m) := by show _ = _; omega
        by_cases h2 : k < n
        · have eb : List.replicate (min (k + 1) n) tb = List.replicate (min k n) tb ++ [tb] := by
            rw [show min (k + 1) n = k + 1 by omega, show min k n = k by omega, List.replicate_succ']
          have EB : Hid (List.replicate (min (k + 1) n) tb = List.replicate (min k n) tb ++ [tb]) := eb
          clear eb
          have hmn : (m : Int) < n ∧ ¬ (n : Int) ≤ m := by omega
          all_goals
            go_wp2_with fail
            refine (HPB.out wr (HM.out.holds 1)).mono ?_
            rintro e w4 ⟨rfl, h4, o4⟩
            have M4 : Hid (Few w [(BS.footB (A + 1) A qa, fun u => BS.Boxes u (A + 1) A 20 qa), (BS.footB (B + 1) B (qb ++ [(wr.heap.size, tb)]), fun u => BS.Boxes u (B + 1) B 20 (qb ++ [(wr.heap.size, tb)]))] w4) := BS.few_put HM.out 1 rfl h4 o4
            clear HM h4 o4 HPB HPA
            go_wp2
            go_round
            case rel => exact ⟨k + 1, _, _, by omega, by go_num, by rw [EA.out, HQ.out.1], by rw [EB.out, List.map_append, HQ.out.2]; rfl, M4.out⟩
            case measure => simp [intOf]; omega
        · have hqa : qa.map (·.2) = List.replicate m ta := by rw [HQ.out.1]; congr 1; omega
          have hqb : qb.map (·.2) = List.replicate n tb := by rw [HQ.out.2]; congr 1; omega
          have HQ2 : Hid (qa.map (·.2) = List.replicate m ta ∧ qb.map (·.2) = List.replicate n tb) := ⟨hqa, hqb⟩
          clear HQ hqa hqb HPA HPB EA
          rcases (by omega : ((m : Int) < n ∧ ¬ (n : Int) ≤ m) ∨ ((m : Int) ≤ n ∧ (n : Int) ≤ m) ∨ ((n : Int) < m ∧ ¬ (m : Int) ≤ n)) with hmn | hmn | hmn
          all_goals
            go_wp2
            go_loopw [9] (fun s9 wr => ∃ (j : Nat) (qa qb : List (Nat × ByteArray)), j ≤ m + n ∧ s9 = .int .i64 j ∧ qa.map (·.2) = List.replicate (m - j) ta ∧ qb.map (·.2) = List.replicate (n - (j - m)) tb ∧ Few w [(BS.footB (A + 1) A qa, fun u => BS.Boxes u (A + 1) A 20 qa), (BS.footB (B + 1) B qb, fun u => BS.Boxes u (B + 1) B 20 qb)] wr) (fun i _ => m + n - (intOf i).toNat)
            case atStart => exact ⟨0, qa, qb, by omega, rfl, HQ2.out.1, by rw [HQ2.out.2]; simp, HM.out⟩
            case round =>
              clear HM HQ2
              obtain ⟨j, qc, qd, hj, rfl, hqc, hqd, M⟩ := hrel
              by_cases j1 : j < m
              · rw [show m - j = (m - (j + 1)) + 1 by omega, List.replicate_succ] at hqc
                obtain ⟨⟨p1, p2⟩, qe, rfl, hp, hqe⟩ := cons_of_map hqc
                simp only at hp
                subst hp
                have HQ : Hid (qe.map (·.2) = List.replicate (m - (j + 1)) p2 ∧ qd.map (·.2) = List.replicate (n - ((j + 1) - m)) tb) := ⟨hqe, by rw [hqd]; congr 1; omega⟩
                have HM : Hid (Few w [(BS.footB (A + 1) A ((p1, p2) :: qe), fun u => BS.Boxes u (A + 1) A 20 ((p1, p2) :: qe)), (BS.footB (B + 1) B qd, fun u => BS.Boxes u (B + 1) B 20 qd)] wr) := M
                have ei := BS.either_first (d := B + 1) wr (HM.out.holds 0)
                simp only [HA.out] at ei
                clear hqc hqd hqe M
                go_wp2_with fail
                refine ei.mono ?_
                rintro e w3 ⟨rfl, h3, o3⟩
                clear ei
                go_wp2
                go_round
                case rel => exact ⟨j + 1, qe, qd, by omega, by go_num, HQ.out.1, HQ.out.2, BS.few_take HM.out 0 rfl h3 o3⟩
                case measure => simp [intOf]; omega
              · have e0 : qc = [] := by
                  have := congrArg List.length hqc
                  simp at this
                  exact List.eq_nil_of_length_eq_zero (by omega)
                subst e0
                by_cases j2 : j < m + n
                · rw [show n - (j - m) = (n - ((j + 1) - m)) + 1 by omega, List.replicate_succ] at hqd
                  obtain ⟨⟨p1, p2⟩, qe, rfl, hp, hqe⟩ := cons_of_map hqd
                  simp only at hp
                  subst hp
                  have HQ : Hid (([] : List (Nat × ByteArray)).map (·.2) = List.replicate (m - (j + 1)) ta ∧ qe.map (·.2) = List.replicate (n - ((j + 1) - m)) p2) := ⟨by rw [show m - (j + 1) = 0 by omega]; rfl, hqe⟩
                  have HM : Hid (Few w [(BS.footB (A + 1) A [], fun u => BS.Boxes u (A + 1) A 20 []), (BS.footB (B + 1) B ((p1, p2) :: qe), fun u => BS.Boxes u (B + 1) B 20 ((p1, p2) :: qe))] wr) := M
                  have ei := BS.either_second wr (HM.out.holds 0) (HM.out.holds 1)
                  simp only [HB.out] at ei
                  clear hqc hqd hqe M
                  go_wp2_with fail
                  refine ei.mono ?_
                  rintro e w3 ⟨rfl, h3, o3⟩
                  clear ei
                  go_wp2
                  go_round
                  case rel => exact ⟨j + 1, [], qe, by omega, by go_num, HQ.out.1, HQ.out.2, BS.few_take HM.out 1 rfl h3 o3⟩
                  case measure => simp [intOf]; omega
                · have e1 : qd = [] := by
                    have := congrArg List.length hqd
                    simp at this
                    exact List.eq_nil_of_length_eq_zero (by omega)
                  subst e1
                  have HM : Hid (Few w [(BS.footB (A + 1) A [], fun u => BS.Boxes u (A + 1) A 20 []), (BS.footB (B + 1) B [], fun u => BS.Boxes u (B + 1) B 20 [])] wr) := M
                  clear hqc hqd M
                  go_wp2_with fail
                  refine (BS.either_none wr (HM.out.holds 0) (HM.out.holds 1)).mono ?_
                  rintro e w3 ⟨rfl, g3⟩
                  have M3 : Hid (Few w [(BS.footB (A + 1) A [], fun u => BS.Boxes u (A + 1) A 20 []), (BS.footB (B + 1) B [], fun u => BS.Boxes u (B + 1) B 20 [])] w3) := HM.out.below g3
                  clear HM g3
                  go_wp2_with fail
                  refine (BS.either_nil w3 (M3.out.holds 1)).mono ?_
                  rintro e w4 ⟨rfl, g4⟩
                  have M4 : Hid (Few w [(BS.footB (A + 1) A [], fun u => BS.Boxes u (A + 1) A 20 []), (BS.footB (B + 1) B [], fun u => BS.Boxes u (B + 1) B 20 [])] w4) := M3.out.below g4
                  clear M3 g4
                  go_wp2_with fail
                  refine (BS.len_any w4 (M4.out.holds 0)).mono ?_
                  rintro e w' ⟨rfl, hw⟩
                  subst w'
                  go_wp2_with fail
                  refine (BS.len_any w4 (M4.out.holds 1)).mono ?_
                  rintro e w' ⟨rfl, hw⟩
                  subst w'
                  go_wp2
                  go_ret
                  exact ⟨rfl, M4.out.bel⟩

set_option maxRecDepth 100000 in
theorem lifted (os : Os) (started : os.Started) (H : Type) (enc : TypeId × Value → H) :
    ReturnsInHanded {} Try.checked os 14 .any (Rows.boxEitherSpec.pre6 enc Try.prog Try.f14 Rows.boxEitherRow.domain false) (Rows.boxEitherSpec.post enc Try.prog Try.f14 false true false false) := by
  refine returnsInHanded_of_change (C := Try.checked) own started (by kernel_rfl) Try.func14
    (ChangeSpec.witness6 (enc := enc) (C := Try.checked) false ⟨#[], #[.int .i64 0, .int .i64 0], []⟩ 8 (by kernel_rfl) (by kernel_rfl) (by kernel_rfl) (by kernel_rfl)) ?_
  intro W base args ds gs before hval0 hW hcnd _
  have hval : ∀ (j : Nat) t v, Try.f14.params[j]? = some t → args[j]? = some v → Value.okWide Try.prog W .any base t v := hval0
  have hW' := hW
  obtain ⟨p, q, hA0, hV, rfl, hfz, hnd⟩ := hW
  have hA : DataW.TrodAll enc Try.prog W 0 (fun _ => true) true Try.f14.params.toList args.toList ds p := hA0
  rw [Try.params14] at hA hval
  obtain ⟨v0, vs0, d0, ds0, p0, q0, hargs, rfl, rfl, h0, r0⟩ := trodAll_cons hA
  obtain ⟨v1, vs1, d1, ds1, p1, q1, rfl, rfl, rfl, h1, r1⟩ := trodAll_cons r0
  obtain ⟨rfl, rfl, rfl⟩ := trodAll_nil r1
  obtain rfl : args = #[v0, v1] := by cases args; simp_all
  obtain ⟨rfl, rfl⟩ := trodVars_none hV
  obtain ⟨a0, rfl, rfl, rfl, w0⟩ := open_int Try.underlying3 (hval 0 3 v0 rfl rfl) h0
  obtain ⟨a1, rfl, rfl, rfl, w1⟩ := open_int Try.underlying3 (hval 1 3 v1 rfl rfl) h1
  clear hA0 hval0
  refine (walk a0 a1 w0 w1 W).mono fun e W' ⟨he, bel⟩ => ?_
  subst he
  exact ⟨_, rfl, _, _, _, [], _, [], hW', trodAll_mk1 (shut_bool Try.underlying4 _), (trodAll_cons_mk (shut_int Try.underlying3 w0) (trodAll_cons_mk (shut_int Try.underlying3 w1) trodAll_mk0)), rfl, bel.frame _, fun h => by cases h⟩

theorem over : Rows.boxEitherRow.holds Try.pinned (OpenSpec.ofChange Rows.boxEitherSpec) :=
  OpenClaim.holds_of_wide 14 Try.f14 rfl rfl rfl rfl rfl rfl rfl ⟨rfl, rfl, rfl, rfl, rfl⟩ rfl rfl rfl rfl rfl (by kernel_rfl) Try.func14 (by kernel_rfl)
    (of_decide_eq_true (by kernel_rfl)) (by unfold Func.isWrapper; first | (rw [if_pos (by decide +kernel)]; kernel_rfl) | (rw [if_neg (by decide +kernel)]; exact ⟨rfl, rfl⟩))
    (fun os started H enc _ => lifted os started H enc)

theorem proved : Rows.BoxEitherSaid :=
  over
end Go.Proofs.Ytkbmpoiokdoclaa.boxEither
