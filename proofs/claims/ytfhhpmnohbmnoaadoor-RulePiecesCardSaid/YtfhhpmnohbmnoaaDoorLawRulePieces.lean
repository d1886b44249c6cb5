/-
PROVED: the statement hortatorlaw7.RulePieces answers true over the landed packages: pieces lie within two hundred ticks, on a core that there is, their work within their time.
  CONDITIONS: the listed variables of strconv and math/bits hold what the program's text lays (the card ties them).
-/
import Derived.Test.YtfhhpmnohbmnoaaDoorRows
import Derived.Test.YtfhhpmnohbmnoaaDoorTie
import Derived.Test.YtfhhpmnohbmnoaaDoorCards
import Derived.WalkKit
import Derived.ProofKit
import Derived.OpenShut
import Derived.ShutString
import Derived.ChangeOld
import Derived.Below
import Derived.SevenTiedAt
import Derived.Test.YtfhhpmnohbmnoaaDoorLaid
namespace Go.Proofs.YtfhhpmnohbmnoaaDoor.rulePieces
open Go.ChangeShapes Go.WideShapes Go.ChangeAt Go.RowKit
open Go.ChangeMaps (open_string shut_string)
set_option linter.unusedVariables false

theorem own : ownKnob Tryd.prog.godebug = none := by kernel_rfl
theorem laidOut : laidOutB Tryd.prog = true := by kernel_rfl

set_option maxHeartbeats 8000000 in
set_option maxRecDepth 100000 in
theorem walk (a0 : Int) (a1 : Int) (a2 : Int) (a3 : Int) (w : World) (hE : Env w) (w0 : (Lit.int .i64 a0).wf = true) (w1 : (Lit.int .i64 a1).wf = true) (w2 : (Lit.int .i64 a2).wf = true) (w3 : (Lit.int .i64 a3).wf = true) :
    Calls Tryd.prog 5 #[.int .i64 a0, .int .i64 a1, .int .i64 a2, .int .i64 a3] w fun e w' => e = .returned (.bool true) ∧ Below w.heap.size w w' := by
  obtain ⟨l0, h0⟩ := bounds_i64 w0
  obtain ⟨l1, h1⟩ := bounds_i64 w1
  obtain ⟨l2, h2⟩ := bounds_i64 w2
  obtain ⟨l3, h3⟩ := bounds_i64 w3
  have HE : Hid (Env w) := hE
  clear hE
  go_enter Tryd.func5, Tryd.ntmps5
  go_wp2_with fail
  refine (begun7_any w HE.out).mono ?_
  rintro e w1' ⟨rfl, g1⟩
  have G1 : Hid (Below w.heap.size w w1') := g1
  clear g1
  by_cases c1 : 0 ≤ a0
  · by_cases c2 : a0 < 3
    · by_cases c3 : 0 ≤ a1
      · by_cases c4 : a1 ≤ 200
        · by_cases c5 : 1 ≤ a3
          · by_cases c6 : a3 ≤ a2
            · by_cases c7 : a2 ≤ 200 - a1
              · have hl : pieceB 3 a0 a1 a2 a3 = true := by
                  skip
                  simp only [pieceB, Bool.and_eq_true, inB_iff, oneOfB_iff]
                  omega
                go_wp2_with (go_at_call 17; refine (piece_any _ _ _ _ _ _ _ _ _ _ _ _).mono ?_; rintro e w2 ⟨rfl, g2⟩)
                go_ret
                exact ⟨ret_bool (by first | rfl | (simp; omega)), btrans (btrans G1.out (balloc _ _)) g2⟩
              · have hl : pieceB 3 a0 a1 a2 a3 = false := by
                  rw [← Bool.not_eq_true]
                  simp only [pieceB, Bool.and_eq_true, inB_iff, oneOfB_iff]
                  omega
                go_wp2_with (go_at_call 17; refine (piece_any _ _ _ _ _ _ _ _ _ _ _ _).mono ?_; rintro e w2 ⟨rfl, g2⟩)
                go_ret
                exact ⟨ret_bool (by first | rfl | (simp; omega)), btrans (btrans G1.out (balloc _ _)) g2⟩
            · have hl : pieceB 3 a0 a1 a2 a3 = false := by
                rw [← Bool.not_eq_true]
                simp only [pieceB, Bool.and_eq_true, inB_iff, oneOfB_iff]
                omega
              go_wp2_with (go_at_call 17; refine (piece_any _ _ _ _ _ _ _ _ _ _ _ _).mono ?_; rintro e w2 ⟨rfl, g2⟩)
              go_ret
              exact ⟨ret_bool (by first | rfl | (simp; omega)), btrans (btrans G1.out (balloc _ _)) g2⟩
          · have hl : pieceB 3 a0 a1 a2 a3 = false := by
              rw [← Bool.not_eq_true]
              simp only [pieceB, Bool.and_eq_true, inB_iff, oneOfB_iff]
              omega
            go_wp2_with (go_at_call 17; refine (piece_any _ _ _ _ _ _ _ _ _ _ _ _).mono ?_; rintro e w2 ⟨rfl, g2⟩)
            go_ret
            exact ⟨ret_bool (by first | rfl | (simp; omega)), btrans (btrans G1.out (balloc _ _)) g2⟩
        · have hl : pieceB 3 a0 a1 a2 a3 = false := by
            rw [← Bool.not_eq_true]
            simp only [pieceB, Bool.and_eq_true, inB_iff, oneOfB_iff]
            omega
          go_wp2_with (go_at_call 17; refine (piece_any _ _ _ _ _ _ _ _ _ _ _ _).mono ?_; rintro e w2 ⟨rfl, g2⟩)
          go_ret
          exact ⟨ret_bool (by first | rfl | (simp; omega)), btrans (btrans G1.out (balloc _ _)) g2⟩
      · have hl : pieceB 3 a0 a1 a2 a3 = false := by
          rw [← Bool.not_eq_true]
          simp only [pieceB, Bool.and_eq_true, inB_iff, oneOfB_iff]
          omega
        go_wp2_with (go_at_call 17; refine (piece_any _ _ _ _ _ _ _ _ _ _ _ _).mono ?_; rintro e w2 ⟨rfl, g2⟩)
        go_ret
        exact ⟨ret_bool (by first | rfl | (simp; omega)), btrans (btrans G1.out (balloc _ _)) g2⟩
    · have hl : pieceB 3 a0 a1 a2 a3 = false := by
        rw [← Bool.not_eq_true]
        simp only [pieceB, Bool.and_eq_true, inB_iff, oneOfB_iff]
        omega
      go_wp2_with (go_at_call 17; refine (piece_any _ _ _ _ _ _ _ _ _ _ _ _).mono ?_; rintro e w2 ⟨rfl, g2⟩)
      go_ret
      exact ⟨ret_bool (by first | rfl | (simp; omega)), btrans (btrans G1.out (balloc _ _)) g2⟩
  · have hl : pieceB 3 a0 a1 a2 a3 = false := by
      rw [← Bool.not_eq_true]
      simp only [pieceB, Bool.and_eq_true, inB_iff, oneOfB_iff]
      omega
    go_wp2_with (go_at_call 17; refine (piece_any _ _ _ _ _ _ _ _ _ _ _ _).mono ?_; rintro e w2 ⟨rfl, g2⟩)
    go_ret
    exact ⟨ret_bool (by first | rfl | (simp; omega)), btrans (btrans G1.out (balloc _ _)) g2⟩

set_option maxRecDepth 100000 in
theorem lifted (os : Os) (started : os.Started) (H : Type) (enc : TypeId × Value → H) :
    ReturnsInHanded {} Tryd.checked os 5 .any (fun w args => (Rows.rulePiecesSpec.pre enc Tryd.prog Tryd.f5 [] false w args ∧ laidMetH Tryd.prog laid5 w) ∧ sizedMet enc Tryd.prog Tryd.f5 (OpenSpec.ofChange Rows.rulePiecesSpec) false w args)
      (Rows.rulePiecesSpec.post enc Tryd.prog Tryd.f5 false true false false) := by
  refine returnsInHanded_of_change_and (C := Tryd.checked) (X := fun w _ => laidMetH Tryd.prog laid5 w) (fun _ _ _ hh h => h.of_heap hh) own started (by kernel_rfl) Tryd.func5
    (ChangeSpec.witness_shaped (enc := enc) (C := Tryd.checked) (os := os) (X := fun w _ => laidMetH Tryd.prog laid5 w) false (World.doorLaid Tryd.prog 62 os) #[.int .i64 0, .int .i64 0, .int .i64 0, .int .i64 0] 8 rfl (World.shaped_of_RefB (by kernel_rfl) (by kernel_rfl)) (by kernel_rfl) (by kernel_rfl) (by kernel_rfl) (door_met os _)) ?_
  intro W base args ds gs before hval0 hW _ _ hL _
  have hval : ∀ (j : Nat) t v, Tryd.f5.params[j]? = some t → args[j]? = some v → Value.okWide Tryd.prog W .any base t v := hval0
  have hW' := hW
  obtain ⟨p, q, hA0, hV, rfl, hfz, hnd⟩ := hW
  have hA : DataW.TrodAll enc Tryd.prog W 0 (fun _ => true) true Tryd.f5.params.toList args.toList ds p := hA0
  rw [Tryd.params5] at hA hval
  obtain ⟨v0, vs0, d0, ds0, p0, q0, hargs, rfl, rfl, h0, r0⟩ := trodAll_cons hA
  obtain ⟨v1, vs1, d1, ds1, p1, q1, rfl, rfl, rfl, h1, r1⟩ := trodAll_cons r0
  obtain ⟨v2, vs2, d2, ds2, p2, q2, rfl, rfl, rfl, h2, r2⟩ := trodAll_cons r1
  obtain ⟨v3, vs3, d3, ds3, p3, q3, rfl, rfl, rfl, h3, r3⟩ := trodAll_cons r2
  obtain ⟨rfl, rfl, rfl⟩ := trodAll_nil r3
  obtain rfl : args = #[v0, v1, v2, v3] := by cases args; simp_all
  obtain ⟨rfl, rfl⟩ := trodVars_none hV
  obtain ⟨a0, rfl, rfl, rfl, w0⟩ := open_int Tryd.underlying3 (hval 0 3 v0 rfl rfl) h0
  obtain ⟨a1, rfl, rfl, rfl, w1⟩ := open_int Tryd.underlying2 (hval 1 2 v1 rfl rfl) h1
  obtain ⟨a2, rfl, rfl, rfl, w2⟩ := open_int Tryd.underlying2 (hval 2 2 v2 rfl rfl) h2
  obtain ⟨a3, rfl, rfl, rfl, w3⟩ := open_int Tryd.underlying2 (hval 3 2 v3 rfl rfl) h3
  clear hA0 hval0
  simp only [List.append_nil] at hW'
  refine (walk a0 a1 a2 a3 W (env_of_laid hL) w0 w1 w2 w3).mono fun e W' ⟨he, bel⟩ => ?_
  subst he
  exact ⟨_, rfl, _, _, _, [], _, [], hW', trodAll_mk1 (shut_bool Tryd.underlying4 _), (trodAll_cons_mk (shut_int Tryd.underlying3 w0) (trodAll_cons_mk (shut_int Tryd.underlying2 w1) (trodAll_cons_mk (shut_int Tryd.underlying2 w2) (trodAll_cons_mk (shut_int Tryd.underlying2 w3) trodAll_mk0)))), rfl, bel.frame _, fun h => by cases h⟩

theorem over : Rows.rulePiecesRow.holds Tryd.pinned (OpenSpec.ofChange Rows.rulePiecesSpec) :=
  OpenClaim.holds_of_wide 5 Tryd.f5 rfl rfl rfl rfl rfl rfl rfl ⟨rfl, rfl, rfl, rfl, rfl⟩ rfl rfl rfl rfl rfl (by kernel_rfl) Tryd.func5 (by kernel_rfl)
    (of_decide_eq_true (by kernel_rfl)) (by unfold Func.isWrapper; first | (rw [if_pos (by decide +kernel)]; kernel_rfl) | (rw [if_neg (by decide +kernel)]; exact ⟨rfl, rfl⟩))
    (fun os started H enc _ => lifted os started H enc)

theorem proved : Rows.RulePiecesCardSaid :=
  Claim7.holds_tied_plain_at .later [] [.data, .data, .data, .sentinel, .sentinel] true (true, "1a6d372db0b00892c861878746c9b402df8e3ee8bbf8bfc1e42d205f4486eca9") true
    over (fun _ h => by cases h) (by kernel_rfl) (fun _ h => by cases h) rulePieces_row_tie rfl ⟨rfl, rfl⟩ (by kernel_rfl) rfl
    (fun f fn hf hfn => by
      obtain rfl : f = 5 := Option.some.inj ((show Tryd.prog.funcNamed "hortator/hortatorlaw7.RulePieces" = some 5 by kernel_rfl).symm.trans hf) |>.symm
      obtain rfl : fn = Tryd.f5 := (Option.some.inj (Tryd.func5.symm.trans hfn)).symm
      exact ⟨by kernel_rfl, fun j t ht => by
        rw [Tryd.params5] at ht
        match j, ht with
        | 0, ht => obtain rfl : t = 3 := by simpa using ht.symm
                   exact (show Tryd.prog.wantsStandIn 3 = false by kernel_rfl)
        | 1, ht => obtain rfl : t = 2 := by simpa using ht.symm
                   exact (show Tryd.prog.wantsStandIn 2 = false by kernel_rfl)
        | 2, ht => obtain rfl : t = 2 := by simpa using ht.symm
                   exact (show Tryd.prog.wantsStandIn 2 = false by kernel_rfl)
        | 3, ht => obtain rfl : t = 2 := by simpa using ht.symm
                   exact (show Tryd.prog.wantsStandIn 2 = false by kernel_rfl)
        | (_ + 4), ht => simp at ht⟩)
    (by kernel_rfl)
end Go.Proofs.YtfhhpmnohbmnoaaDoor.rulePieces
