/-
PROVED: the statement hortatorlaw9.DemandRun answers true over the landed packages: loads that fit: on a core that does first what is due first nothing is late, whenever they come, at least T apart.
  CONDITIONS: the listed variables of strconv and math/bits hold what the program's text lays (the card ties them).
-/
import Derived.Test.YtcgmbfpmcldfdaaGreatDoorRows
import Derived.Test.YtcgmbfpmcldfdaaGreatDoorTie
import Derived.Test.YtcgmbfpmcldfdaaGreatDoorCards
import Derived.WalkKit
import Derived.ProofKit
import Derived.OpenShut
import Derived.ShutString
import Derived.ChangeOld
import Derived.Below
import Derived.SevenTiedAt
import Derived.Test.YtcgmbfpmcldfdaaGreatDoorLaid
import Derived.Test.YtcgmbfpmcldfdaaGreatDoorHead
import Derived.Carry
import Derived.Deep.Cut
import Derived.Deep.CutRange
import Derived.Deep.RegionWith
import Derived.Deep.RegionHeld3
import Derived.Deep.LoopGhost
import Derived.Deep.QuietTactic
import Derived.BigQuiet
import Derived.Test.YtcgmbfpmcldfdaaGreatDoorArgs9J
import Derived.Test.YtcgmbfpmcldfdaaGreatDoorBegun9
import Derived.Test.YtcgmbfpmcldfdaaGreatDoorBits9
import Derived.Test.YtcgmbfpmcldfdaaGreatDoorBMath5
import Derived.Test.YtcgmbfpmcldfdaaGreatDoorApp98
namespace Go.Proofs.YtcgmbfpmcldfdaaGreatDoor.demandRun
open Go.ChangeShapes Go.WideShapes Go.ChangeAt Go.RowKit
open Go.ChangeMaps (open_string shut_string)
set_option linter.unusedVariables false

theorem own : ownKnob Tryz.prog.godebug = none := by kernel_rfl
theorem laidOut : laidOutB Tryz.prog = true := by kernel_rfl

set_option maxHeartbeats 8000000 in
set_option maxRecDepth 100000 in
theorem walk (s0 : Option Addr) (n0 m0 : Nat) (z0 : List Sec) (s1 : Option Addr) (n1 m1 : Nat) (z1 : List Int) (w : World) (hE : Env w) (w0 : ALds w s0 n0 m0 z0) (w1 : ANums w s1 n1 z1) :
    Calls Tryz.prog 3 #[.slice s0 n0 m0, .slice s1 n1 m1] w fun e w' => e = .returned (.bool true) ∧ Below w.heap.size w w' := by
  have HE : Hid (Env w) := hE
  have HA : Hid (ALds w s0 n0 m0 z0) := w0
  have HN : Hid (ANums w s1 n1 z1) := w1
  clear hE w0 w1
  go_enter Tryz.func3, Tryz.ntmps3
  go_wp2_with fail
  refine (begun9_any w HE.out).mono ?_
  rintro e v1 ⟨rfl, g1⟩
  have G1 : Hid (Below w.heap.size w v1) := g1
  clear g1
  go_wp2_with fail
  refine (lloads_at s0 n0 m0 z0 w _ G1.out HA.out).mono ?_
  rintro e v2 ⟨a, n, cap, l, rfl, hl, n10, c2, g2⟩
  have G2 : Hid (Below w.heap.size w v2) := g2
  have C2 : Hid (Cop9 v2 w.heap.size a n cap l) := c2
  have HL : Hid (l.length ≤ 1000000) := by have := c2.len; show _ ≤ _; omega
  have HS : Hid (l.length ≤ 1000) := by have := c2.len; show _ ≤ _; omega
  clear g2 hl c2
  cases hf : fitB l
  · have HF : Hid (fitB l = false) := hf
    clear hf
    go_wp2_with fail
    refine ((dfits_any _ l _ C2.out.sec HL.out)).mono ?_
    rintro e v3 ⟨rfl, g3⟩
    rw [HF.out]
    have G3 : Hid (Below w.heap.size w v3) := btrans G2.out g3
    have C3 : Hid (Cop9 v3 w.heap.size a n cap l) := C2.out.below g3
    clear g3 G2 C2
    go_wp2_with fail
    go_ret
    exact ⟨ret_bool (by simp), G3.out⟩
  · have HF : Hid (fitB l = true) := hf
    clear hf
    have n63 : n1 ≤ 9223372036854775807 := HN.out.2.1
    go_wp2_with fail
    refine ((dfits_any _ l _ C2.out.sec HL.out)).mono ?_
    rintro e v3 ⟨rfl, g3⟩
    rw [HF.out]
    have G3 : Hid (Below w.heap.size w v3) := btrans G2.out g3
    have C3 : Hid (Cop9 v3 w.heap.size a n cap l) := C2.out.below g3
    clear g3 G2 C2
    have mk := madeJ n (by omega)
    go_upto_region 7 with fail
    go_cut [6, 7, 8] from 22 to 31 (fun x y z wx => ∃ gn gl gd, x = .slice (some ⟨gn, 0, none⟩) n n ∧ y = .slice (some ⟨gl, 0, none⟩) n n ∧ z = .slice (some ⟨gd, 0, none⟩) n n ∧ Stt v3 gn gl gd l (List.replicate n ⟨0, 0, 0⟩) 0 wx)
    case first =>
      go_region
      all_goals
        go_wp2_with fail
        go_meet
        exact ⟨_, _, _, rfl, rfl, rfl, Stt.made HF.out C3.out.len (by first | omega | (simp; done) | (simp; omega)) (by first | omega | (simp; done) | (simp; omega)) (by first | omega | (simp; done) | (simp; omega)) (by first | omega | (simp; done) | (simp; omega))⟩
    case rest =>
      obtain ⟨gn, gl, gd, rfl, rfl, rfl, h0⟩ := hcut
      have S0 : Hid (Stt v3 gn gl gd l (List.replicate n ⟨0, 0, 0⟩) 0 wc) := h0
      obtain ⟨na1, na2, na3⟩ := h0.jbs.ne
      clear h0 mk
      go_wp2_with fail
      go_loopg [9, 10] 600 (fun gk g t wr => ∃ (τ γ : Nat) (js : List Jb), τ ≤ 600 ∧ gk + τ = 600 ∧ γ ≤ 10 * τ ∧ g = .int .i64 γ ∧ t = .int .i64 τ ∧ Hid (Stt v3 gn gl gd l js (τ : Int) wr))
      case atStart => exact ⟨0, 0, _, by omega, by omega, by omega, rfl, rfl, S0.out⟩
      case round =>
        obtain ⟨τ, γ, js, t1, t2, t3, rfl, rfl, hS⟩ := hrel
        by_cases ht : τ < 600
        · have ht2 : (τ : Int) < 600 := by omega
          go_wp2_with fail
          try rw [decide_eq_true ht2]
          go_loopg [9, 11, 12] n (fun gk g b i wr => ∃ (k γ : Nat) (β : Int) (js : List Jb), k ≤ n ∧ gk + k = n ∧ γ ≤ 10 * τ + k ∧ g = .int .i64 γ ∧ b = .int .i64 β ∧ i = .int .i64 k ∧ Hid (Stt v3 gn gl gd l js (τ : Int) wr) ∧ Hid (Best js k β))
          case atStart => exact ⟨0, γ, -1, js, by omega, by omega, by omega, rfl, rfl, rfl, hS, Best.start js⟩
          case round =>
            obtain ⟨k, γ2, β, ks, k1, k2, k3, rfl, rfl, rfl, hT, hB⟩ := hrel
            have hL := hT.out.good.len
            rw [C3.out.len] at hL
            have HLn : Hid (ks.length = n) := hL
            clear hL
            by_cases hlt : k < n
            · obtain ⟨⟨c, d, T⟩, hx⟩ : ∃ x, l[k]? = some x := ⟨_, List.getElem?_eq_getElem (by rw [C3.out.len]; exact hlt)⟩
              have HX : Hid (l[k]? = some ⟨c, d, T⟩) := hx
              have hs := ldB_iff.1 (ldsB_all (fit_lds HF.out) _ (List.mem_of_getElem? hx))
              simp only at hs
              obtain ⟨⟨c1, c2⟩, ⟨T1, T2⟩, d1, d2⟩ := hs
              clear hx
              obtain ⟨⟨lf, du, nx⟩, hj⟩ : ∃ x, ks[k]? = some x := ⟨_, List.getElem?_eq_getElem (by rw [HLn.out]; exact hlt)⟩
              have HJ : Hid (ks[k]? = some ⟨lf, du, nx⟩) := hj
              have hk := hT.out.good.ok _ (List.mem_of_getElem? hj)
              unfold JOk at hk
              simp only at hk
              obtain ⟨⟨j1, j2⟩, ⟨j3, j4⟩, j5, j6⟩ := hk
              obtain ⟨x1, x2, x3⟩ := hT.out.jbs.read hj
              simp only at x1 x2 x3
              have HLt : Hid (0 < lf → (τ : Int) < du) := fun h => hT.out.good.late (ldsB_all (fit_lds HF.out)) HX.out hj h
              clear hj
              go_upto_region 16 with fail
              go_cut [53] from 35 to 128 (fun x wx => x = .bool false ∧ wr = wx)
              case first =>
                by_cases h0 : 0 < lf
                · have hd := HLt.out h0
                  have hd2 : ¬ du ≤ (τ : Int) := by omega
                  go_wp2_with fail
                  go_meet
                  exact ⟨by first | rfl | (simp; done) | (simp; omega), rfl⟩
                · go_wp2_with fail
                  go_meet
                  exact ⟨by first | rfl | (simp; done) | (simp; omega), rfl⟩
              case rest =>
                obtain ⟨rfl, rfl⟩ := hcut
                obtain ⟨X, hX⟩ : ∃ X, ((lf == 0) && decide (nx ≤ (τ : Int))) = X := ⟨_, rfl⟩
                have HXX : Hid (((lf == 0) && decide (nx ≤ (τ : Int))) = X) := hX
                clear hX
                go_upto_region 18 with fail
                go_cut [66] from 35 to 128 (fun x wx => x = .bool X ∧ wr = wx)
                case first =>
                  cases e0 : (lf == 0)
                  · go_wp2_with fail
                    go_meet
                    exact ⟨by rw [← HXX.out, e0]; rfl, rfl⟩
                  · cases e1 : decide (nx ≤ (τ : Int))
                    · go_wp2_with fail
                      go_meet
                      exact ⟨by rw [← HXX.out, e0, e1]; rfl, rfl⟩
                    · go_wp2_with fail
                      go_meet
                      exact ⟨by rw [← HXX.out, e0, e1]; rfl, rfl⟩
                case rest =>
                  obtain ⟨rfl, rfl⟩ := hcut
                  go_upto_if 66 with fail
                  go_cut [9, 13] from 35 to 128 (fun g _p wx => ∃ (γ3 : Nat) (qs : List Jb), γ3 ≤ 10 * τ + k + 1 ∧ g = .int .i64 γ3 ∧ Hid (Stt v3 gn gl gd l qs (τ : Int) wx) ∧ Hid (Best qs k β))
                  case first =>
                    cases X
                    · go_wp2_with fail
                      go_meet
                      exact ⟨γ2, ks, by omega, rfl, hT, hB⟩
                    · have H0 : Hid (lf = 0 ∧ nx ≤ (τ : Int)) := by have := HXX.out; show _ ∧ _; simpa using this
                      clear x1 x2 x3
                      go_upto_if 70 with fail
                      go_cut [13] from 35 to 128 (fun p wx => ∃ gp : Int, p = .int .i64 gp ∧ 0 ≤ gp ∧ gp ≤ 15 ∧ wr = wx)
                      case first =>
                        by_cases hg : γ2 < n1
                        · obtain ⟨y, hy⟩ : ∃ y, z1[γ2]? = some y := ⟨_, List.getElem?_eq_getElem (by rw [HN.out.1]; exact hg)⟩
                          obtain ⟨x, hx, hc, -⟩ := (HN.out.below (btrans G3.out hT.out.bel)).2.2 γ2 y hy
                          subst hx
                          have e1 := and15 y
                          clear hy
                          go_wp2_with fail
                          go_meet
                          exact ⟨y % 16, by first | rfl | (rw [e1]; done) | simp, by omega, by omega, rfl⟩
                        · go_wp2_with fail
                          go_meet
                          exact ⟨0, rfl, by omega, by omega, rfl⟩
                      case rest =>
                        obtain ⟨gp, rfl, gp0, gp1, rfl⟩ := hcut
                        have hw1 : IntKind.i64.wrap ((τ : Int) + d) = τ + d := IntWalk.i64_in _ (by omega)
                        have hw2 : IntKind.i64.wrap ((τ : Int) + T) = τ + T := IntWalk.i64_in _ (by omega)
                        have hw3 : IntKind.i64.wrap ((τ : Int) + T + gp) = τ + T + gp := IntWalk.i64_in _ (by omega)
                        obtain ⟨b, eb, hb, hb2, y1, y2, y3⟩ := secs_at' C3.out.sec HX.out (Below.refl _ _)
                        subst eb
                        clear y1 y2 y3 hb2
                        have q0 : (0 : Int) ≤ (k : Int) := by omega
                        have q1 : (k : Int) < (n : Int) := by omega
                        have ncap : n ≤ cap := C3.out.cap
                        go_upto_region 23 with fail
                        refine wp_region_noPanic (wp_region_runsZ (S := (fun w' => w'.cell? ⟨b, k * 3, none⟩ = some (.int .i64 c) ∧ w'.cell? ⟨b, k * 3 + 1, none⟩ = some (.int .i64 d) ∧ w'.cell? ⟨b, k * 3 + 2, none⟩ = some (.int .i64 T))) (Z := []) (by kernel_rfl) ?_)
                        have J0 := hT.out.jbs.below (bdrew wr)
                        have D0 := btrans hT.out.bel (bdrew wr)
                        have hS0 : (fun w' => w'.cell? ⟨b, k * 3, none⟩ = some (.int .i64 c) ∧ w'.cell? ⟨b, k * 3 + 1, none⟩ = some (.int .i64 d) ∧ w'.cell? ⟨b, k * 3 + 2, none⟩ = some (.int .i64 T)) wr.drew := by
                          obtain ⟨b2, eb, _, _, y1, y2, y3⟩ := secs_at' C3.out.sec HX.out D0
                          simp only [Option.some.injEq, Addr.mk.injEq, and_true] at eb
                          subst eb
                          exact ⟨y1, y2, y3⟩
                        generalize wr.drew = u0 at J0 D0 hS0 ⊢
                        obtain ⟨r1, r2, r3⟩ := J0.read HJ.out
                        simp only at r1 r2 r3
                        obtain ⟨f1, f2, f3⟩ := J0.frz k
                        obtain ⟨ge1, ge2, ge3⟩ := hT.out.ge
                        refine RunsZ.take 12 (i := 0) (v := ?v0) (nth_at rfl) (by kernel_rfl) (by kernel_rfl) (by kernel_rfl) (by kernel_rfl) (by kernel_rfl) (fun _ _ _ h => h) (Or.inl ⟨by rfl, ?y0⟩) hS0 ?_
                        case y0 =>
                          intro u hu
                          try dsimp only at hu
                          go_split_ands
                          go_simp
                          try with_reducible rfl
                        simp only [Act.put, List.setIfInBounds_toArray, List.set_cons_zero, List.set_cons_succ]
                        refine RunsZ.take 12 (i := 1) (v := ?v1) (nth_at rfl) (by kernel_rfl) (by kernel_rfl) (by kernel_rfl) (by kernel_rfl) (by kernel_rfl) (fun _ _ _ h => h) (Or.inl ⟨by rfl, ?y1⟩) hS0 ?_
                        case y1 =>
                          intro u hu
                          try dsimp only at hu
                          go_split_ands
                          go_simp
                          try with_reducible rfl
                        simp only [Act.put, List.setIfInBounds_toArray, List.set_cons_zero, List.set_cons_succ]
                        refine RunsZ.take 12 (i := 2) (v := ?v2) (nth_at rfl) (by kernel_rfl) (by kernel_rfl) (by kernel_rfl) (by kernel_rfl) (by kernel_rfl) (fun _ _ _ h => h) (Or.inl ⟨by rfl, ?y2⟩) hS0 ?_
                        case y2 =>
                          intro u hu
                          try dsimp only at hu
                          go_split_ands
                          go_simp
                          try with_reducible rfl
                        simp only [Act.put, List.setIfInBounds_toArray, List.set_cons_zero, List.set_cons_succ]
                        refine RunsZ.take 12 (i := 3) (v := ?v3) (nth_at rfl) (by kernel_rfl) (by kernel_rfl) (by kernel_rfl) (by kernel_rfl) (by kernel_rfl) (fun _ _ _ h => h) (Or.inl ⟨by rfl, ?y3⟩) hS0 ?_
                        case y3 =>
                          intro u hu
                          try dsimp only at hu
                          go_split_ands
                          go_simp
                          try with_reducible rfl
                        simp only [Act.put, List.setIfInBounds_toArray, List.set_cons_zero, List.set_cons_succ]
                        refine RunsZ.take 12 (i := 4) (v := ?v4) (nth_at rfl) (by kernel_rfl) (by kernel_rfl) (by kernel_rfl) (by kernel_rfl) (by kernel_rfl) (fun _ _ _ h => h) (Or.inl ⟨by rfl, ?y4⟩) hS0 ?_
                        case y4 =>
                          intro u hu
                          try dsimp only at hu
                          go_split_ands
                          go_simp
                          try with_reducible rfl
                        simp only [Act.put, List.setIfInBounds_toArray, List.set_cons_zero, List.set_cons_succ]
                        refine RunsZ.take 12 (i := 5) (v := ?v5) (nth_at rfl) (by kernel_rfl) (by kernel_rfl) (by kernel_rfl) (by kernel_rfl) (by kernel_rfl) (fun _ _ _ h => h) (Or.inl ⟨by rfl, ?y5⟩) hS0 ?_
                        case y5 =>
                          intro u hu
                          try dsimp only at hu
                          go_split_ands
                          go_simp
                          try with_reducible rfl
                        simp only [Act.put, List.setIfInBounds_toArray, List.set_cons_zero, List.set_cons_succ]
                        refine RunsZ.take 12 (i := 6) (v := ?v6) (nth_at rfl) (by kernel_rfl) (by kernel_rfl) (by kernel_rfl) (by kernel_rfl) (by kernel_rfl) (fun _ _ _ h => h) (Or.inl ⟨by rfl, ?y6⟩) hS0 ?_
                        case y6 =>
                          intro u hu
                          try dsimp only at hu
                          go_split_ands
                          go_simp
                          try with_reducible rfl
                        simp only [Act.put, List.setIfInBounds_toArray, List.set_cons_zero, List.set_cons_succ]
                        refine RunsZ.take 12 (i := 7) (v := ?v7) (nth_at rfl) (by kernel_rfl) (by kernel_rfl) (by kernel_rfl) (by kernel_rfl) (by kernel_rfl) (fun _ _ _ h => h) (Or.inl ⟨by rfl, ?y7⟩) hS0 ?_
                        case y7 =>
                          intro u hu
                          try dsimp only at hu
                          go_split_ands
                          go_simp
                          try with_reducible rfl
                        simp only [Act.put, List.setIfInBounds_toArray, List.set_cons_zero, List.set_cons_succ]
                        refine RunsZ.take 12 (i := 8) (v := ?v8) (nth_at rfl) (by kernel_rfl) (by kernel_rfl) (by kernel_rfl) (by kernel_rfl) (by kernel_rfl) (fun _ _ _ h => h) (Or.inl ⟨by rfl, ?y8⟩) hS0 ?_
                        case y8 =>
                          intro u hu
                          try dsimp only at hu
                          go_split_ands
                          go_simp
                          try with_reducible rfl
                        simp only [Act.put, List.setIfInBounds_toArray, List.set_cons_zero, List.set_cons_succ]
                        refine RunsZ.take 12 (i := 9) (v := ?v9) (nth_at rfl) (by kernel_rfl) (by kernel_rfl) (by kernel_rfl) (by kernel_rfl) (by kernel_rfl) (fun _ _ _ h => h) (Or.inl ⟨by rfl, ?y9⟩) hS0 ?_
                        case y9 =>
                          intro u hu
                          try dsimp only at hu
                          go_split_ands
                          go_simp
                          try with_reducible rfl
                        simp only [Act.put, List.setIfInBounds_toArray, List.set_cons_zero, List.set_cons_succ]
                        refine RunsZ.take 12 (i := 10) (v := ?v10) (nth_at rfl) (by kernel_rfl) (by kernel_rfl) (by kernel_rfl) (by kernel_rfl) (by kernel_rfl) (fun _ _ _ h => h) (Or.inl ⟨by rfl, ?y10⟩) hS0 ?_
                        case y10 =>
                          intro u hu
                          try dsimp only at hu
                          go_split_ands
                          go_simp
                          try with_reducible rfl
                        simp only [Act.put, List.setIfInBounds_toArray, List.set_cons_zero, List.set_cons_succ]
                        refine RunsZ.take 12 (i := 11) (v := ?v11) (nth_at rfl) (by kernel_rfl) (by kernel_rfl) (by kernel_rfl) (by kernel_rfl) (by kernel_rfl) (fun _ _ _ h => h) (Or.inl ⟨by rfl, ?y11⟩) hS0 ?_
                        case y11 =>
                          intro u hu
                          try dsimp only at hu
                          go_split_ands
                          go_simp
                          try with_reducible rfl
                        simp only [Act.put, List.setIfInBounds_toArray, List.set_cons_zero, List.set_cons_succ]
                        refine RunsZ.take 12 (i := 12) (v := ?v12) (nth_at rfl) (by kernel_rfl) (by kernel_rfl) (by kernel_rfl) (by kernel_rfl) (by kernel_rfl) (fun _ _ _ h => h) (Or.inl ⟨by rfl, ?y12⟩) hS0 ?_
                        case y12 =>
                          intro u hu
                          try dsimp only at hu
                          go_split_ands
                          go_simp
                          try with_reducible rfl
                        simp only [Act.put, List.setIfInBounds_toArray, List.set_cons_zero, List.set_cons_succ]
                        refine RunsZ.take 12 (i := 13) (v := ?v13) (nth_at rfl) (by kernel_rfl) (by kernel_rfl) (by kernel_rfl) (by kernel_rfl) (by kernel_rfl) (fun _ _ _ h => h) (Or.inl ⟨by rfl, ?y13⟩) hS0 ?_
                        case y13 =>
                          intro u hu
                          try dsimp only at hu
                          go_split_ands
                          go_simp
                          try with_reducible rfl
                        simp only [Act.put, List.setIfInBounds_toArray, List.set_cons_zero, List.set_cons_succ]
                        refine RunsZ.take 12 (i := 14) (v := ?v14) (nth_at rfl) (by kernel_rfl) (by kernel_rfl) (by kernel_rfl) (by kernel_rfl) (by kernel_rfl) (fun _ _ _ h => h) (Or.inl ⟨by rfl, ?y14⟩) hS0 ?_
                        case y14 =>
                          intro u hu
                          try dsimp only at hu
                          go_split_ands
                          go_simp
                          try with_reducible rfl
                        simp only [Act.put, List.setIfInBounds_toArray, List.set_cons_zero, List.set_cons_succ]
                        refine RunsZ.take 12 (i := 15) (v := ?v15) (nth_at rfl) (by kernel_rfl) (by kernel_rfl) (by kernel_rfl) (by kernel_rfl) (by kernel_rfl) (fun _ _ _ h => h) (Or.inl ⟨by rfl, ?y15⟩) hS0 ?_
                        case y15 =>
                          intro u hu
                          try dsimp only at hu
                          go_split_ands
                          go_simp
                          try with_reducible rfl
                        simp only [Act.put, List.setIfInBounds_toArray, List.set_cons_zero, List.set_cons_succ]
                        refine RunsZ.take 12 (i := 16) (v := ?v16) (nth_at rfl) (by kernel_rfl) (by kernel_rfl) (by kernel_rfl) (by kernel_rfl) (by kernel_rfl) (fun _ _ _ h => h) (Or.inl ⟨by rfl, ?y16⟩) hS0 ?_
                        case y16 =>
                          intro u hu
                          try dsimp only at hu
                          go_split_ands
                          go_simp
                          try with_reducible rfl
                        simp only [Act.put, List.setIfInBounds_toArray, List.set_cons_zero, List.set_cons_succ]
                        refine RunsZ.take 12 (i := 17) (v := ?v17) (nth_at rfl) (by kernel_rfl) (by kernel_rfl) (by kernel_rfl) (by kernel_rfl) (by kernel_rfl) (fun _ _ _ h => h) (Or.inl ⟨by rfl, ?y17⟩) hS0 ?_
                        case y17 =>
                          intro u hu
                          try dsimp only at hu
                          go_split_ands
                          go_simp
                          try with_reducible rfl
                        simp only [Act.put, List.setIfInBounds_toArray, List.set_cons_zero, List.set_cons_succ]
                        refine RunsZ.take 12 (i := 18) (v := ?v18) (nth_at rfl) (by kernel_rfl) (by kernel_rfl) (by kernel_rfl) (by kernel_rfl) (by kernel_rfl) (fun _ _ _ h => h) (Or.inl ⟨by rfl, ?y18⟩) hS0 ?_
                        case y18 =>
                          intro u hu
                          try dsimp only at hu
                          go_split_ands
                          go_simp
                          try with_reducible rfl
                        simp only [Act.put, List.setIfInBounds_toArray, List.set_cons_zero, List.set_cons_succ]
                        refine RunsZ.take 12 (i := 19) (v := ?v19) (nth_at rfl) (by kernel_rfl) (by kernel_rfl) (by kernel_rfl) (by kernel_rfl) (by kernel_rfl) (fun _ _ _ h => h) (Or.inl ⟨by rfl, ?y19⟩) hS0 ?_
                        case y19 =>
                          intro u hu
                          try dsimp only at hu
                          go_split_ands
                          go_simp
                          try with_reducible rfl
                        simp only [Act.put, List.setIfInBounds_toArray, List.set_cons_zero, List.set_cons_succ]
                        refine RunsZ.take 12 (i := 20) (v := ?v20) (nth_at rfl) (by kernel_rfl) (by kernel_rfl) (by kernel_rfl) (by kernel_rfl) (by kernel_rfl) (fun _ _ _ h => h) (Or.inl ⟨by rfl, ?y20⟩) hS0 ?_
                        case y20 =>
                          intro u hu
                          try dsimp only at hu
                          go_split_ands
                          go_simp
                          try with_reducible rfl
                        simp only [Act.put, List.setIfInBounds_toArray, List.set_cons_zero, List.set_cons_succ]
                        refine RunsZ.take 12 (i := 21) (v := ?v21) (nth_at rfl) (by kernel_rfl) (by kernel_rfl) (by kernel_rfl) (by kernel_rfl) (by kernel_rfl) (fun _ _ _ h => h) (Or.inl ⟨by rfl, ?y21⟩) hS0 ?_
                        case y21 =>
                          intro u hu
                          try dsimp only at hu
                          go_split_ands
                          go_simp
                          try with_reducible rfl
                        simp only [Act.put, List.setIfInBounds_toArray, List.set_cons_zero, List.set_cons_succ]
                        refine RunsZ.take 12 (i := 22) (v := ?v22) (nth_at rfl) (by kernel_rfl) (by kernel_rfl) (by kernel_rfl) (by kernel_rfl) (by kernel_rfl) (fun _ _ _ h => h) (Or.inl ⟨by rfl, ?y22⟩) hS0 ?_
                        case y22 =>
                          intro u hu
                          try dsimp only at hu
                          go_split_ands
                          go_simp
                          try with_reducible rfl
                        simp only [Act.put, List.setIfInBounds_toArray, List.set_cons_zero, List.set_cons_succ]
                        refine RunsZ.take 12 (i := 23) (v := ?v23) (nth_at rfl) (by kernel_rfl) (by kernel_rfl) (by kernel_rfl) (by kernel_rfl) (by kernel_rfl) (fun _ _ _ h => h) (Or.inl ⟨by rfl, ?y23⟩) hS0 ?_
                        case y23 =>
                          intro u hu
                          try dsimp only at hu
                          go_split_ands
                          go_simp
                          try with_reducible rfl
                        simp only [Act.put, List.setIfInBounds_toArray, List.set_cons_zero, List.set_cons_succ]
                        refine RunsZ.take 12 (i := 24) (v := ?v24) (nth_at rfl) (by kernel_rfl) (by kernel_rfl) (by kernel_rfl) (by kernel_rfl) (by kernel_rfl) (fun _ _ _ h => h) (Or.inl ⟨by rfl, ?y24⟩) hS0 ?_
                        case y24 =>
                          intro u hu
                          try dsimp only at hu
                          go_split_ands
                          go_simp
                          try with_reducible rfl
                        simp only [Act.put, List.setIfInBounds_toArray, List.set_cons_zero, List.set_cons_succ]
                        refine RunsZ.take 12 (i := 25) (v := ?v25) (nth_at rfl) (by kernel_rfl) (by kernel_rfl) (by kernel_rfl) (by kernel_rfl) (by kernel_rfl) (fun _ _ _ h => h) (Or.inl ⟨by rfl, ?y25⟩) hS0 ?_
                        case y25 =>
                          intro u hu
                          try dsimp only at hu
                          go_split_ands
                          go_simp
                          try with_reducible rfl
                        simp only [Act.put, List.setIfInBounds_toArray, List.set_cons_zero, List.set_cons_succ]
                        refine RunsZ.take 12 (i := 26) (v := ?v26) (nth_at rfl) (by kernel_rfl) (by kernel_rfl) (by kernel_rfl) (by kernel_rfl) (by kernel_rfl) (fun _ _ _ h => h) (Or.inl ⟨by rfl, ?y26⟩) hS0 ?_
                        case y26 =>
                          intro u hu
                          try dsimp only at hu
                          go_split_ands
                          go_simp
                          try with_reducible rfl
                        simp only [Act.put, List.setIfInBounds_toArray, List.set_cons_zero, List.set_cons_succ]
                        refine RunsZ.take 12 (i := 27) (v := ?v27) (nth_at rfl) (by kernel_rfl) (by kernel_rfl) (by kernel_rfl) (by kernel_rfl) (by kernel_rfl) (fun _ _ _ h => h) (Or.inl ⟨by rfl, ?y27⟩) hS0 ?_
                        case y27 =>
                          intro u hu
                          try dsimp only at hu
                          go_split_ands
                          go_simp
                          try with_reducible rfl
                        simp only [Act.put, List.setIfInBounds_toArray, List.set_cons_zero, List.set_cons_succ]
                        refine RunsZ.one (i := 28) (by kernel_rfl) (nth_at rfl) (by rfl) (fun K hK => ?_)
                        go_simp
                        have J1 := J0.less HJ.out (c)
                        simp only at J1
                        have D1 := D0.setCell (p := ⟨gl, k, none⟩) ge2 (.int .i64 (c))
                        have hS1 : (fun w' => w'.cell? ⟨b, k * 3, none⟩ = some (.int .i64 c) ∧ w'.cell? ⟨b, k * 3 + 1, none⟩ = some (.int .i64 d) ∧ w'.cell? ⟨b, k * 3 + 2, none⟩ = some (.int .i64 T)) (World.setCell u0 ⟨gl, k, none⟩ (.int .i64 (c))) := ⟨cell_off hS0.1 (by omega), cell_off hS0.2.1 (by omega), cell_off hS0.2.2 (by omega)⟩
                        refine hK.out _ _ (fun _ => hS1) ?_
                        clear hK K r1 r2 r3 f1 f2 f3
                        try simp only [Act.put, List.setIfInBounds_toArray, List.set_cons_zero, List.set_cons_succ]
                        generalize World.setCell _ _ _ = u1 at J1 D1 hS1 ⊢
                        clear J0 D0 hS0
                        have HJ1 : Hid ((ks.set k ⟨c, du, nx⟩)[k]? = some ⟨c, du, nx⟩) := List.getElem?_set_self (by rw [HLn.out]; exact hlt)
                        obtain ⟨r1, r2, r3⟩ := J1.read HJ1.out
                        simp only at r1 r2 r3
                        obtain ⟨f1, f2, f3⟩ := J1.frz k
                        refine RunsZ.take 12 (i := 29) (v := ?v29) (nth_at rfl) (by kernel_rfl) (by kernel_rfl) (by kernel_rfl) (by kernel_rfl) (by kernel_rfl) (fun _ _ _ h => h) (Or.inl ⟨by rfl, ?y29⟩) hS1 ?_
                        case y29 =>
                          intro u hu
                          try dsimp only at hu
                          go_split_ands
                          go_simp
                          try with_reducible rfl
                        simp only [Act.put, List.setIfInBounds_toArray, List.set_cons_zero, List.set_cons_succ]
                        refine RunsZ.one (i := 30) (by kernel_rfl) (nth_at rfl) (by rfl) (fun K hK => ?_)
                        go_simp
                        have J2 := J1.dues HJ1.out ((τ : Int) + d)
                        simp only [List.set_set] at J2
                        have D2 := D1.setCell (p := ⟨gd, k, none⟩) ge3 (.int .i64 ((τ : Int) + d))
                        have hS2 : (fun w' => w'.cell? ⟨b, k * 3, none⟩ = some (.int .i64 c) ∧ w'.cell? ⟨b, k * 3 + 1, none⟩ = some (.int .i64 d) ∧ w'.cell? ⟨b, k * 3 + 2, none⟩ = some (.int .i64 T)) (World.setCell u1 ⟨gd, k, none⟩ (.int .i64 ((τ : Int) + d))) := ⟨cell_off hS1.1 (by omega), cell_off hS1.2.1 (by omega), cell_off hS1.2.2 (by omega)⟩
                        refine hK.out _ _ (fun _ => hS2) ?_
                        clear hK K r1 r2 r3 f1 f2 f3
                        try simp only [Act.put, List.setIfInBounds_toArray, List.set_cons_zero, List.set_cons_succ]
                        generalize World.setCell _ _ _ = u2 at J2 D2 hS2 ⊢
                        clear J1 D1 hS1
                        have HJ2 : Hid ((ks.set k ⟨c, τ + d, nx⟩)[k]? = some ⟨c, τ + d, nx⟩) := List.getElem?_set_self (by rw [HLn.out]; exact hlt)
                        obtain ⟨r1, r2, r3⟩ := J2.read HJ2.out
                        simp only at r1 r2 r3
                        obtain ⟨f1, f2, f3⟩ := J2.frz k
                        refine RunsZ.take 12 (i := 31) (v := ?v31) (nth_at rfl) (by kernel_rfl) (by kernel_rfl) (by kernel_rfl) (by kernel_rfl) (by kernel_rfl) (fun _ _ _ h => h) (Or.inl ⟨by rfl, ?y31⟩) hS2 ?_
                        case y31 =>
                          intro u hu
                          try dsimp only at hu
                          go_split_ands
                          go_simp
                          try with_reducible rfl
                        simp only [Act.put, List.setIfInBounds_toArray, List.set_cons_zero, List.set_cons_succ]
                        refine RunsZ.one (i := 32) (by kernel_rfl) (nth_at rfl) (by rfl) (fun K hK => ?_)
                        go_simp
                        have J3 := J2.nexts HJ2.out ((τ : Int) + T + gp)
                        simp only [List.set_set] at J3
                        have D3 := D2.setCell (p := ⟨gn, k, none⟩) ge1 (.int .i64 ((τ : Int) + T + gp))
                        have hS3 : (fun w' => w'.cell? ⟨b, k * 3, none⟩ = some (.int .i64 c) ∧ w'.cell? ⟨b, k * 3 + 1, none⟩ = some (.int .i64 d) ∧ w'.cell? ⟨b, k * 3 + 2, none⟩ = some (.int .i64 T)) (World.setCell u2 ⟨gn, k, none⟩ (.int .i64 ((τ : Int) + T + gp))) := ⟨cell_off hS2.1 (by omega), cell_off hS2.2.1 (by omega), cell_off hS2.2.2 (by omega)⟩
                        refine hK.out _ _ (fun _ => hS3) ?_
                        clear hK K r1 r2 r3 f1 f2 f3
                        try simp only [Act.put, List.setIfInBounds_toArray, List.set_cons_zero, List.set_cons_succ]
                        generalize World.setCell _ _ _ = u3 at J3 D3 hS3 ⊢
                        clear J2 D2 hS2
                        refine RunsZ.done (by kernel_rfl) (NoPanic.normal ?_)
                        go_wp2_with fail
                        go_meet
                        exact ⟨γ2 + 1, ks.set k ⟨c, τ + d, τ + T + gp⟩, by omega, by go_num, Stt.renew hT.out HF.out HX.out HJ.out H0.out.1 H0.out.2 gp0 gp1 (by omega) (by omega) J3 D3, hB.out.set _⟩
                  case rest =>
                    obtain ⟨γ3, qs, k4, rfl, hU, hC⟩ := hcut
                    rename World => u9
                    clear x1 x2 x3
                    have hL := hU.out.good.len
                    rw [C3.out.len] at hL
                    have HL2 : Hid (qs.length = n) := hL
                    clear hL
                    obtain ⟨⟨lz, dz, nz⟩, hj⟩ : ∃ x, qs[k]? = some x := ⟨_, List.getElem?_eq_getElem (by rw [HL2.out]; exact hlt)⟩
                    have HZ : Hid (qs[k]? = some ⟨lz, dz, nz⟩) := hj
                    have hk := hU.out.good.ok _ (List.mem_of_getElem? hj)
                    unfold JOk at hk
                    simp only at hk
                    obtain ⟨⟨z1, z2⟩, ⟨z3, z4⟩, z5, z6⟩ := hk
                    obtain ⟨x1, x2, x3⟩ := hU.out.jbs.read hj
                    simp only at x1 x2 x3
                    clear hj
                    by_cases h0 : 0 < lz
                    · have e0 : decide (0 < lz) = true := by simp [h0]
                      rcases hC.out with ⟨hb, -⟩ | ⟨m, y, hm, hb, hy, hp, hmin⟩
                      · subst hb
                        go_upto_region 24 with fail
                        go_big_quiet (fail)
                        go_wp2_with fail
                        go_roundg (n - (k + 1))
                        case measure => omega
                        case rel => exact ⟨k + 1, γ3, k, qs, by omega, by omega, by omega, rfl, rfl, by go_num, hU.out.below (by first | exact bdrew _ | exact bdrewN _ _), hC.out.first HZ.out h0⟩
                      · subst hb
                        have HM : Hid (qs[m]? = some y ∧ 0 < y.left ∧ ∀ (j : Nat) x, j < k → qs[j]? = some x → 0 < x.left → y.due ≤ x.due) := ⟨hy, hp, hmin⟩
                        obtain ⟨-, w2, -⟩ := hU.out.jbs.read hy
                        have m0 : (0 : Int) ≤ (m : Int) := by omega
                        have m1 : (m : Int) < (n : Int) := by omega
                        have m2 : decide ((m : Int) < 0) = false := by simp
                        obtain ⟨ym, hym⟩ : ∃ d, y.due = d := ⟨_, rfl⟩
                        rw [hym] at w2
                        have HY : Hid (y.due = ym) := hym
                        clear hy hp hmin hym
                        by_cases hd : dz < ym
                        · have e1 : decide (dz < ym) = true := by simp [hd]
                          go_upto_region 24 with fail
                          go_big_quiet (fail)
                          go_wp2_with fail
                          go_roundg (n - (k + 1))
                          case measure => omega
                          case rel => exact ⟨k + 1, γ3, k, qs, by omega, by omega, by omega, rfl, rfl, by go_num, hU.out.below (by first | exact bdrew _ | exact bdrewN _ _), Best.near HM.out.2.2 HZ.out h0 (by rw [HY.out]; exact hd)⟩
                        · have e1 : decide (dz < ym) = false := by simp; omega
                          go_upto_region 24 with fail
                          go_big_quiet (fail)
                          go_wp2_with fail
                          go_roundg (n - (k + 1))
                          case measure => omega
                          case rel => exact ⟨k + 1, γ3, m, qs, by omega, by omega, by omega, rfl, rfl, by go_num, hU.out.below (by first | exact bdrew _ | exact bdrewN _ _), Best.far hm HM.out.1 HM.out.2.1 HM.out.2.2 HZ.out (by rw [HY.out]; show ¬ dz < ym; omega)⟩
                    · have e0 : decide (0 < lz) = false := by simp; omega
                      have HK0 : Hid (lz = 0) := by show lz = 0; omega
                      go_upto_region 24 with fail
                      go_big_quiet (fail)
                      go_wp2_with fail
                      go_roundg (n - (k + 1))
                      case measure => omega
                      case rel => exact ⟨k + 1, γ3, β, qs, by omega, by omega, by omega, rfl, rfl, by go_num, hU.out.below (by first | exact bdrew _ | exact bdrewN _ _), hC.out.skip HZ.out HK0.out⟩
            · obtain rfl : k = n := by omega
              rcases hB.out.all HLn.out with ⟨hb, h0⟩ | ⟨m, y, hm, hb, hy, hp, hmin⟩
              · subst hb
                have S2 : Hid (Stt v3 gn gl gd l ks ((τ : Int) + 1) wr) := hT.out.idle HF.out h0
                clear h0
                go_wp2_with fail
                go_roundg (600 - (τ + 1))
                case measure => omega
                case rel =>
                  have eT : ((τ + 1 : Nat) : Int) = (τ : Int) + 1 := by omega
                  exact ⟨τ + 1, γ2, ks, by omega, by omega, by omega, rfl, by go_num, by rw [eT]; exact S2.out⟩
              · subst hb
                obtain ⟨⟨lf, du, nx⟩, hyy⟩ : ∃ z, y = z := ⟨_, rfl⟩
                subst hyy
                simp only at hp hmin
                have S2 : Hid (Stt v3 gn gl gd l (ks.set m ⟨lf - 1, du, nx⟩) ((τ : Int) + 1) (wr.setCell ⟨gl, m, none⟩ (.int .i64 (lf - 1)))) := hT.out.run HF.out hy hp hmin
                have hk := hT.out.good.ok _ (List.mem_of_getElem? hy)
                unfold JOk at hk
                simp only at hk
                obtain ⟨⟨j1, j2⟩, -⟩ := hk
                obtain ⟨x1, x2, x3⟩ := hT.out.jbs.read hy
                simp only at x1
                obtain ⟨f1, -, -⟩ := hT.out.jbs.frz m
                have hw : IntKind.i64.wrap (lf - 1) = lf - 1 := IntWalk.i64_in _ (by omega)
                have m0 : (0 : Int) ≤ (m : Int) := by omega
                have m1 : (m : Int) < (k : Int) := by omega
                clear hy hmin x2 x3
                go_wp2_with fail
                go_roundg (600 - (τ + 1))
                case measure => omega
                case rel =>
                  have eT : ((τ + 1 : Nat) : Int) = (τ : Int) + 1 := by omega
                  exact ⟨τ + 1, γ2, ks.set m ⟨lf - 1, du, nx⟩, by omega, by omega, by omega, rfl, by go_num, by rw [eT]; exact S2.out⟩
        · go_wp2_with fail
          go_ret
          exact ⟨rfl, btrans G3.out hS.out.bel⟩

set_option maxRecDepth 100000 in
theorem lifted (os : Os) (started : os.Started) (H : Type) (enc : TypeId × Value → H) :
    ReturnsInHanded {} Tryz.checked os 3 .any (fun w args => (Rows.demandRunSpec.pre enc Tryz.prog Tryz.f3 [] false w args ∧ laidMetH Tryz.prog laid5 w) ∧ sizedMet enc Tryz.prog Tryz.f3 (OpenSpec.ofChange Rows.demandRunSpec) false w args)
      (Rows.demandRunSpec.post enc Tryz.prog Tryz.f3 false true false false) := by
  refine returnsInHanded_of_change_and (C := Tryz.checked) (X := fun w _ => laidMetH Tryz.prog laid5 w) (fun _ _ _ hh h => h.of_heap hh) own started (by kernel_rfl) Tryz.func3
    (ChangeSpec.witness_shaped (enc := enc) (C := Tryz.checked) (os := os) (X := fun w _ => laidMetH Tryz.prog laid5 w) false (World.doorLaid Tryz.prog 62 os) #[.slice none 0 0, .slice none 0 0] 8 rfl (World.shaped_of_RefB (by kernel_rfl) (by kernel_rfl)) (by kernel_rfl) (by kernel_rfl) (by kernel_rfl) (door_met os _)) ?_
  intro W base args ds gs before hval0 hW _ _ hL _
  have hval : ∀ (j : Nat) t v, Tryz.f3.params[j]? = some t → args[j]? = some v → Value.okWide Tryz.prog W .any base t v := hval0
  have hW' := hW
  obtain ⟨p, q, hA0, hV, rfl, hfz, hnd⟩ := hW
  have hA : DataW.TrodAll enc Tryz.prog W 0 (fun _ => true) true Tryz.f3.params.toList args.toList ds p := hA0
  rw [Tryz.params3] at hA hval
  obtain ⟨v0, vs0, d0, ds0, p0, q0, hargs, rfl, rfl, h0, r0⟩ := trodAll_cons hA
  obtain ⟨v1, vs1, d1, ds1, p1, q1, rfl, rfl, rfl, h1, r1⟩ := trodAll_cons r0
  obtain ⟨rfl, rfl, rfl⟩ := trodAll_nil r1
  obtain rfl : args = #[v0, v1] := by cases args; simp_all
  obtain ⟨rfl, rfl⟩ := trodVars_none hV
  obtain ⟨s0, n0, m0, rfl⟩ := okWide_slice Tryz.underlying22 (hval 0 22 v0 rfl rfl)
  have k0 := h0
  have lt0 : ∀ x ∈ p0, x.block < W.heap.size := by obtain ⟨m, hm⟩ := k0; exact DataW.trod_lt m _ _ _ hm
  obtain ⟨z0, w0⟩ := (by obtain ⟨fuel, hf⟩ := h0; exact open_loads hf : ∃ zs, ALds W s0 n0 m0 zs)
  obtain ⟨s1, n1, m1, rfl⟩ := okWide_slice Tryz.underlying23 (hval 1 23 v1 rfl rfl)
  have k1 := h1
  have lt1 : ∀ x ∈ p1, x.block < W.heap.size := by obtain ⟨m, hm⟩ := k1; exact DataW.trod_lt m _ _ _ hm
  obtain ⟨z1, w1⟩ := (by obtain ⟨fuel, hf⟩ := h1; exact open_nums hf : ∃ zs, ANums W s1 n1 zs)
  clear hA0 hval0
  simp only [List.append_nil] at hW'
  refine (walk s0 n0 m0 z0 s1 n1 m1 z1 W (env_of_laid hL) w0 w1).mono fun e W' ⟨he, bel⟩ => ?_
  subst he
  exact ⟨_, rfl, _, _, _, [], _, [], hW', trodAll_mk1 (shut_bool Tryz.underlying4 _), (trodAll_cons_mk (Below.trod laidOut (by kernel_rfl) (of_decide_eq_true (by kernel_rfl)) k0 bel lt0) (trodAll_cons_mk (Below.trod laidOut (by kernel_rfl) (of_decide_eq_true (by kernel_rfl)) k1 bel lt1) trodAll_mk0)), rfl, bel.frame _, fun h => by cases h⟩

theorem closed : joinedFacts Tryz.pinned.checked.prog 3 Tryz.f3 Rows.demandRunSpec Rows.demandRunRow = true := by
  generalize hP : Tryz.pinned.checked.prog = P
  simp only [joinedFacts, Bool.and_eq_true]
  subst hP
  refine ⟨⟨⟨⟨⟨⟨⟨⟨⟨⟨⟨⟨⟨⟨⟨⟨⟨⟨⟨⟨⟨⟨⟨⟨⟨⟨⟨⟨⟨⟨⟨?k1, ?k2⟩, ?k3⟩, ?k4⟩, ?k5⟩, ?k6⟩, ?k7⟩, ?k8⟩, ?k9⟩, ?k10⟩, ?k11⟩, ?k12⟩, ?k13⟩, ?k14⟩, ?k15⟩, ?k16⟩, ?k17⟩, ?k18⟩, ?k19⟩, ?k20⟩, ?k21⟩, ?k22⟩, ?k23⟩, ?k24⟩, ?k25⟩, ?k26⟩, ?k27⟩, ?k28⟩, ?k29⟩, ?k30⟩, ?k31⟩, ?k32⟩
  case k26 => exact head_enter
  case k27 => show (false == Tryz.prog.liftsFinal) = true; rw [head_lifts]; rfl
  case k28 => exact head_make
  all_goals kernel_rfl
theorem over : Rows.demandRunRow.holds Tryz.pinned (OpenSpec.ofChange Rows.demandRunSpec) :=
  OpenClaim.holds_of_wide 3 Tryz.f3 rfl rfl rfl rfl rfl rfl rfl ⟨rfl, rfl, rfl, rfl, rfl⟩ rfl rfl rfl rfl rfl (by kernel_rfl) Tryz.func3 closed
    (of_decide_eq_true (by kernel_rfl)) (by unfold Func.isWrapper; first | (rw [if_pos (by decide +kernel)]; kernel_rfl) | (rw [if_neg (by decide +kernel)]; exact ⟨rfl, rfl⟩))
    (fun os started H enc _ => lifted os started H enc)

theorem proved : Rows.DemandRunCardSaid :=
  Claim7.holds_tied_plain_at .later [] [.data, .data, .data, .sentinel, .sentinel] true (true, "fa9289e13e59366449243ffa297c8b0347b0cc37cc085c1531cc63732efd4c28") true
    over (fun _ h => by cases h) (by kernel_rfl) (fun _ h => by cases h) demandRun_row_tie rfl ⟨rfl, rfl⟩ head_main rfl
    (fun f fn hf hfn => by
      obtain rfl : f = 3 := Option.some.inj ((show Tryz.prog.funcNamed "hortator/hortatorlaw9.DemandRun" = some 3 by kernel_rfl).symm.trans hf) |>.symm
      obtain rfl : fn = Tryz.f3 := (Option.some.inj (Tryz.func3.symm.trans hfn)).symm
      exact ⟨by kernel_rfl, fun j t ht => by
        rw [Tryz.params3] at ht
        match j, ht with
        | 0, ht => obtain rfl : t = 22 := by simpa using ht.symm
                   exact (show Tryz.prog.wantsStandIn 22 = false by kernel_rfl)
        | 1, ht => obtain rfl : t = 23 := by simpa using ht.symm
                   exact (show Tryz.prog.wantsStandIn 23 = false by kernel_rfl)
        | (_ + 2), ht => simp at ht⟩)
    (by kernel_rfl)
end Go.Proofs.YtcgmbfpmcldfdaaGreatDoor.demandRun
