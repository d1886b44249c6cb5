/-
PROVED: the statement hortatorlaw12.WaitAlone answers true over the landed packages: who is alone waits for words on their way, and for itself.
  CONDITIONS: the listed variables of strconv and math/bits hold what the program's text lays (the card ties them).
-/
import Derived.Test.YtakdliecjfeedaaGreatDoorRows
import Derived.Test.YtakdliecjfeedaaGreatDoorTie
import Derived.Test.YtakdliecjfeedaaGreatDoorCards
import Derived.WalkKit
import Derived.ProofKit
import Derived.OpenShut
import Derived.ShutString
import Derived.ChangeOld
import Derived.Below
import Derived.SevenTiedAt
import Derived.Test.YtakdliecjfeedaaGreatDoorLaid
import Derived.Test.YtakdliecjfeedaaGreatDoorHead
import Derived.Carry
import Derived.Deep.Cut
import Derived.Deep.CutRange
import Derived.Deep.RegionWith
import Derived.Deep.RegionHeld3
import Derived.Deep.LoopGhost
import Derived.Deep.QuietTactic
import Derived.BigQuiet
import Derived.Test.YtakdliecjfeedaaGreatDoorOpen12
import Derived.Test.YtakdliecjfeedaaGreatDoorBegun12
namespace Go.Proofs.YtakdliecjfeedaaGreatDoor.waitAlone
open Go.ChangeShapes Go.WideShapes Go.ChangeAt Go.RowKit
open Go.ChangeMaps (open_string shut_string)
set_option linter.unusedVariables false

theorem own : ownKnob Tryz.prog.godebug = none := by kernel_rfl
theorem laidOut : laidOutB Tryz.prog = true := by kernel_rfl

set_option maxHeartbeats 8000000 in
set_option maxRecDepth 100000 in
theorem walk (co0 sy0 la0 mo0 : Int) (s0 : Option Addr) (n0 m0 : Nat) (z0 : List Int) (s1 : Option Addr) (n1 m1 : Nat) (z1 : List TI) (w : World) (hE : Env w) (w0 : AInts w s0 n0 m0 z0) (x00 : (Lit.int .i64 co0).wf = true) (x01 : (Lit.int .i64 sy0).wf = true) (x02 : (Lit.int .i64 la0).wf = true) (x03 : (Lit.int .i64 mo0).wf = true) (w1 : ATsks w s1 n1 m1 z1) :
    Calls Tryz.prog 7 #[.agg #[.int .i64 co0, .int .i64 sy0, .int .i64 la0, .int .i64 mo0, .slice s0 n0 m0], .slice s1 n1 m1] w fun e w' => e = .returned (.bool true) ∧ Below w.heap.size w w' := by
  have HE : Hid (Env w) := hE
  have AC : Hid (AInts w s0 n0 m0 z0) := w0
  have AT : Hid (ATsks w s1 n1 m1 z1) := w1
  clear hE w0 w1
  have BW : Hid (Below w.heap.size w (w.alloc (.cells #[.int .i64 co0, .int .i64 sy0, .int .i64 la0, .int .i64 mo0, .slice s0 n0 m0] 24))) := balloc _ _
  have bc : Blk (w.alloc (.cells #[.int .i64 co0, .int .i64 sy0, .int .i64 la0, .int .i64 mo0, .slice s0 n0 m0] 24)) w.heap.size #[.int .i64 co0, .int .i64 sy0, .int .i64 la0, .int .i64 mo0, .slice s0 n0 m0] 24 := heap_alloc_new _ _
  go_enter Tryz.func7, Tryz.ntmps7
  go_wp2_with fail
  generalize hW : w.alloc _ = W at BW bc ⊢
  clear hW
  refine (begun12_any W (HE.out.below BW.out)).mono ?_
  rintro e v1 ⟨rfl, g1⟩
  have G1 : Hid (Below w.heap.size w v1) := btrans BW.out g1
  have bc1 := bc.below g1
  clear g1 bc
  have c0 := bc1.cell 0
  have fc0 := bc1.frozen 0
  have c1 := bc1.cell 1
  have fc1 := bc1.frozen 1
  have c2 := bc1.cell 2
  have fc2 := bc1.frozen 2
  have c3 := bc1.cell 3
  have fc3 := bc1.frozen 3
  have c4 := bc1.cell 4
  have fc4 := bc1.frozen 4
  simp at c0 c1 c2 c3 c4
  go_wp2_with fail
  refine (cfg12_any co0 sy0 la0 mo0 s0 n0 m0 z0 v1 (AC.out.below G1.out)).mono ?_
  rintro e v2 ⟨co, sy, la, mo, ad, n, k, res, rfl, hcf, hrn, own2, g2⟩
  have hv1 := bc1.lt
  have G2 := btrans G1.out g2
  have bc2 := bc1.below g2
  clear c0 fc0 c1 fc1 c2 fc2 c3 fc3 c4 fc4 bc1 g2
  have c0 := bc2.cell 0
  have fc0 := bc2.frozen 0
  have c1 := bc2.cell 1
  have fc1 := bc2.frozen 1
  have c2 := bc2.cell 2
  have fc2 := bc2.frozen 2
  have c3 := bc2.cell 3
  have fc3 := bc2.frozen 3
  have c4 := bc2.cell 4
  have fc4 := bc2.frozen 4
  simp at c0 c1 c2 c3 c4
  have bc3 := set5_box bc2 (.int .i64 co) (.int .i64 sy) (.int .i64 la) (.int .i64 mo) (.slice ad n k)
  have o5 := only5 v2 w.heap.size (.int .i64 co) (.int .i64 sy) (.int .i64 la) (.int .i64 mo) (.slice ad n k)
  have own3 := own_off own2 o5 (fun j hj => by have := (own2.lt j hj).1; simp; omega)
  have G3 := set5_bel G2 (Nat.le_refl _) (.int .i64 co) (.int .i64 sy) (.int .i64 la) (.int .i64 mo) (.slice ad n k)
  go_wp2_with fail
  generalize hZ : World.setCell _ _ _ = v3 at bc3 own3 G3 ⊢
  clear hZ o5 own2 G2 bc2 hv1 c0 fc0 c1 fc1 c2 fc2 c3 fc3 c4 fc4
  have HI3 : Hid (Ints v3 (.slice ad n k) res) := own_ints (by rw [hrn]; exact own3)
  have hv3 := bc3.lt
  have HG3 : Hid (Below w.heap.size w v3) := G3
  have HB3 : Hid (Blk v3 w.heap.size #[.int .i64 co, .int .i64 sy, .int .i64 la, .int .i64 mo, .slice ad n k] 24) := bc3
  clear own3 bc3 G3
  refine (tsk12_any co sy la mo ad n k s1 n1 m1 z1 v3 (AT.out.below HG3.out)).mono ?_
  rintro e v4 ⟨b, q, kb, l, rfl, hlq, q12, hall, ot, g4⟩
  have KN : Hid (Kn12 co sy la mo n res q l) := ⟨hcf, hrn, hlq, q12, hall⟩
  have O4 : Hid (Op12 w co sy la mo ad n k res b q kb l v4) := ⟨HB3.out.below g4, HI3.out.below g4, ot.mono (by omega), btrans HG3.out g4⟩
  clear hcf hrn hlq hall ot g4 HI3 HG3 HB3 G1 BW HE AC AT hv3
  go_wp2_with fail
  go_loopg [7] q (fun gk i2 wr => ∃ i : Nat, gk + i = q ∧ i2 = .int .i64 i ∧ Hid (Op12 w co sy la mo ad n k res b q kb l wr))
  case atStart => exact ⟨0, by omega, rfl, O4.out⟩
  case round =>
    obtain ⟨i, k1, rfl, hO⟩ := hrel
    by_cases hlt : i < q
    · obtain ⟨g, eg, qk, kbm, -⟩ := hO.out.own.at (by omega)
      subst eg
      have P0 : Hid (Op12 w co sy la mo ad n k res (some ⟨g, 0, none⟩) q kb l wr) := hO.out
      clear hO O4
      obtain ⟨⟨c, d, t, u, m⟩, hx⟩ : ∃ x, l[i]? = some x := ⟨_, List.getElem?_eq_getElem (by rw [KN.out.lq]; exact hlt)⟩
      have hu := (P0.out.cells hx).2
      obtain ⟨a5, cap5, e5⟩ := hu.form
      simp only at e5
      subst e5
      have HX : Hid (l[i]? = some ⟨c, d, t, .slice a5 m.length cap5, m⟩) := hx
      have hts := tv_secs (KN.out.allr _ (List.mem_of_getElem? hx))
      obtain ⟨M, hM⟩ : ∃ M, m.length = M := ⟨_, rfl⟩
      have HM : Hid (m.length = M) := hM
      have hM2 : M ≤ 2 := by have := hts.1; simp only at this; omega
      have HU : Hid (∀ k, 0 ≤ wSum la res [⟨c, d, t, .slice a5 m.length cap5, m⟩] 0 k ∧ wSum la res [⟨c, d, t, .slice a5 m.length cap5, m⟩] 0 k ≤ 200210 * k) := wSum_bd KN.out.lag.1 KN.out.lag.2 (by simp) (fun x hx s hs => by simp at hx; subst hx; exact (hts.2 s hs).2) 0
      have HLn : Hid (∀ s ∈ m, 1 ≤ s.len ∧ s.len ≤ 200) := fun s hs => (hts.2 s hs).2
      obtain ⟨la0, la1⟩ := KN.out.lag
      clear hx hu hts hM
      have q0 : (0 : Int) ≤ (i : Int) := by omega
      have q1 : (i : Int) < (q : Int) := by omega
      have q2 : (i : Int) + 1 ≤ (q : Int) := by omega
      have q3 : (q : Int) ≤ (kb : Int) := by omega
      have q4 : (i : Int) ≤ (i : Int) + 1 := by omega
      have q5 : (i : Int) + 1 ≤ (kb : Int) := by omega
      have q6 : ¬ kb = i := by omega
      have q7 : IntKind.i64.wrap ((i : Int) + 1) = (i : Int) + 1 := IntWalk.i64_in _ (by omega)
      have q8 : (0 : Int) ≤ (i : Int) + 1 := by omega
      have iq : (i : Int) < (q : Int) := q1
      go_wp2_with fail
      go_loopg [8, 9] M (fun gk nn s2 wr => ∃ s : Nat, gk + s = M ∧ s2 = .int .i64 s ∧ nn = .int .i64 (wSum la res [⟨c, d, t, .slice a5 m.length cap5, m⟩] 0 s) ∧ Hid (Op12 w co sy la mo ad n k res (some ⟨g, 0, none⟩) q kb l wr))
      case atStart => exact ⟨0, by omega, rfl, rfl, P0.out⟩
      case round =>
        obtain ⟨s, k2, rfl, rfl, hP⟩ := hrel
        have P1 : Hid (Op12 w co sy la mo ad n k res (some ⟨g, 0, none⟩) q kb l wr) := hP.out
        clear hP
        have y4 := (P1.out.cells HX.out).1.2.2.2
        simp only at y4
        rw [HM.out] at y4
        obtain ⟨p1, p2⟩ := HU.out s
        by_cases hsl : s < M
        · obtain ⟨⟨rr, pp, ln⟩, hy⟩ : ∃ x, m[s]? = some x := ⟨_, List.getElem?_eq_getElem (by rw [HM.out]; exact hsl)⟩
          have HY : Hid (m[s]? = some ⟨rr, pp, ln⟩) := hy
          have hln := HLn.out _ (List.mem_of_getElem? hy)
          simp only at hln
          obtain ⟨ln0, ln1⟩ := hln
          have HV : Hid (secV la res [⟨c, d, t, .slice a5 m.length cap5, m⟩] 0 s = 2 * la + ln) := alone_sec (X := ⟨c, d, t, .slice a5 m.length cap5, m⟩) hy
          have HSS : Hid (wSum la res [⟨c, d, t, .slice a5 m.length cap5, m⟩] 0 (s + 1) = wSum la res [⟨c, d, t, .slice a5 m.length cap5, m⟩] 0 s + (2 * la + ln)) := by show _ = _; rw [← HV.out]; rfl
          clear hy
          obtain ⟨Z, hZ⟩ : ∃ Z, wSum la res [⟨c, d, t, .slice a5 m.length cap5, m⟩] 0 s = Z := ⟨_, rfl⟩
          have HZ : Hid (wSum la res [⟨c, d, t, .slice a5 m.length cap5, m⟩] 0 s = Z) := hZ
          rw [hZ] at p1 p2 ⊢
          clear hZ
          have W1 : IntKind.i64.wrap (2 * la) = 2 * la := IntWalk.i64_in _ (by omega)
          have W2 : IntKind.i64.wrap (2 * la + ln) = 2 * la + ln := IntWalk.i64_in _ (by omega)
          have W3 : IntKind.i64.wrap (Z + (2 * la + ln)) = Z + (2 * la + ln) := IntWalk.i64_in _ (by omega)
          have s0 : (0 : Int) ≤ (s : Int) := by omega
          have s1 : (s : Int) < (M : Int) := by omega
          have c0 : wr.cell? ⟨w.heap.size, 0, none⟩ = some (.int .i64 co) := P1.out.bc.cell 0
          have c1 : wr.cell? ⟨w.heap.size, 1, none⟩ = some (.int .i64 sy) := P1.out.bc.cell 1
          have c2 : wr.cell? ⟨w.heap.size, 2, none⟩ = some (.int .i64 la) := P1.out.bc.cell 2
          have c3 : wr.cell? ⟨w.heap.size, 3, none⟩ = some (.int .i64 mo) := P1.out.bc.cell 3
          have c4 : wr.cell? ⟨w.heap.size, 4, none⟩ = some (.slice ad n k) := P1.out.bc.cell 4
          go_wp2_with fail
          go_region_held3 (fun w' => w'.cell? ⟨w.heap.size, 0, none⟩ = some (.int .i64 co) ∧ w'.cell? ⟨w.heap.size, 1, none⟩ = some (.int .i64 sy) ∧ w'.cell? ⟨w.heap.size, 2, none⟩ = some (.int .i64 la) ∧ w'.cell? ⟨w.heap.size, 3, none⟩ = some (.int .i64 mo) ∧ w'.cell? ⟨w.heap.size, 4, none⟩ = some (.slice ad n k)) (first | exact ⟨c0, c1, c2, c3, c4⟩ | exact ⟨d0, d1, d2, d3, d4⟩ | go_keep) (first | (go_at_call 14; refine (wSec1_at KN.out (by first | exact P1.out | exact P1.out.drew) HX.out _ (s : Int) (2 * la + ln) HV.out).mono ?_; rintro e x2 ⟨rfl, gg⟩; have P2 : Hid (Op12 w co sy la mo ad n k res (some ⟨g, 0, none⟩) q kb l x2) := (by first | exact P1.out.below gg | exact P1.out.drew.below gg); have d0 : x2.cell? ⟨w.heap.size, 0, none⟩ = some (.int .i64 co) := P2.out.bc.cell 0; have d1 : x2.cell? ⟨w.heap.size, 1, none⟩ = some (.int .i64 sy) := P2.out.bc.cell 1; have d2 : x2.cell? ⟨w.heap.size, 2, none⟩ = some (.int .i64 la) := P2.out.bc.cell 2; have d3 : x2.cell? ⟨w.heap.size, 3, none⟩ = some (.int .i64 mo) := P2.out.bc.cell 3; have d4 : x2.cell? ⟨w.heap.size, 4, none⟩ = some (.slice ad n k) := P2.out.bc.cell 4; clear gg))
          clear c0 c1 c2 c3 c4 y4
          all_goals
            have y4 := (P2.out.cells HX.out).1.2.2.2
            simp only at y4
            rw [HM.out] at y4
            obtain ⟨b2, e2, hb2, z1, z2, z3⟩ := secs_at (P2.out.cells HX.out).2 HY.out
            subst e2
            simp only at z1 z2 z3
            go_wp2_with fail
            go_big_quiet (fail)
            go_wp2_with fail
            go_roundg (M - (s + 1))
            case measure => omega
            case rel => exact ⟨s + 1, by omega, by go_num, by rw [HSS.out, HZ.out], P2.out.below (by first | exact bdrew _ | exact bdrewN _ _)⟩
        · obtain rfl : s = M := by omega
          have HW : Hid (waitV la res [⟨c, d, t, .slice a5 m.length cap5, m⟩] 0 = wSum la res [⟨c, d, t, .slice a5 m.length cap5, m⟩] 0 s) := (alone_wait (la := la) (res := res) (X := ⟨c, d, t, .slice a5 m.length cap5, m⟩)).trans (congrArg (wSum la res [⟨c, d, t, .slice a5 m.length cap5, m⟩] 0) HM.out)
          obtain ⟨Z, hZ⟩ : ∃ Z, wSum la res [⟨c, d, t, .slice a5 m.length cap5, m⟩] 0 s = Z := ⟨_, rfl⟩
          rw [hZ] at p1 p2 HW ⊢
          clear hZ
          have HZ1 : Hid (waitV la res l (q : Int) = 0) := waitV_no (.inr (by rw [KN.out.lq]; omega))
          have HZ2 : Hid (secV la res l (i : Int) (s : Int) = 0) := secV_no fun p r x y e1 e2 e3 e4 => by
            have : p = i := by omega
            subst this
            rw [HX.out] at e3
            cases e3
            have h1 := (List.getElem?_eq_some_iff.1 e4).1
            have h2 := HM.out
            simp only at h1
            omega
          have c0 : wr.cell? ⟨w.heap.size, 0, none⟩ = some (.int .i64 co) := P1.out.bc.cell 0
          have c1 : wr.cell? ⟨w.heap.size, 1, none⟩ = some (.int .i64 sy) := P1.out.bc.cell 1
          have c2 : wr.cell? ⟨w.heap.size, 2, none⟩ = some (.int .i64 la) := P1.out.bc.cell 2
          have c3 : wr.cell? ⟨w.heap.size, 3, none⟩ = some (.int .i64 mo) := P1.out.bc.cell 3
          have c4 : wr.cell? ⟨w.heap.size, 4, none⟩ = some (.slice ad n k) := P1.out.bc.cell 4
          go_wp2_with fail
          go_region_held3 (fun w' => w'.cell? ⟨w.heap.size, 0, none⟩ = some (.int .i64 co) ∧ w'.cell? ⟨w.heap.size, 1, none⟩ = some (.int .i64 sy) ∧ w'.cell? ⟨w.heap.size, 2, none⟩ = some (.int .i64 la) ∧ w'.cell? ⟨w.heap.size, 3, none⟩ = some (.int .i64 mo) ∧ w'.cell? ⟨w.heap.size, 4, none⟩ = some (.slice ad n k) ∧ w'.cell? ⟨g, i * 4 + 3, none⟩ = some (.slice a5 s cap5)) (first | exact ⟨c0, c1, c2, c3, c4, y4⟩ | exact ⟨d0, d1, d2, d3, d4, d4b⟩ | exact ⟨e0, e1, e2, e3, e4, e4b⟩ | exact ⟨h0, h1, h2, h3, h4, h4b⟩ | go_keep) (first | (go_at_call_of 16 (Value.slice (some ⟨g, i * 4, none⟩) 1 (kb - i)); refine (wTask1_at KN.out (by first | exact P1.out | exact P1.out.drew) HX.out _ Z HW.out).mono ?_; rintro e x2 ⟨rfl, gg⟩; have P2 : Hid (Op12 w co sy la mo ad n k res (some ⟨g, 0, none⟩) q kb l x2) := (by first | exact P1.out.below gg | exact P1.out.drew.below gg); have d0 : x2.cell? ⟨w.heap.size, 0, none⟩ = some (.int .i64 co) := P2.out.bc.cell 0; have d1 : x2.cell? ⟨w.heap.size, 1, none⟩ = some (.int .i64 sy) := P2.out.bc.cell 1; have d2 : x2.cell? ⟨w.heap.size, 2, none⟩ = some (.int .i64 la) := P2.out.bc.cell 2; have d3 : x2.cell? ⟨w.heap.size, 3, none⟩ = some (.int .i64 mo) := P2.out.bc.cell 3; have d4 : x2.cell? ⟨w.heap.size, 4, none⟩ = some (.slice ad n k) := P2.out.bc.cell 4; have d4b := (P2.out.cells HX.out).1.2.2.2; simp only at d4b; rw [HM.out] at d4b; clear gg) | (go_at_call_of 16 (Value.slice (some ⟨g, 0, none⟩) q kb); refine (wTask_at KN.out (by first | exact P2.out | exact P2.out.drew) (q : Int) 0 HZ1.out).mono ?_; rintro e x3 ⟨rfl, gg⟩; have P3 : Hid (Op12 w co sy la mo ad n k res (some ⟨g, 0, none⟩) q kb l x3) := (by first | exact P2.out.below gg | exact P2.out.drew.below gg); have e0 : x3.cell? ⟨w.heap.size, 0, none⟩ = some (.int .i64 co) := P3.out.bc.cell 0; have e1 : x3.cell? ⟨w.heap.size, 1, none⟩ = some (.int .i64 sy) := P3.out.bc.cell 1; have e2 : x3.cell? ⟨w.heap.size, 2, none⟩ = some (.int .i64 la) := P3.out.bc.cell 2; have e3 : x3.cell? ⟨w.heap.size, 3, none⟩ = some (.int .i64 mo) := P3.out.bc.cell 3; have e4 : x3.cell? ⟨w.heap.size, 4, none⟩ = some (.slice ad n k) := P3.out.bc.cell 4; have e4b := (P3.out.cells HX.out).1.2.2.2; simp only at e4b; rw [HM.out] at e4b; clear gg) | (go_at_call 14; refine (wSec_at KN.out (by first | exact P3.out | exact P3.out.drew) (i : Int) (s : Int) 0 HZ2.out).mono ?_; rintro e x4 ⟨rfl, gg⟩; have P4 : Hid (Op12 w co sy la mo ad n k res (some ⟨g, 0, none⟩) q kb l x4) := (by first | exact P3.out.below gg | exact P3.out.drew.below gg); have h0 : x4.cell? ⟨w.heap.size, 0, none⟩ = some (.int .i64 co) := P4.out.bc.cell 0; have h1 : x4.cell? ⟨w.heap.size, 1, none⟩ = some (.int .i64 sy) := P4.out.bc.cell 1; have h2 : x4.cell? ⟨w.heap.size, 2, none⟩ = some (.int .i64 la) := P4.out.bc.cell 2; have h3 : x4.cell? ⟨w.heap.size, 3, none⟩ = some (.int .i64 mo) := P4.out.bc.cell 3; have h4 : x4.cell? ⟨w.heap.size, 4, none⟩ = some (.slice ad n k) := P4.out.bc.cell 4; have h4b := (P4.out.cells HX.out).1.2.2.2; simp only at h4b; rw [HM.out] at h4b; clear gg))
          all_goals
            go_wp2_with fail
            go_roundg (q - (i + 1))
            case measure => omega
            case rel => exact ⟨i + 1, by omega, by go_num, P4.out⟩
    · have P0 : Hid (Op12 w co sy la mo ad n k res b q kb l wr) := hO.out
      have HZ9 : Hid (waitV la res l (-1) = 0) := waitV_no (.inl (by omega))
      have c0 : wr.cell? ⟨w.heap.size, 0, none⟩ = some (.int .i64 co) := P0.out.bc.cell 0
      have c1 : wr.cell? ⟨w.heap.size, 1, none⟩ = some (.int .i64 sy) := P0.out.bc.cell 1
      have c2 : wr.cell? ⟨w.heap.size, 2, none⟩ = some (.int .i64 la) := P0.out.bc.cell 2
      have c3 : wr.cell? ⟨w.heap.size, 3, none⟩ = some (.int .i64 mo) := P0.out.bc.cell 3
      have c4 : wr.cell? ⟨w.heap.size, 4, none⟩ = some (.slice ad n k) := P0.out.bc.cell 4
      go_wp2_with fail
      refine (wTask_at KN.out P0.out (-1) 0 HZ9.out).mono ?_
      rintro e u9 ⟨rfl, g9⟩
      have P9 : Hid (Below w.heap.size w u9) := btrans P0.out.bel g9
      clear g9
      go_wp2_with fail
      go_ret
      exact ⟨rfl, P9.out⟩

set_option maxRecDepth 100000 in
theorem lifted (os : Os) (started : os.Started) (H : Type) (enc : TypeId × Value → H) :
    ReturnsInHanded {} Tryz.checked os 7 .any (fun w args => (Rows.waitAloneSpec.pre enc Tryz.prog Tryz.f7 [] false w args ∧ laidMetH Tryz.prog laid5 w) ∧ sizedMet enc Tryz.prog Tryz.f7 (OpenSpec.ofChange Rows.waitAloneSpec) false w args)
      (Rows.waitAloneSpec.post enc Tryz.prog Tryz.f7 false true false false) := by
  refine returnsInHanded_of_change_and (C := Tryz.checked) (X := fun w _ => laidMetH Tryz.prog laid5 w) (fun _ _ _ hh h => h.of_heap hh) own started (by kernel_rfl) Tryz.func7
    (ChangeSpec.witness_shaped (enc := enc) (C := Tryz.checked) (os := os) (X := fun w _ => laidMetH Tryz.prog laid5 w) false (World.doorLaid Tryz.prog 62 os) #[.agg #[.int .i64 0, .int .i64 0, .int .i64 0, .int .i64 0, .slice none 0 0], .slice none 0 0] 8 rfl (World.shaped_of_RefB (by kernel_rfl) (by kernel_rfl)) (by kernel_rfl) (by kernel_rfl) (by kernel_rfl) (door_met os _)) ?_
  intro W base args ds gs before hval0 hW _ _ hL _
  have hval : ∀ (j : Nat) t v, Tryz.f7.params[j]? = some t → args[j]? = some v → Value.okWide Tryz.prog W .any base t v := hval0
  have hW' := hW
  obtain ⟨p, q, hA0, hV, rfl, hfz, hnd⟩ := hW
  have hA : DataW.TrodAll enc Tryz.prog W 0 (fun _ => true) true Tryz.f7.params.toList args.toList ds p := hA0
  rw [Tryz.params7] at hA hval
  obtain ⟨v0, vs0, d0, ds0, p0, q0, hargs, rfl, rfl, h0, r0⟩ := trodAll_cons hA
  obtain ⟨v1, vs1, d1, ds1, p1, q1, rfl, rfl, rfl, h1, r1⟩ := trodAll_cons r0
  obtain ⟨rfl, rfl, rfl⟩ := trodAll_nil r1
  obtain rfl : args = #[v0, v1] := by cases args; simp_all
  obtain ⟨rfl, rfl⟩ := trodVars_none hV
  have k0 := h0
  have lt0 : ∀ x ∈ p0, x.block < W.heap.size := by obtain ⟨m, hm⟩ := k0; exact DataW.trod_lt m _ _ _ hm
  obtain ⟨co0, sy0, la0, mo0, s0, n0, m0, z0, rfl, w0, x00, x01, x02, x03⟩ := open_config (hval 0 24 v0 rfl rfl) h0
  obtain ⟨s1, n1, m1, rfl⟩ := okWide_slice Tryz.underlying25 (hval 1 25 v1 rfl rfl)
  have k1 := h1
  have lt1 : ∀ x ∈ p1, x.block < W.heap.size := by obtain ⟨m, hm⟩ := k1; exact DataW.trod_lt m _ _ _ hm
  obtain ⟨z1, w1⟩ := (by obtain ⟨fuel, hf⟩ := h1; exact open_tsks hf : ∃ zs, ATsks W s1 n1 m1 zs)
  clear hA0 hval0
  simp only [List.append_nil] at hW'
  refine (walk co0 sy0 la0 mo0 s0 n0 m0 z0 s1 n1 m1 z1 W (env_of_laid hL) w0 x00 x01 x02 x03 w1).mono fun e W' ⟨he, bel⟩ => ?_
  subst he
  exact ⟨_, rfl, _, _, _, [], _, [], hW', trodAll_mk1 (shut_bool Tryz.underlying4 _), (trodAll_cons_mk (Below.trod laidOut (by kernel_rfl) (of_decide_eq_true (by kernel_rfl)) k0 bel lt0) (trodAll_cons_mk (Below.trod laidOut (by kernel_rfl) (of_decide_eq_true (by kernel_rfl)) k1 bel lt1) trodAll_mk0)), rfl, bel.frame _, fun h => by cases h⟩

theorem closed : joinedFacts Tryz.pinned.checked.prog 7 Tryz.f7 Rows.waitAloneSpec Rows.waitAloneRow = true := by
  generalize hP : Tryz.pinned.checked.prog = P
  simp only [joinedFacts, Bool.and_eq_true]
  subst hP
  refine ⟨⟨⟨⟨⟨⟨⟨⟨⟨⟨⟨⟨⟨⟨⟨⟨⟨⟨⟨⟨⟨⟨⟨⟨⟨⟨⟨⟨⟨⟨⟨?k1, ?k2⟩, ?k3⟩, ?k4⟩, ?k5⟩, ?k6⟩, ?k7⟩, ?k8⟩, ?k9⟩, ?k10⟩, ?k11⟩, ?k12⟩, ?k13⟩, ?k14⟩, ?k15⟩, ?k16⟩, ?k17⟩, ?k18⟩, ?k19⟩, ?k20⟩, ?k21⟩, ?k22⟩, ?k23⟩, ?k24⟩, ?k25⟩, ?k26⟩, ?k27⟩, ?k28⟩, ?k29⟩, ?k30⟩, ?k31⟩, ?k32⟩
  case k26 => exact head_enter
  case k27 => show (false == Tryz.prog.liftsFinal) = true; rw [head_lifts]; rfl
  case k28 => exact head_make
  all_goals kernel_rfl
theorem over : Rows.waitAloneRow.holds Tryz.pinned (OpenSpec.ofChange Rows.waitAloneSpec) :=
  OpenClaim.holds_of_wide 7 Tryz.f7 rfl rfl rfl rfl rfl rfl rfl ⟨rfl, rfl, rfl, rfl, rfl⟩ rfl rfl rfl rfl rfl (by kernel_rfl) Tryz.func7 closed
    (of_decide_eq_true (by kernel_rfl)) (by unfold Func.isWrapper; first | (rw [if_pos (by decide +kernel)]; kernel_rfl) | (rw [if_neg (by decide +kernel)]; exact ⟨rfl, rfl⟩))
    (fun os started H enc _ => lifted os started H enc)

theorem proved : Rows.WaitAloneCardSaid :=
  Claim7.holds_tied_plain_at .later [] [.data, .data, .data, .sentinel, .sentinel] true (true, "4ddcd03471c152e483e2d1372070b2dd351fc06eba3ed385e3ebe4df4fc3b5c0") true
    over (fun _ h => by cases h) (by kernel_rfl) (fun _ h => by cases h) waitAlone_row_tie rfl ⟨rfl, rfl⟩ head_main rfl
    (fun f fn hf hfn => by
      obtain rfl : f = 7 := Option.some.inj ((show Tryz.prog.funcNamed "hortator/hortatorlaw12.WaitAlone" = some 7 by kernel_rfl).symm.trans hf) |>.symm
      obtain rfl : fn = Tryz.f7 := (Option.some.inj (Tryz.func7.symm.trans hfn)).symm
      exact ⟨by kernel_rfl, fun j t ht => by
        rw [Tryz.params7] at ht
        match j, ht with
        | 0, ht => obtain rfl : t = 24 := by simpa using ht.symm
                   exact (show Tryz.prog.wantsStandIn 24 = false by kernel_rfl)
        | 1, ht => obtain rfl : t = 25 := by simpa using ht.symm
                   exact (show Tryz.prog.wantsStandIn 25 = false by kernel_rfl)
        | (_ + 2), ht => simp at ht⟩)
    (by kernel_rfl)
end Go.Proofs.YtakdliecjfeedaaGreatDoor.waitAlone
