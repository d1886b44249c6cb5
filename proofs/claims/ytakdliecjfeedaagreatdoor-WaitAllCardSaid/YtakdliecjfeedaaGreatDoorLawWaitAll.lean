/-
PROVED: the statement hortatorlaw12.WaitAll answers true over the landed packages: how long requests wait at most, of any tasks.
  CONDITIONS: the listed variables of strconv and math/bits hold what the program's text lays (the card ties them).
-/
import Derived.Test.YtakdliecjfeedaaGreatDoorRows
import Derived.Test.YtakdliecjfeedaaGreatDoorTie
import Derived.Test.YtakdliecjfeedaaGreatDoorCards
import Derived.WalkKit
import Derived.ProofKit
import Derived.OpenShut
import Derived.ShutString
import Derived.ChangeOld
import Derived.Below
import Derived.SevenTiedAt
import Derived.Test.YtakdliecjfeedaaGreatDoorLaid
import Derived.Test.YtakdliecjfeedaaGreatDoorHead
import Derived.Carry
import Derived.Deep.Cut
import Derived.Deep.CutRange
import Derived.Deep.RegionWith
import Derived.Deep.RegionHeld3
import Derived.Deep.LoopGhost
import Derived.Deep.QuietTactic
import Derived.BigQuiet
import Derived.Test.YtakdliecjfeedaaGreatDoorOpen12
import Derived.Test.YtakdliecjfeedaaGreatDoorBegun12
namespace Go.Proofs.YtakdliecjfeedaaGreatDoor.waitAll
open Go.ChangeShapes Go.WideShapes Go.ChangeAt Go.RowKit
open Go.ChangeMaps (open_string shut_string)
set_option linter.unusedVariables false

theorem own : ownKnob Tryz.prog.godebug = none := by kernel_rfl
theorem laidOut : laidOutB Tryz.prog = true := by kernel_rfl

set_option maxHeartbeats 8000000 in
set_option maxRecDepth 100000 in
theorem walk (co0 sy0 la0 mo0 : Int) (s0 : Option Addr) (n0 m0 : Nat) (z0 : List Int) (s1 : Option Addr) (n1 m1 : Nat) (z1 : List TI) (a2 : Int) (a3 : Int) (a4 : Int) (w : World) (hE : Env w) (w0 : AInts w s0 n0 m0 z0) (x00 : (Lit.int .i64 co0).wf = true) (x01 : (Lit.int .i64 sy0).wf = true) (x02 : (Lit.int .i64 la0).wf = true) (x03 : (Lit.int .i64 mo0).wf = true) (w1 : ATsks w s1 n1 m1 z1) (w2 : (Lit.int .i64 a2).wf = true) (w3 : (Lit.int .i64 a3).wf = true) (w4 : (Lit.int .i64 a4).wf = true) :
    Calls Tryz.prog 3 #[.agg #[.int .i64 co0, .int .i64 sy0, .int .i64 la0, .int .i64 mo0, .slice s0 n0 m0], .slice s1 n1 m1, .int .i64 a2, .int .i64 a3, .int .i64 a4] w fun e w' => e = .returned (.bool true) ∧ Below w.heap.size w w' := by
  have HE : Hid (Env w) := hE
  have AC : Hid (AInts w s0 n0 m0 z0) := w0
  have AT : Hid (ATsks w s1 n1 m1 z1) := w1
  clear hE w0 w1
  have BW : Hid (Below w.heap.size w (w.alloc (.cells #[.int .i64 co0, .int .i64 sy0, .int .i64 la0, .int .i64 mo0, .slice s0 n0 m0] 24))) := balloc _ _
  have bc : Blk (w.alloc (.cells #[.int .i64 co0, .int .i64 sy0, .int .i64 la0, .int .i64 mo0, .slice s0 n0 m0] 24)) w.heap.size #[.int .i64 co0, .int .i64 sy0, .int .i64 la0, .int .i64 mo0, .slice s0 n0 m0] 24 := heap_alloc_new _ _
  go_enter Tryz.func3, Tryz.ntmps3
  go_wp2_with fail
  generalize hW : w.alloc _ = W at BW bc ⊢
  clear hW
  refine (begun12_any W (HE.out.below BW.out)).mono ?_
  rintro e v1 ⟨rfl, g1⟩
  have G1 : Hid (Below w.heap.size w v1) := btrans BW.out g1
  have bc1 := bc.below g1
  clear g1 bc
  have c0 := bc1.cell 0
  have fc0 := bc1.frozen 0
  have c1 := bc1.cell 1
  have fc1 := bc1.frozen 1
  have c2 := bc1.cell 2
  have fc2 := bc1.frozen 2
  have c3 := bc1.cell 3
  have fc3 := bc1.frozen 3
  have c4 := bc1.cell 4
  have fc4 := bc1.frozen 4
  simp at c0 c1 c2 c3 c4
  go_wp2_with fail
  refine (cfg12_any co0 sy0 la0 mo0 s0 n0 m0 z0 v1 (AC.out.below G1.out)).mono ?_
  rintro e v2 ⟨co, sy, la, mo, ad, n, k, res, rfl, hcf, hrn, own2, g2⟩
  have hv1 := bc1.lt
  have G2 := btrans G1.out g2
  have bc2 := bc1.below g2
  clear c0 fc0 c1 fc1 c2 fc2 c3 fc3 c4 fc4 bc1 g2
  have c0 := bc2.cell 0
  have fc0 := bc2.frozen 0
  have c1 := bc2.cell 1
  have fc1 := bc2.frozen 1
  have c2 := bc2.cell 2
  have fc2 := bc2.frozen 2
  have c3 := bc2.cell 3
  have fc3 := bc2.frozen 3
  have c4 := bc2.cell 4
  have fc4 := bc2.frozen 4
  simp at c0 c1 c2 c3 c4
  have bc3 := set5_box bc2 (.int .i64 co) (.int .i64 sy) (.int .i64 la) (.int .i64 mo) (.slice ad n k)
  have o5 := only5 v2 w.heap.size (.int .i64 co) (.int .i64 sy) (.int .i64 la) (.int .i64 mo) (.slice ad n k)
  have own3 := own_off own2 o5 (fun j hj => by have := (own2.lt j hj).1; simp; omega)
  have G3 := set5_bel G2 (Nat.le_refl _) (.int .i64 co) (.int .i64 sy) (.int .i64 la) (.int .i64 mo) (.slice ad n k)
  go_wp2_with fail
  generalize hZ : World.setCell _ _ _ = v3 at bc3 own3 G3 ⊢
  clear hZ o5 own2 G2 bc2 hv1 c0 fc0 c1 fc1 c2 fc2 c3 fc3 c4 fc4
  have HI3 : Hid (Ints v3 (.slice ad n k) res) := own_ints (by rw [hrn]; exact own3)
  have hv3 := bc3.lt
  have HG3 : Hid (Below w.heap.size w v3) := G3
  have HB3 : Hid (Blk v3 w.heap.size #[.int .i64 co, .int .i64 sy, .int .i64 la, .int .i64 mo, .slice ad n k] 24) := bc3
  clear own3 bc3 G3
  refine (tsk12_any co sy la mo ad n k s1 n1 m1 z1 v3 (AT.out.below HG3.out)).mono ?_
  rintro e v4 ⟨b, q, kb, l, rfl, hlq, q12, hall, ot, g4⟩
  have KN : Hid (Kn12 co sy la mo n res q l) := ⟨hcf, hrn, hlq, q12, hall⟩
  have O4 : Hid (Op12 w co sy la mo ad n k res b q kb l v4) := ⟨HB3.out.below g4, HI3.out.below g4, ot.mono (by omega), btrans HG3.out g4⟩
  clear hcf hrn hlq hall ot g4 HI3 HG3 HB3 G1 BW HE AC AT hv3
  obtain ⟨X, hX⟩ : ∃ X, (decide (0 < q) && decide (0 < a2)) = X := ⟨_, rfl⟩
  have HX : Hid ((decide (0 < q) && decide (0 < a2)) = X) := hX
  clear hX
  go_upto_region 6 with fail
  go_cut [28] from 22 to 28 (fun x wx => x = .bool X ∧ v4 = wx)
  case first =>
    by_cases h1 : 0 < q
    · by_cases h2 : 0 < a2
      · go_wp2_with fail
        go_meet
        exact ⟨by rw [← HX.out]; simp [h1, h2], rfl⟩
      · go_wp2_with fail
        go_meet
        exact ⟨by rw [← HX.out]; simp [h2], rfl⟩
    · have h3 : q = 0 := by omega
      subst h3
      go_wp2_with fail
      go_meet
      exact ⟨by rw [← HX.out]; simp, rfl⟩
  case rest =>
    obtain ⟨rfl, rfl⟩ := hcut
    go_upto_if 28 with fail
    go_cut [2] from 29 to 34 (fun x wx => ∃ i : Int, x = .int .i64 i ∧ v4 = wx)
    case first =>
      cases X
      · go_wp2_with fail
        go_meet
        exact ⟨a2, rfl, rfl⟩
      · have q2 : (0 : Int) < (q : Int) + 2 := by omega
        have q3 : ¬ (q : Int) + 2 = 0 := by omega
        have q4 : IntKind.i64.wrap ((q : Int) + 2) = (q : Int) + 2 := IntWalk.i64_in _ (by omega)
        go_wp2_with fail
        go_meet
        exact ⟨_, rfl, rfl⟩
    case rest =>
      obtain ⟨i, rfl, rfl⟩ := hcut
      obtain ⟨S, hS⟩ : ∃ S, secV la res l i a3 = S := ⟨_, rfl⟩
      obtain ⟨T, hT⟩ : ∃ T, waitV la res l i = T := ⟨_, rfl⟩
      have HS : Hid (secV la res l i a3 = S) := hS
      have HT : Hid (waitV la res l i = T) := hT
      clear hS hT
      have c0 : v4.cell? ⟨w.heap.size, 0, none⟩ = some (.int .i64 co) := O4.out.bc.cell 0
      have c1 : v4.cell? ⟨w.heap.size, 1, none⟩ = some (.int .i64 sy) := O4.out.bc.cell 1
      have c2 : v4.cell? ⟨w.heap.size, 2, none⟩ = some (.int .i64 la) := O4.out.bc.cell 2
      have c3 : v4.cell? ⟨w.heap.size, 3, none⟩ = some (.int .i64 mo) := O4.out.bc.cell 3
      have c4 : v4.cell? ⟨w.heap.size, 4, none⟩ = some (.slice ad n k) := O4.out.bc.cell 4
      go_upto_region 8 with fail
      go_cut [55] from 34 to 56 (fun x wx => x = .bool false ∧ Hid (Op12 w co sy la mo ad n k res b q kb l wx))
      case first =>
        go_region_held3 (fun w' => w'.cell? ⟨w.heap.size, 0, none⟩ = some (.int .i64 co) ∧ w'.cell? ⟨w.heap.size, 1, none⟩ = some (.int .i64 sy) ∧ w'.cell? ⟨w.heap.size, 2, none⟩ = some (.int .i64 la) ∧ w'.cell? ⟨w.heap.size, 3, none⟩ = some (.int .i64 mo) ∧ w'.cell? ⟨w.heap.size, 4, none⟩ = some (.slice ad n k)) (first | exact ⟨c0, c1, c2, c3, c4⟩ | exact ⟨d0, d1, d2, d3, d4⟩ | exact ⟨e0, e1, e2, e3, e4⟩ | exact ⟨h0, h1, h2, h3, h4⟩ | exact ⟨m0, m1, m2, m3, m4⟩ | go_keep) (first | (go_at_call 14; refine (wSec_at KN.out (by first | exact O4.out | exact O4.out.drew) i a3 S HS.out).mono ?_; rintro e v5 ⟨rfl, gg⟩; have O5 : Hid (Op12 w co sy la mo ad n k res b q kb l v5) := (by first | exact O4.out.below gg | exact O4.out.drew.below gg); have d0 : v5.cell? ⟨w.heap.size, 0, none⟩ = some (.int .i64 co) := O5.out.bc.cell 0; have d1 : v5.cell? ⟨w.heap.size, 1, none⟩ = some (.int .i64 sy) := O5.out.bc.cell 1; have d2 : v5.cell? ⟨w.heap.size, 2, none⟩ = some (.int .i64 la) := O5.out.bc.cell 2; have d3 : v5.cell? ⟨w.heap.size, 3, none⟩ = some (.int .i64 mo) := O5.out.bc.cell 3; have d4 : v5.cell? ⟨w.heap.size, 4, none⟩ = some (.slice ad n k) := O5.out.bc.cell 4; clear gg) | (go_at_call 15; refine (rsec_at KN.out (by first | exact O5.out | exact O5.out.drew) i a3 S HS.out).mono ?_; rintro e v6 ⟨rfl, gg⟩; have O6 : Hid (Op12 w co sy la mo ad n k res b q kb l v6) := (by first | exact O5.out.below gg | exact O5.out.drew.below gg); have e0 : v6.cell? ⟨w.heap.size, 0, none⟩ = some (.int .i64 co) := O6.out.bc.cell 0; have e1 : v6.cell? ⟨w.heap.size, 1, none⟩ = some (.int .i64 sy) := O6.out.bc.cell 1; have e2 : v6.cell? ⟨w.heap.size, 2, none⟩ = some (.int .i64 la) := O6.out.bc.cell 2; have e3 : v6.cell? ⟨w.heap.size, 3, none⟩ = some (.int .i64 mo) := O6.out.bc.cell 3; have e4 : v6.cell? ⟨w.heap.size, 4, none⟩ = some (.slice ad n k) := O6.out.bc.cell 4; clear gg) | (go_at_call 16; refine (wTask_at KN.out (by first | exact O6.out | exact O6.out.drew) i T HT.out).mono ?_; rintro e v7 ⟨rfl, gg⟩; have O7 : Hid (Op12 w co sy la mo ad n k res b q kb l v7) := (by first | exact O6.out.below gg | exact O6.out.drew.below gg); have h0 : v7.cell? ⟨w.heap.size, 0, none⟩ = some (.int .i64 co) := O7.out.bc.cell 0; have h1 : v7.cell? ⟨w.heap.size, 1, none⟩ = some (.int .i64 sy) := O7.out.bc.cell 1; have h2 : v7.cell? ⟨w.heap.size, 2, none⟩ = some (.int .i64 la) := O7.out.bc.cell 2; have h3 : v7.cell? ⟨w.heap.size, 3, none⟩ = some (.int .i64 mo) := O7.out.bc.cell 3; have h4 : v7.cell? ⟨w.heap.size, 4, none⟩ = some (.slice ad n k) := O7.out.bc.cell 4; clear gg) | (go_at_call 17; refine (rwait_at KN.out (by first | exact O7.out | exact O7.out.drew) i T HT.out).mono ?_; rintro e v8 ⟨rfl, gg⟩; have O8 : Hid (Op12 w co sy la mo ad n k res b q kb l v8) := (by first | exact O7.out.below gg | exact O7.out.drew.below gg); have m0 : v8.cell? ⟨w.heap.size, 0, none⟩ = some (.int .i64 co) := O8.out.bc.cell 0; have m1 : v8.cell? ⟨w.heap.size, 1, none⟩ = some (.int .i64 sy) := O8.out.bc.cell 1; have m2 : v8.cell? ⟨w.heap.size, 2, none⟩ = some (.int .i64 la) := O8.out.bc.cell 2; have m3 : v8.cell? ⟨w.heap.size, 3, none⟩ = some (.int .i64 mo) := O8.out.bc.cell 3; have m4 : v8.cell? ⟨w.heap.size, 4, none⟩ = some (.slice ad n k) := O8.out.bc.cell 4; clear gg))
        all_goals
          go_wp2_with fail
          go_meet
          exact ⟨by simp, O8.out⟩
      case rest =>
        obtain ⟨rfl, o9⟩ := hcut
        rename World => v9
        have O9 : Hid (Op12 w co sy la mo ad n k res b q kb l v9) := o9
        clear o9 c0 c1 c2 c3 c4 O4
        go_wp2_with fail
        go_loopg [13] q (fun gk i2 wr => ∃ j : Nat, gk + j = q ∧ i2 = .int .i64 j ∧ Hid (Op12 w co sy la mo ad n k res b q kb l wr))
        case atStart => exact ⟨0, by omega, rfl, O9.out⟩
        case round =>
          obtain ⟨j, k1, rfl, hO⟩ := hrel
          have P0 : Hid (Op12 w co sy la mo ad n k res b q kb l wr) := hO
          clear hO
          by_cases hlt : j < q
          · obtain ⟨⟨c, d, t, u, m⟩, hx⟩ : ∃ x, l[j]? = some x := ⟨_, List.getElem?_eq_getElem (by rw [KN.out.lq]; exact hlt)⟩
            obtain ⟨bb, oo, e, hbl, y1, y2, y3, y4, ys⟩ := P0.out.own.tks.at hx
            subst e
            simp only at y1 y2 y3 y4 ys
            obtain ⟨a5, cap5, rfl⟩ := ys.form
            have HX : Hid (l[j]? = some ⟨c, d, t, .slice a5 m.length cap5, m⟩) := hx
            clear hx ys
            obtain ⟨L, hL⟩ : ∃ L, lonL res a4 m = L := ⟨_, rfl⟩
            have HL : Hid (lonL res a4 m = L) := hL
            clear hL
            have q0 : (0 : Int) ≤ (j : Int) := by omega
            have q1 : (j : Int) < (q : Int) := by omega
            have c0 : wr.cell? ⟨w.heap.size, 0, none⟩ = some (.int .i64 co) := P0.out.bc.cell 0
            have c1 : wr.cell? ⟨w.heap.size, 1, none⟩ = some (.int .i64 sy) := P0.out.bc.cell 1
            have c2 : wr.cell? ⟨w.heap.size, 2, none⟩ = some (.int .i64 la) := P0.out.bc.cell 2
            have c3 : wr.cell? ⟨w.heap.size, 3, none⟩ = some (.int .i64 mo) := P0.out.bc.cell 3
            have c4 : wr.cell? ⟨w.heap.size, 4, none⟩ = some (.slice ad n k) := P0.out.bc.cell 4
            go_wp2_with fail
            go_region_held3 (fun w' => w'.cell? ⟨w.heap.size, 0, none⟩ = some (.int .i64 co) ∧ w'.cell? ⟨w.heap.size, 1, none⟩ = some (.int .i64 sy) ∧ w'.cell? ⟨w.heap.size, 2, none⟩ = some (.int .i64 la) ∧ w'.cell? ⟨w.heap.size, 3, none⟩ = some (.int .i64 mo) ∧ w'.cell? ⟨w.heap.size, 4, none⟩ = some (.slice ad n k) ∧ w'.cell? ⟨bb, oo + j * 4, none⟩ = some (.int .i64 c) ∧ w'.cell? ⟨bb, oo + j * 4 + 1, none⟩ = some (.int .i64 d) ∧ w'.cell? ⟨bb, oo + j * 4 + 2, none⟩ = some (.int .i64 t) ∧ w'.cell? ⟨bb, oo + j * 4 + 3, none⟩ = some (.slice a5 m.length cap5)) (first | exact ⟨c0, c1, c2, c3, c4, y1, y2, y3, y4⟩ | exact ⟨d0, d1, d2, d3, d4, r1, r2, r3, r4⟩ | exact ⟨e0, e1, e2, e3, e4, s1, s2, s3, s4⟩ | go_keep) (first | (go_at_call 18; refine (wLong_at KN.out (by first | exact P0.out | exact P0.out.drew) c d t a5 m.length cap5 m (List.mem_of_getElem? HX.out) a4 L HL.out).mono ?_; rintro e x5 ⟨rfl, gg⟩; have P1 : Hid (Op12 w co sy la mo ad n k res (some ⟨bb, oo, none⟩) q kb l x5) := (by first | exact P0.out.below gg | exact P0.out.drew.below gg); have d0 : x5.cell? ⟨w.heap.size, 0, none⟩ = some (.int .i64 co) := P1.out.bc.cell 0; have d1 : x5.cell? ⟨w.heap.size, 1, none⟩ = some (.int .i64 sy) := P1.out.bc.cell 1; have d2 : x5.cell? ⟨w.heap.size, 2, none⟩ = some (.int .i64 la) := P1.out.bc.cell 2; have d3 : x5.cell? ⟨w.heap.size, 3, none⟩ = some (.int .i64 mo) := P1.out.bc.cell 3; have d4 : x5.cell? ⟨w.heap.size, 4, none⟩ = some (.slice ad n k) := P1.out.bc.cell 4; obtain ⟨bx, ox, ex, -, r1, r2, r3, r4, -⟩ := P1.out.own.tks.at HX.out; simp only [Option.some.injEq, Addr.mk.injEq, and_true] at ex; obtain ⟨rfl, rfl⟩ := ex; simp only at r1 r2 r3 r4; clear gg) | (go_at_call 19; refine (rlong_at KN.out (by first | exact P1.out | exact P1.out.drew) c d t a5 m.length cap5 m (List.mem_of_getElem? HX.out) a4 L HL.out).mono ?_; rintro e x6 ⟨rfl, gg⟩; have P2 : Hid (Op12 w co sy la mo ad n k res (some ⟨bb, oo, none⟩) q kb l x6) := (by first | exact P1.out.below gg | exact P1.out.drew.below gg); have e0 : x6.cell? ⟨w.heap.size, 0, none⟩ = some (.int .i64 co) := P2.out.bc.cell 0; have e1 : x6.cell? ⟨w.heap.size, 1, none⟩ = some (.int .i64 sy) := P2.out.bc.cell 1; have e2 : x6.cell? ⟨w.heap.size, 2, none⟩ = some (.int .i64 la) := P2.out.bc.cell 2; have e3 : x6.cell? ⟨w.heap.size, 3, none⟩ = some (.int .i64 mo) := P2.out.bc.cell 3; have e4 : x6.cell? ⟨w.heap.size, 4, none⟩ = some (.slice ad n k) := P2.out.bc.cell 4; obtain ⟨bx, ox, ex, -, s1, s2, s3, s4, -⟩ := P2.out.own.tks.at HX.out; simp only [Option.some.injEq, Addr.mk.injEq, and_true] at ex; obtain ⟨rfl, rfl⟩ := ex; simp only at s1 s2 s3 s4; clear gg))
            all_goals
              go_wp2_with fail
              go_roundg (q - (j + 1))
              case measure => omega
              case rel => exact ⟨j + 1, by omega, by go_num, P2.out⟩
          · go_wp2_with fail
            go_ret
            exact ⟨rfl, P0.out.bel⟩

set_option maxRecDepth 100000 in
theorem lifted (os : Os) (started : os.Started) (H : Type) (enc : TypeId × Value → H) :
    ReturnsInHanded {} Tryz.checked os 3 .any (fun w args => (Rows.waitAllSpec.pre enc Tryz.prog Tryz.f3 [] false w args ∧ laidMetH Tryz.prog laid5 w) ∧ sizedMet enc Tryz.prog Tryz.f3 (OpenSpec.ofChange Rows.waitAllSpec) false w args)
      (Rows.waitAllSpec.post enc Tryz.prog Tryz.f3 false true false false) := by
  refine returnsInHanded_of_change_and (C := Tryz.checked) (X := fun w _ => laidMetH Tryz.prog laid5 w) (fun _ _ _ hh h => h.of_heap hh) own started (by kernel_rfl) Tryz.func3
    (ChangeSpec.witness_shaped (enc := enc) (C := Tryz.checked) (os := os) (X := fun w _ => laidMetH Tryz.prog laid5 w) false (World.doorLaid Tryz.prog 62 os) #[.agg #[.int .i64 0, .int .i64 0, .int .i64 0, .int .i64 0, .slice none 0 0], .slice none 0 0, .int .i64 0, .int .i64 0, .int .i64 0] 8 rfl (World.shaped_of_RefB (by kernel_rfl) (by kernel_rfl)) (by kernel_rfl) (by kernel_rfl) (by kernel_rfl) (door_met os _)) ?_
  intro W base args ds gs before hval0 hW _ _ hL _
  have hval : ∀ (j : Nat) t v, Tryz.f3.params[j]? = some t → args[j]? = some v → Value.okWide Tryz.prog W .any base t v := hval0
  have hW' := hW
  obtain ⟨p, q, hA0, hV, rfl, hfz, hnd⟩ := hW
  have hA : DataW.TrodAll enc Tryz.prog W 0 (fun _ => true) true Tryz.f3.params.toList args.toList ds p := hA0
  rw [Tryz.params3] at hA hval
  obtain ⟨v0, vs0, d0, ds0, p0, q0, hargs, rfl, rfl, h0, r0⟩ := trodAll_cons hA
  obtain ⟨v1, vs1, d1, ds1, p1, q1, rfl, rfl, rfl, h1, r1⟩ := trodAll_cons r0
  obtain ⟨v2, vs2, d2, ds2, p2, q2, rfl, rfl, rfl, h2, r2⟩ := trodAll_cons r1
  obtain ⟨v3, vs3, d3, ds3, p3, q3, rfl, rfl, rfl, h3, r3⟩ := trodAll_cons r2
  obtain ⟨v4, vs4, d4, ds4, p4, q4, rfl, rfl, rfl, h4, r4⟩ := trodAll_cons r3
  obtain ⟨rfl, rfl, rfl⟩ := trodAll_nil r4
  obtain rfl : args = #[v0, v1, v2, v3, v4] := by cases args; simp_all
  obtain ⟨rfl, rfl⟩ := trodVars_none hV
  have k0 := h0
  have lt0 : ∀ x ∈ p0, x.block < W.heap.size := by obtain ⟨m, hm⟩ := k0; exact DataW.trod_lt m _ _ _ hm
  obtain ⟨co0, sy0, la0, mo0, s0, n0, m0, z0, rfl, w0, x00, x01, x02, x03⟩ := open_config (hval 0 24 v0 rfl rfl) h0
  obtain ⟨s1, n1, m1, rfl⟩ := okWide_slice Tryz.underlying25 (hval 1 25 v1 rfl rfl)
  have k1 := h1
  have lt1 : ∀ x ∈ p1, x.block < W.heap.size := by obtain ⟨m, hm⟩ := k1; exact DataW.trod_lt m _ _ _ hm
  obtain ⟨z1, w1⟩ := (by obtain ⟨fuel, hf⟩ := h1; exact open_tsks hf : ∃ zs, ATsks W s1 n1 m1 zs)
  obtain ⟨a2, rfl, rfl, rfl, w2⟩ := open_int Tryz.underlying3 (hval 2 3 v2 rfl rfl) h2
  obtain ⟨a3, rfl, rfl, rfl, w3⟩ := open_int Tryz.underlying3 (hval 3 3 v3 rfl rfl) h3
  obtain ⟨a4, rfl, rfl, rfl, w4⟩ := open_int Tryz.underlying3 (hval 4 3 v4 rfl rfl) h4
  clear hA0 hval0
  simp only [List.append_nil] at hW'
  refine (walk co0 sy0 la0 mo0 s0 n0 m0 z0 s1 n1 m1 z1 a2 a3 a4 W (env_of_laid hL) w0 x00 x01 x02 x03 w1 w2 w3 w4).mono fun e W' ⟨he, bel⟩ => ?_
  subst he
  exact ⟨_, rfl, _, _, _, [], _, [], hW', trodAll_mk1 (shut_bool Tryz.underlying4 _), (trodAll_cons_mk (Below.trod laidOut (by kernel_rfl) (of_decide_eq_true (by kernel_rfl)) k0 bel lt0) (trodAll_cons_mk (Below.trod laidOut (by kernel_rfl) (of_decide_eq_true (by kernel_rfl)) k1 bel lt1) (trodAll_cons_mk (shut_int Tryz.underlying3 w2) (trodAll_cons_mk (shut_int Tryz.underlying3 w3) (trodAll_cons_mk (shut_int Tryz.underlying3 w4) trodAll_mk0))))), rfl, bel.frame _, fun h => by cases h⟩

theorem closed : joinedFacts Tryz.pinned.checked.prog 3 Tryz.f3 Rows.waitAllSpec Rows.waitAllRow = true := by
  generalize hP : Tryz.pinned.checked.prog = P
  simp only [joinedFacts, Bool.and_eq_true]
  subst hP
  refine ⟨⟨⟨⟨⟨⟨⟨⟨⟨⟨⟨⟨⟨⟨⟨⟨⟨⟨⟨⟨⟨⟨⟨⟨⟨⟨⟨⟨⟨⟨⟨?k1, ?k2⟩, ?k3⟩, ?k4⟩, ?k5⟩, ?k6⟩, ?k7⟩, ?k8⟩, ?k9⟩, ?k10⟩, ?k11⟩, ?k12⟩, ?k13⟩, ?k14⟩, ?k15⟩, ?k16⟩, ?k17⟩, ?k18⟩, ?k19⟩, ?k20⟩, ?k21⟩, ?k22⟩, ?k23⟩, ?k24⟩, ?k25⟩, ?k26⟩, ?k27⟩, ?k28⟩, ?k29⟩, ?k30⟩, ?k31⟩, ?k32⟩
  case k26 => exact head_enter
  case k27 => show (false == Tryz.prog.liftsFinal) = true; rw [head_lifts]; rfl
  case k28 => exact head_make
  all_goals kernel_rfl
theorem over : Rows.waitAllRow.holds Tryz.pinned (OpenSpec.ofChange Rows.waitAllSpec) :=
  OpenClaim.holds_of_wide 3 Tryz.f3 rfl rfl rfl rfl rfl rfl rfl ⟨rfl, rfl, rfl, rfl, rfl⟩ rfl rfl rfl rfl rfl (by kernel_rfl) Tryz.func3 closed
    (of_decide_eq_true (by kernel_rfl)) (by unfold Func.isWrapper; first | (rw [if_pos (by decide +kernel)]; kernel_rfl) | (rw [if_neg (by decide +kernel)]; exact ⟨rfl, rfl⟩))
    (fun os started H enc _ => lifted os started H enc)

theorem proved : Rows.WaitAllCardSaid :=
  Claim7.holds_tied_plain_at .later [] [.data, .data, .data, .sentinel, .sentinel] true (true, "4ddcd03471c152e483e2d1372070b2dd351fc06eba3ed385e3ebe4df4fc3b5c0") true
    over (fun _ h => by cases h) (by kernel_rfl) (fun _ h => by cases h) waitAll_row_tie rfl ⟨rfl, rfl⟩ head_main rfl
    (fun f fn hf hfn => by
      obtain rfl : f = 3 := Option.some.inj ((show Tryz.prog.funcNamed "hortator/hortatorlaw12.WaitAll" = some 3 by kernel_rfl).symm.trans hf) |>.symm
      obtain rfl : fn = Tryz.f3 := (Option.some.inj (Tryz.func3.symm.trans hfn)).symm
      exact ⟨by kernel_rfl, fun j t ht => by
        rw [Tryz.params3] at ht
        match j, ht with
        | 0, ht => obtain rfl : t = 24 := by simpa using ht.symm
                   exact (show Tryz.prog.wantsStandIn 24 = false by kernel_rfl)
        | 1, ht => obtain rfl : t = 25 := by simpa using ht.symm
                   exact (show Tryz.prog.wantsStandIn 25 = false by kernel_rfl)
        | 2, ht => obtain rfl : t = 3 := by simpa using ht.symm
                   exact (show Tryz.prog.wantsStandIn 3 = false by kernel_rfl)
        | 3, ht => obtain rfl : t = 3 := by simpa using ht.symm
                   exact (show Tryz.prog.wantsStandIn 3 = false by kernel_rfl)
        | 4, ht => obtain rfl : t = 3 := by simpa using ht.symm
                   exact (show Tryz.prog.wantsStandIn 3 = false by kernel_rfl)
        | (_ + 5), ht => simp at ht⟩)
    (by kernel_rfl)
end Go.Proofs.YtakdliecjfeedaaGreatDoor.waitAll
