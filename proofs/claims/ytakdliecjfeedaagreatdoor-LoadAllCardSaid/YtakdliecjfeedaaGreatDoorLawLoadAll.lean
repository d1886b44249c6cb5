/-
PROVED: the statement hortatorlaw12.LoadAll answers true over the landed packages: what each plan asks of each core, what all ask.
  CONDITIONS: the listed variables of strconv and math/bits hold what the program's text lays (the card ties them).
-/
import Derived.Test.YtakdliecjfeedaaGreatDoorRows
import Derived.Test.YtakdliecjfeedaaGreatDoorTie
import Derived.Test.YtakdliecjfeedaaGreatDoorCards
import Derived.WalkKit
import Derived.ProofKit
import Derived.OpenShut
import Derived.ShutString
import Derived.ChangeOld
import Derived.Below
import Derived.SevenTiedAt
import Derived.Test.YtakdliecjfeedaaGreatDoorLaid
import Derived.Test.YtakdliecjfeedaaGreatDoorHead
import Derived.Carry
import Derived.Deep.Cut
import Derived.Deep.CutRange
import Derived.Deep.RegionWith
import Derived.Deep.RegionHeld3
import Derived.Deep.LoopGhost
import Derived.Deep.QuietTactic
import Derived.BigQuiet
import Derived.Test.YtakdliecjfeedaaGreatDoorOpen13
import Derived.Test.YtakdliecjfeedaaGreatDoorBegun12
import Derived.Test.YtakdliecjfeedaaGreatDoorArgT
namespace Go.Proofs.YtakdliecjfeedaaGreatDoor.loadAll
open Go.ChangeShapes Go.WideShapes Go.ChangeAt Go.RowKit
open Go.ChangeMaps (open_string shut_string)
set_option linter.unusedVariables false

theorem own : ownKnob Tryz.prog.godebug = none := by kernel_rfl
theorem laidOut : laidOutB Tryz.prog = true := by kernel_rfl

set_option maxHeartbeats 8000000 in
set_option maxRecDepth 100000 in
theorem walk (co0 sy0 la0 mo0 : Int) (s0 : Option Addr) (n0 m0 : Nat) (z0 : List Int) (s1 : Option Addr) (n1 m1 : Nat) (z1 : List TI) (s2 : Option Addr) (n2 m2 : Nat) (z2 : List Int) (w : World) (hE : Env w) (w0 : AInts w s0 n0 m0 z0) (x00 : (Lit.int .i64 co0).wf = true) (x01 : (Lit.int .i64 sy0).wf = true) (x02 : (Lit.int .i64 la0).wf = true) (x03 : (Lit.int .i64 mo0).wf = true) (w1 : ATsks w s1 n1 m1 z1) (w2 : ANums w s2 n2 z2) :
    Calls Tryz.prog 5 #[.agg #[.int .i64 co0, .int .i64 sy0, .int .i64 la0, .int .i64 mo0, .slice s0 n0 m0], .slice s1 n1 m1, .slice s2 n2 m2] w fun e w' => e = .returned (.bool true) ∧ Below w.heap.size w w' := by
  have AK : Hid (ANums w s2 n2 z2) := w2
  clear w2
  have HE : Hid (Env w) := hE
  have AC : Hid (AInts w s0 n0 m0 z0) := w0
  have AT : Hid (ATsks w s1 n1 m1 z1) := w1
  clear hE w0 w1
  have BW : Hid (Below w.heap.size w (w.alloc (.cells #[.int .i64 co0, .int .i64 sy0, .int .i64 la0, .int .i64 mo0, .slice s0 n0 m0] 24))) := balloc _ _
  have bc : Blk (w.alloc (.cells #[.int .i64 co0, .int .i64 sy0, .int .i64 la0, .int .i64 mo0, .slice s0 n0 m0] 24)) w.heap.size #[.int .i64 co0, .int .i64 sy0, .int .i64 la0, .int .i64 mo0, .slice s0 n0 m0] 24 := heap_alloc_new _ _
  go_enter Tryz.func5, Tryz.ntmps5
  go_wp2_with fail
  generalize hW : w.alloc _ = W at BW bc ⊢
  clear hW
  refine (begun12_any W (HE.out.below BW.out)).mono ?_
  rintro e v1 ⟨rfl, g1⟩
  have G1 : Hid (Below w.heap.size w v1) := btrans BW.out g1
  have bc1 := bc.below g1
  clear g1 bc
  have c0 := bc1.cell 0
  have fc0 := bc1.frozen 0
  have c1 := bc1.cell 1
  have fc1 := bc1.frozen 1
  have c2 := bc1.cell 2
  have fc2 := bc1.frozen 2
  have c3 := bc1.cell 3
  have fc3 := bc1.frozen 3
  have c4 := bc1.cell 4
  have fc4 := bc1.frozen 4
  simp at c0 c1 c2 c3 c4
  go_wp2_with fail
  refine (cfg12_any co0 sy0 la0 mo0 s0 n0 m0 z0 v1 (AC.out.below G1.out)).mono ?_
  rintro e v2 ⟨co, sy, la, mo, ad, n, k, res, rfl, hcf, hrn, own2, g2⟩
  have hv1 := bc1.lt
  have G2 := btrans G1.out g2
  have bc2 := bc1.below g2
  clear c0 fc0 c1 fc1 c2 fc2 c3 fc3 c4 fc4 bc1 g2
  have c0 := bc2.cell 0
  have fc0 := bc2.frozen 0
  have c1 := bc2.cell 1
  have fc1 := bc2.frozen 1
  have c2 := bc2.cell 2
  have fc2 := bc2.frozen 2
  have c3 := bc2.cell 3
  have fc3 := bc2.frozen 3
  have c4 := bc2.cell 4
  have fc4 := bc2.frozen 4
  simp at c0 c1 c2 c3 c4
  have bc3 := set5_box bc2 (.int .i64 co) (.int .i64 sy) (.int .i64 la) (.int .i64 mo) (.slice ad n k)
  have o5 := only5 v2 w.heap.size (.int .i64 co) (.int .i64 sy) (.int .i64 la) (.int .i64 mo) (.slice ad n k)
  have own3 := own_off own2 o5 (fun j hj => by have := (own2.lt j hj).1; simp; omega)
  have G3 := set5_bel G2 (Nat.le_refl _) (.int .i64 co) (.int .i64 sy) (.int .i64 la) (.int .i64 mo) (.slice ad n k)
  go_wp2_with fail
  generalize hZ : World.setCell _ _ _ = v3 at bc3 own3 G3 ⊢
  clear hZ o5 own2 G2 bc2 hv1 c0 fc0 c1 fc1 c2 fc2 c3 fc3 c4 fc4
  have HI3 : Hid (Ints v3 (.slice ad n k) res) := own_ints (by rw [hrn]; exact own3)
  have hv3 := bc3.lt
  have HG3 : Hid (Below w.heap.size w v3) := G3
  have HB3 : Hid (Blk v3 w.heap.size #[.int .i64 co, .int .i64 sy, .int .i64 la, .int .i64 mo, .slice ad n k] 24) := bc3
  clear own3 bc3 G3
  refine (tsk12_any co sy la mo ad n k s1 n1 m1 z1 v3 (AT.out.below HG3.out)).mono ?_
  rintro e v4 ⟨b, q, kb, l, rfl, hlq, q12, hall, ot, g4⟩
  have KN : Hid (Kn12 co sy la mo n res q l) := ⟨hcf, hrn, hlq, q12, hall⟩
  have O4 : Hid (Op12 w co sy la mo ad n k res b q kb l v4) := ⟨HB3.out.below g4, HI3.out.below g4, ot.mono (by omega), btrans HG3.out g4⟩
  clear hcf hrn hlq hall ot g4 HI3 HG3 HB3 G1 BW HE AC AT hv3
  obtain ⟨N, hNN⟩ : ∃ N : Nat, co = N := ⟨co.toNat, by have := (cfgB_iff.1 KN.out.cfg).1; simp only at this; omega⟩
  subst hNN
  have c0 : v4.cell? ⟨w.heap.size, 0, none⟩ = some (.int .i64 N) := O4.out.bc.cell 0
  have c1 : v4.cell? ⟨w.heap.size, 1, none⟩ = some (.int .i64 sy) := O4.out.bc.cell 1
  have c2 : v4.cell? ⟨w.heap.size, 2, none⟩ = some (.int .i64 la) := O4.out.bc.cell 2
  have c3 : v4.cell? ⟨w.heap.size, 3, none⟩ = some (.int .i64 mo) := O4.out.bc.cell 3
  have c4 : v4.cell? ⟨w.heap.size, 4, none⟩ = some (.slice ad n k) := O4.out.bc.cell 4
  go_wp2_with fail
  refine (plans_at KN.out rfl s2 n2 m2 z2 (AK.out.below O4.out.bel) O4.out).mono ?_
  rintro e v5 ⟨pb, pk, ps, rfl, kp, op, op2, g5⟩
  have KP : Hid (Kn13 N l q ps) := kp
  have P0 : Hid (Op13 w N sy la mo ad n k res b q kb l pb pk ps v5) := op
  have hN6 := kp.n6
  have hq12 := KN.out.q12
  clear kp op op2 g5 O4 c0 c1 c2 c3 c4
  have c0 : v5.cell? ⟨w.heap.size, 0, none⟩ = some (.int .i64 N) := P0.out.op.bc.cell 0
  have c1 : v5.cell? ⟨w.heap.size, 1, none⟩ = some (.int .i64 sy) := P0.out.op.bc.cell 1
  have c2 : v5.cell? ⟨w.heap.size, 2, none⟩ = some (.int .i64 la) := P0.out.op.bc.cell 2
  have c3 : v5.cell? ⟨w.heap.size, 3, none⟩ = some (.int .i64 mo) := P0.out.op.bc.cell 3
  have c4 : v5.cell? ⟨w.heap.size, 4, none⟩ = some (.slice ad n k) := P0.out.op.bc.cell 4
  go_wp2_with fail
  go_region_held3 (fun w' => w'.cell? ⟨w.heap.size, 0, none⟩ = some (.int .i64 N) ∧ w'.cell? ⟨w.heap.size, 1, none⟩ = some (.int .i64 sy) ∧ w'.cell? ⟨w.heap.size, 2, none⟩ = some (.int .i64 la) ∧ w'.cell? ⟨w.heap.size, 3, none⟩ = some (.int .i64 mo) ∧ w'.cell? ⟨w.heap.size, 4, none⟩ = some (.slice ad n k)) (first | exact ⟨c0, c1, c2, c3, c4⟩ | exact ⟨d0, d1, d2, d3, d4⟩ | exact ⟨e0, e1, e2, e3, e4⟩ | go_keep) (first | (go_at_call 23; refine (lall_at KN.out KP.out rfl (by first | exact P0.out | exact P0.out.drew)).mono ?_; rintro e x1 ⟨ga, rfl, ra, gg⟩; have P1 : Hid (Op13 w N sy la mo ad n k res b q kb l pb pk ps x1) := (by first | exact P0.out.below gg | exact P0.out.drew.below gg); have d0 : x1.cell? ⟨w.heap.size, 0, none⟩ = some (.int .i64 N) := P1.out.op.bc.cell 0; have d1 : x1.cell? ⟨w.heap.size, 1, none⟩ = some (.int .i64 sy) := P1.out.op.bc.cell 1; have d2 : x1.cell? ⟨w.heap.size, 2, none⟩ = some (.int .i64 la) := P1.out.op.bc.cell 2; have d3 : x1.cell? ⟨w.heap.size, 3, none⟩ = some (.int .i64 mo) := P1.out.op.bc.cell 3; have d4 : x1.cell? ⟨w.heap.size, 4, none⟩ = some (.slice ad n k) := P1.out.op.bc.cell 4; have RA : Hid (Rw x1 (.slice (some ⟨ga, 0, none⟩) N N) (rowsL la res l ps N q)) := ra; clear ra; clear gg) | (go_at_call 24; refine (rall_at KN.out KP.out rfl (by first | exact P1.out | exact P1.out.drew)).mono ?_; rintro e x2 ⟨gb, rfl, rb, gg⟩; have P2 : Hid (Op13 w N sy la mo ad n k res b q kb l pb pk ps x2) := (by first | exact P1.out.below gg | exact P1.out.drew.below gg); have e0 : x2.cell? ⟨w.heap.size, 0, none⟩ = some (.int .i64 N) := P2.out.op.bc.cell 0; have e1 : x2.cell? ⟨w.heap.size, 1, none⟩ = some (.int .i64 sy) := P2.out.op.bc.cell 1; have e2 : x2.cell? ⟨w.heap.size, 2, none⟩ = some (.int .i64 la) := P2.out.op.bc.cell 2; have e3 : x2.cell? ⟨w.heap.size, 3, none⟩ = some (.int .i64 mo) := P2.out.op.bc.cell 3; have e4 : x2.cell? ⟨w.heap.size, 4, none⟩ = some (.slice ad n k) := P2.out.op.bc.cell 4; have RB : Hid (Rw x2 (.slice (some ⟨gb, 0, none⟩) N N) (rowsL la res l ps N q)) := rb; have RA2 : Hid (Rw x2 (.slice (some ⟨ga, 0, none⟩) N N) (rowsL la res l ps N q)) := RA.out.below gg; clear rb; clear gg))
  have en : ((N : Int) != N) = false := by simp
  go_wp2_with fail
  go_loopg [12] q (fun gk i2 wr => ∃ i : Nat, gk + i = q ∧ i2 = .int .i64 i ∧ Hid (Op13 w N sy la mo ad n k res b q kb l pb pk ps wr) ∧ Hid (Rw wr (.slice (some ⟨ga, 0, none⟩) N N) (rowsL la res l ps N q)) ∧ Hid (Rw wr (.slice (some ⟨gb, 0, none⟩) N N) (rowsL la res l ps N q)))
  case atStart => exact ⟨0, by omega, rfl, P2.out, RA2.out, RB.out⟩
  case round =>
    obtain ⟨i, k1, rfl, hP, hA, hB⟩ := hrel
    have Q0 : Hid (Op13 w N sy la mo ad n k res b q kb l pb pk ps wr) := hP.out
    have A0 : Hid (Rw wr (.slice (some ⟨ga, 0, none⟩) N N) (rowsL la res l ps N q)) := hA.out
    have B0 : Hid (Rw wr (.slice (some ⟨gb, 0, none⟩) N N) (rowsL la res l ps N q)) := hB.out
    clear hP hA hB P2 RA2 RB P0 P1 RA
    by_cases hlt : i < q
    · obtain ⟨⟨c, d, t, xu, xm⟩, hx⟩ : ∃ x, l[i]? = some x := ⟨_, List.getElem?_eq_getElem (by rw [KN.out.lq]; exact hlt)⟩
      obtain ⟨⟨kd, pu, m⟩, hy⟩ : ∃ x, ps[i]? = some x := ⟨_, List.getElem?_eq_getElem (by rw [KP.out.len]; exact hlt)⟩
      obtain ⟨bt, ot, et, -, t1, t2, t3, t4, ys⟩ := Q0.out.op.own.tks.at hx
      obtain ⟨a2, k2, exu⟩ := ys.form
      simp only at exu
      subst exu
      obtain ⟨bp, op, ep, -, y1, y2, ym⟩ := Q0.out.pl.plns.at hy
      obtain ⟨ap, cp, epu⟩ := ym.form
      simp only at epu
      subst epu
      simp only at y1 y2 t1 t2 t3 t4
      have HX : Hid (l[i]? = some ⟨c, d, t, .slice a2 xm.length k2, xm⟩) := hx
      have HY : Hid (ps[i]? = some ⟨kd, .slice ap m.length cp, m⟩) := hy
      have q0 : (0 : Int) ≤ (i : Int) := by omega
      have q1 : (i : Int) < (q : Int) := by omega
      subst ep
      clear hx hy ys ym et t1 t2 t3 t4
      have c0 : wr.cell? ⟨w.heap.size, 0, none⟩ = some (.int .i64 N) := Q0.out.op.bc.cell 0
      have c1 : wr.cell? ⟨w.heap.size, 1, none⟩ = some (.int .i64 sy) := Q0.out.op.bc.cell 1
      have c2 : wr.cell? ⟨w.heap.size, 2, none⟩ = some (.int .i64 la) := Q0.out.op.bc.cell 2
      have c3 : wr.cell? ⟨w.heap.size, 3, none⟩ = some (.int .i64 mo) := Q0.out.op.bc.cell 3
      have c4 : wr.cell? ⟨w.heap.size, 4, none⟩ = some (.slice ad n k) := Q0.out.op.bc.cell 4
      go_wp2_with fail
      go_region_held3 (fun w' => w'.cell? ⟨w.heap.size, 0, none⟩ = some (.int .i64 N) ∧ w'.cell? ⟨w.heap.size, 1, none⟩ = some (.int .i64 sy) ∧ w'.cell? ⟨w.heap.size, 2, none⟩ = some (.int .i64 la) ∧ w'.cell? ⟨w.heap.size, 3, none⟩ = some (.int .i64 mo) ∧ w'.cell? ⟨w.heap.size, 4, none⟩ = some (.slice ad n k) ∧ w'.cell? ⟨bp, op + i * 2, none⟩ = some (.int .i64 kd) ∧ w'.cell? ⟨bp, op + i * 2 + 1, none⟩ = some (.slice ap m.length cp)) (first | exact ⟨c0, c1, c2, c3, c4, y1, y2⟩ | exact ⟨d0, d1, d2, d3, d4, dy, dz⟩ | exact ⟨e0, e1, e2, e3, e4, ey, ez⟩ | exact ⟨g0, g1, g2, g3, g4, gy, gz⟩ | go_keep) (first | (go_at_call 26; refine (lof_at KN.out KP.out rfl (by first | exact Q0.out | exact Q0.out.drew) HX.out HY.out).mono ?_; rintro e x1 ⟨gc, rfl, rc, gg⟩; have Q1 : Hid (Op13 w N sy la mo ad n k res b q kb l (some ⟨bp, op, none⟩) pk ps x1) := (by first | exact Q0.out.below gg | exact Q0.out.drew.below gg); have d0 : x1.cell? ⟨w.heap.size, 0, none⟩ = some (.int .i64 N) := Q1.out.op.bc.cell 0; have d1 : x1.cell? ⟨w.heap.size, 1, none⟩ = some (.int .i64 sy) := Q1.out.op.bc.cell 1; have d2 : x1.cell? ⟨w.heap.size, 2, none⟩ = some (.int .i64 la) := Q1.out.op.bc.cell 2; have d3 : x1.cell? ⟨w.heap.size, 3, none⟩ = some (.int .i64 mo) := Q1.out.op.bc.cell 3; have d4 : x1.cell? ⟨w.heap.size, 4, none⟩ = some (.slice ad n k) := Q1.out.op.bc.cell 4; obtain ⟨bp2, op2, ep2, -, dy, dz, -⟩ := Q1.out.pl.plns.at HY.out; simp only [Option.some.injEq, Addr.mk.injEq, and_true] at ep2; obtain ⟨rfl, rfl⟩ := ep2; simp only at dy dz; have RC : Hid (Rw x1 (.slice (some ⟨gc, 0, none⟩) N N) (ofL la res l i ⟨c, d, t, .slice a2 xm.length k2, xm⟩ kd m N)) := rc; clear rc; have A1 : Hid (Rw x1 (.slice (some ⟨ga, 0, none⟩) N N) (rowsL la res l ps N q)) := (by first | exact A0.out.below gg | exact (A0.out.below (bdrew _)).below gg); have B1 : Hid (Rw x1 (.slice (some ⟨gb, 0, none⟩) N N) (rowsL la res l ps N q)) := (by first | exact B0.out.below gg | exact (B0.out.below (bdrew _)).below gg); clear gg) | (go_at_call 27; refine (rof_at KN.out KP.out rfl (by first | exact Q1.out | exact Q1.out.drew) HX.out HY.out).mono ?_; rintro e x2 ⟨gd, rfl, rd, gg⟩; have Q2 : Hid (Op13 w N sy la mo ad n k res b q kb l (some ⟨bp, op, none⟩) pk ps x2) := (by first | exact Q1.out.below gg | exact Q1.out.drew.below gg); have e0 : x2.cell? ⟨w.heap.size, 0, none⟩ = some (.int .i64 N) := Q2.out.op.bc.cell 0; have e1 : x2.cell? ⟨w.heap.size, 1, none⟩ = some (.int .i64 sy) := Q2.out.op.bc.cell 1; have e2 : x2.cell? ⟨w.heap.size, 2, none⟩ = some (.int .i64 la) := Q2.out.op.bc.cell 2; have e3 : x2.cell? ⟨w.heap.size, 3, none⟩ = some (.int .i64 mo) := Q2.out.op.bc.cell 3; have e4 : x2.cell? ⟨w.heap.size, 4, none⟩ = some (.slice ad n k) := Q2.out.op.bc.cell 4; obtain ⟨bp2, op2, ep2, -, ey, ez, -⟩ := Q2.out.pl.plns.at HY.out; simp only [Option.some.injEq, Addr.mk.injEq, and_true] at ep2; obtain ⟨rfl, rfl⟩ := ep2; simp only at ey ez; have RD : Hid (Rw x2 (.slice (some ⟨gd, 0, none⟩) N N) (ofL la res l i ⟨c, d, t, .slice a2 xm.length k2, xm⟩ kd m N)) := rd; have RC2 : Hid (Rw x2 (.slice (some ⟨gc, 0, none⟩) N N) (ofL la res l i ⟨c, d, t, .slice a2 xm.length k2, xm⟩ kd m N)) := RC.out.below gg; clear rd; have A2 : Hid (Rw x2 (.slice (some ⟨ga, 0, none⟩) N N) (rowsL la res l ps N q)) := (by first | exact A1.out.below gg | exact (A1.out.below (bdrew _)).below gg); have B2 : Hid (Rw x2 (.slice (some ⟨gb, 0, none⟩) N N) (rowsL la res l ps N q)) := (by first | exact B1.out.below gg | exact (B1.out.below (bdrew _)).below gg); clear gg) | (go_at_call 25; refine (same12_any gc gd N N N (ofL la res l i ⟨c, d, t, .slice a2 xm.length k2, xm⟩ kd m N) _ (by first | exact RC2.out | exact RC2.out.below (bdrew _)) (by first | exact RD.out | exact RD.out.below (bdrew _)) (ofL_length _ _ _ _ _ _ _ _) hN6.2 (ofL_bd KP.out HY.out _ _ _)).mono ?_; rintro e x3 ⟨rfl, gg⟩; have Q3 : Hid (Op13 w N sy la mo ad n k res b q kb l (some ⟨bp, op, none⟩) pk ps x3) := (by first | exact Q2.out.below gg | exact Q2.out.drew.below gg); have g0 : x3.cell? ⟨w.heap.size, 0, none⟩ = some (.int .i64 N) := Q3.out.op.bc.cell 0; have g1 : x3.cell? ⟨w.heap.size, 1, none⟩ = some (.int .i64 sy) := Q3.out.op.bc.cell 1; have g2 : x3.cell? ⟨w.heap.size, 2, none⟩ = some (.int .i64 la) := Q3.out.op.bc.cell 2; have g3 : x3.cell? ⟨w.heap.size, 3, none⟩ = some (.int .i64 mo) := Q3.out.op.bc.cell 3; have g4 : x3.cell? ⟨w.heap.size, 4, none⟩ = some (.slice ad n k) := Q3.out.op.bc.cell 4; obtain ⟨bp2, op2, ep2, -, gy, gz, -⟩ := Q3.out.pl.plns.at HY.out; simp only [Option.some.injEq, Addr.mk.injEq, and_true] at ep2; obtain ⟨rfl, rfl⟩ := ep2; simp only at gy gz; have A3 : Hid (Rw x3 (.slice (some ⟨ga, 0, none⟩) N N) (rowsL la res l ps N q)) := (by first | exact A2.out.below gg | exact (A2.out.below (bdrew _)).below gg); have B3 : Hid (Rw x3 (.slice (some ⟨gb, 0, none⟩) N N) (rowsL la res l ps N q)) := (by first | exact B2.out.below gg | exact (B2.out.below (bdrew _)).below gg); clear gg))
      go_wp2_with fail
      go_roundg (q - (i + 1))
      case measure => omega
      case rel => exact ⟨i + 1, by omega, by go_num, Q3.out, A3.out, B3.out⟩
    · go_wp2_with fail
      refine (same12_any ga gb N N N (rowsL la res l ps N q) _ A0.out B0.out (rowsL_length _ _ _ _ _ _) hN6.2 (rowsL_bd KP.out hq12 _ _)).mono ?_
      rintro e x1 ⟨rfl, gg⟩
      have Z : Hid (Below w.heap.size w x1) := btrans Q0.out.op.bel gg
      clear gg
      go_wp2_with fail
      go_ret
      exact ⟨rfl, Z.out⟩

set_option maxRecDepth 100000 in
theorem lifted (os : Os) (started : os.Started) (H : Type) (enc : TypeId × Value → H) :
    ReturnsInHanded {} Tryz.checked os 5 .any (fun w args => (Rows.loadAllSpec.pre enc Tryz.prog Tryz.f5 [] false w args ∧ laidMetH Tryz.prog laid5 w) ∧ sizedMet enc Tryz.prog Tryz.f5 (OpenSpec.ofChange Rows.loadAllSpec) false w args)
      (Rows.loadAllSpec.post enc Tryz.prog Tryz.f5 false true false false) := by
  refine returnsInHanded_of_change_and (C := Tryz.checked) (X := fun w _ => laidMetH Tryz.prog laid5 w) (fun _ _ _ hh h => h.of_heap hh) own started (by kernel_rfl) Tryz.func5
    (ChangeSpec.witness_shaped (enc := enc) (C := Tryz.checked) (os := os) (X := fun w _ => laidMetH Tryz.prog laid5 w) false (World.doorLaid Tryz.prog 62 os) #[.agg #[.int .i64 0, .int .i64 0, .int .i64 0, .int .i64 0, .slice none 0 0], .slice none 0 0, .slice none 0 0] 8 rfl (World.shaped_of_RefB (by kernel_rfl) (by kernel_rfl)) (by kernel_rfl) (by kernel_rfl) (by kernel_rfl) (door_met os _)) ?_
  intro W base args ds gs before hval0 hW _ _ hL _
  have hval : ∀ (j : Nat) t v, Tryz.f5.params[j]? = some t → args[j]? = some v → Value.okWide Tryz.prog W .any base t v := hval0
  have hW' := hW
  obtain ⟨p, q, hA0, hV, rfl, hfz, hnd⟩ := hW
  have hA : DataW.TrodAll enc Tryz.prog W 0 (fun _ => true) true Tryz.f5.params.toList args.toList ds p := hA0
  rw [Tryz.params5] at hA hval
  obtain ⟨v0, vs0, d0, ds0, p0, q0, hargs, rfl, rfl, h0, r0⟩ := trodAll_cons hA
  obtain ⟨v1, vs1, d1, ds1, p1, q1, rfl, rfl, rfl, h1, r1⟩ := trodAll_cons r0
  obtain ⟨v2, vs2, d2, ds2, p2, q2, rfl, rfl, rfl, h2, r2⟩ := trodAll_cons r1
  obtain ⟨rfl, rfl, rfl⟩ := trodAll_nil r2
  obtain rfl : args = #[v0, v1, v2] := by cases args; simp_all
  obtain ⟨rfl, rfl⟩ := trodVars_none hV
  have k0 := h0
  have lt0 : ∀ x ∈ p0, x.block < W.heap.size := by obtain ⟨m, hm⟩ := k0; exact DataW.trod_lt m _ _ _ hm
  obtain ⟨co0, sy0, la0, mo0, s0, n0, m0, z0, rfl, w0, x00, x01, x02, x03⟩ := open_config (hval 0 24 v0 rfl rfl) h0
  obtain ⟨s1, n1, m1, rfl⟩ := okWide_slice Tryz.underlying25 (hval 1 25 v1 rfl rfl)
  have k1 := h1
  have lt1 : ∀ x ∈ p1, x.block < W.heap.size := by obtain ⟨m, hm⟩ := k1; exact DataW.trod_lt m _ _ _ hm
  obtain ⟨z1, w1⟩ := (by obtain ⟨fuel, hf⟩ := h1; exact open_tsks hf : ∃ zs, ATsks W s1 n1 m1 zs)
  obtain ⟨s2, n2, m2, rfl⟩ := okWide_slice Tryz.underlying22 (hval 2 22 v2 rfl rfl)
  have k2 := h2
  have lt2 : ∀ x ∈ p2, x.block < W.heap.size := by obtain ⟨m, hm⟩ := k2; exact DataW.trod_lt m _ _ _ hm
  obtain ⟨z2, w2⟩ := (by obtain ⟨fuel, hf⟩ := h2; exact open_nums hf : ∃ zs, ANums W s2 n2 zs)
  clear hA0 hval0
  simp only [List.append_nil] at hW'
  refine (walk co0 sy0 la0 mo0 s0 n0 m0 z0 s1 n1 m1 z1 s2 n2 m2 z2 W (env_of_laid hL) w0 x00 x01 x02 x03 w1 w2).mono fun e W' ⟨he, bel⟩ => ?_
  subst he
  exact ⟨_, rfl, _, _, _, [], _, [], hW', trodAll_mk1 (shut_bool Tryz.underlying4 _), (trodAll_cons_mk (Below.trod laidOut (by kernel_rfl) (of_decide_eq_true (by kernel_rfl)) k0 bel lt0) (trodAll_cons_mk (Below.trod laidOut (by kernel_rfl) (of_decide_eq_true (by kernel_rfl)) k1 bel lt1) (trodAll_cons_mk (Below.trod laidOut (by kernel_rfl) (of_decide_eq_true (by kernel_rfl)) k2 bel lt2) trodAll_mk0))), rfl, bel.frame _, fun h => by cases h⟩

theorem closed : joinedFacts Tryz.pinned.checked.prog 5 Tryz.f5 Rows.loadAllSpec Rows.loadAllRow = true := by
  generalize hP : Tryz.pinned.checked.prog = P
  simp only [joinedFacts, Bool.and_eq_true]
  subst hP
  refine ⟨⟨⟨⟨⟨⟨⟨⟨⟨⟨⟨⟨⟨⟨⟨⟨⟨⟨⟨⟨⟨⟨⟨⟨⟨⟨⟨⟨⟨⟨⟨?k1, ?k2⟩, ?k3⟩, ?k4⟩, ?k5⟩, ?k6⟩, ?k7⟩, ?k8⟩, ?k9⟩, ?k10⟩, ?k11⟩, ?k12⟩, ?k13⟩, ?k14⟩, ?k15⟩, ?k16⟩, ?k17⟩, ?k18⟩, ?k19⟩, ?k20⟩, ?k21⟩, ?k22⟩, ?k23⟩, ?k24⟩, ?k25⟩, ?k26⟩, ?k27⟩, ?k28⟩, ?k29⟩, ?k30⟩, ?k31⟩, ?k32⟩
  case k26 => exact head_enter
  case k27 => show (false == Tryz.prog.liftsFinal) = true; rw [head_lifts]; rfl
  case k28 => exact head_make
  all_goals kernel_rfl
theorem over : Rows.loadAllRow.holds Tryz.pinned (OpenSpec.ofChange Rows.loadAllSpec) :=
  OpenClaim.holds_of_wide 5 Tryz.f5 rfl rfl rfl rfl rfl rfl rfl ⟨rfl, rfl, rfl, rfl, rfl⟩ rfl rfl rfl rfl rfl (by kernel_rfl) Tryz.func5 closed
    (of_decide_eq_true (by kernel_rfl)) (by unfold Func.isWrapper; first | (rw [if_pos (by decide +kernel)]; kernel_rfl) | (rw [if_neg (by decide +kernel)]; exact ⟨rfl, rfl⟩))
    (fun os started H enc _ => lifted os started H enc)

theorem proved : Rows.LoadAllCardSaid :=
  Claim7.holds_tied_plain_at .later [] [.data, .data, .data, .sentinel, .sentinel] true (true, "4ddcd03471c152e483e2d1372070b2dd351fc06eba3ed385e3ebe4df4fc3b5c0") true
    over (fun _ h => by cases h) (by kernel_rfl) (fun _ h => by cases h) loadAll_row_tie rfl ⟨rfl, rfl⟩ head_main rfl
    (fun f fn hf hfn => by
      obtain rfl : f = 5 := Option.some.inj ((show Tryz.prog.funcNamed "hortator/hortatorlaw12.LoadAll" = some 5 by kernel_rfl).symm.trans hf) |>.symm
      obtain rfl : fn = Tryz.f5 := (Option.some.inj (Tryz.func5.symm.trans hfn)).symm
      exact ⟨by kernel_rfl, fun j t ht => by
        rw [Tryz.params5] at ht
        match j, ht with
        | 0, ht => obtain rfl : t = 24 := by simpa using ht.symm
                   exact (show Tryz.prog.wantsStandIn 24 = false by kernel_rfl)
        | 1, ht => obtain rfl : t = 25 := by simpa using ht.symm
                   exact (show Tryz.prog.wantsStandIn 25 = false by kernel_rfl)
        | 2, ht => obtain rfl : t = 22 := by simpa using ht.symm
                   exact (show Tryz.prog.wantsStandIn 22 = false by kernel_rfl)
        | (_ + 3), ht => simp at ht⟩)
    (by kernel_rfl)
end Go.Proofs.YtakdliecjfeedaaGreatDoor.loadAll
