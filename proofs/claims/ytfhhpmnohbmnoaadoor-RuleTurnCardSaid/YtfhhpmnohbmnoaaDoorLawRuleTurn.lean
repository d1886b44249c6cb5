/-
PROVED: the statement hortatorlaw7.RuleTurn answers true over the landed packages: a task of which one number is another one.
  CONDITIONS: the listed variables of strconv and math/bits hold what the program's text lays (the card ties them).
-/
import Derived.Test.YtfhhpmnohbmnoaaDoorRows
import Derived.Test.YtfhhpmnohbmnoaaDoorTie
import Derived.Test.YtfhhpmnohbmnoaaDoorCards
import Derived.WalkKit
import Derived.ProofKit
import Derived.OpenShut
import Derived.ShutString
import Derived.ChangeOld
import Derived.Below
import Derived.SevenTiedAt
import Derived.Test.YtfhhpmnohbmnoaaDoorLaid
import Derived.Carry
import Derived.Deep.Cut
import Derived.Deep.CutRange
import Derived.Deep.RegionWith
import Derived.Deep.RegionHeld3
import Derived.Deep.LoopGhost
import Derived.Deep.QuietTactic
import Derived.BigQuiet
import Derived.Test.YtfhhpmnohbmnoaaDoorTurn
import Derived.Test.YtfhhpmnohbmnoaaDoorRef
import Derived.Test.YtfhhpmnohbmnoaaDoorArgs
namespace Go.Proofs.YtfhhpmnohbmnoaaDoor.ruleTurn
open Go.ChangeShapes Go.WideShapes Go.ChangeAt Go.RowKit
open Go.ChangeMaps (open_string shut_string)
set_option linter.unusedVariables false

theorem own : ownKnob Tryd.prog.godebug = none := by kernel_rfl
theorem laidOut : laidOutB Tryd.prog = true := by kernel_rfl

set_option maxHeartbeats 8000000 in
set_option maxRecDepth 100000 in
theorem walk (co0 sy0 la0 mo0 : Int) (s0 : Option Addr) (n0 m0 : Nat) (z0 : List Int) (c1 d1 t1 : Int) (s1 : Option Addr) (n1 m1 : Nat) (z1 : List Sec) (a2 : Int) (a3 : Int) (w : World) (hE : Env w) (w0 : AInts w s0 n0 m0 z0) (x00 : (Lit.int .i64 co0).wf = true) (x01 : (Lit.int .i64 sy0).wf = true) (x02 : (Lit.int .i64 la0).wf = true) (x03 : (Lit.int .i64 mo0).wf = true) (w1 : ASecs w s1 n1 m1 z1) (x10 : (Lit.int .i64 c1).wf = true) (x11 : (Lit.int .i64 d1).wf = true) (x12 : (Lit.int .i64 t1).wf = true) (w2 : (Lit.int .i64 a2).wf = true) (w3 : (Lit.int .i64 a3).wf = true) :
    Calls Tryd.prog 3 #[.agg #[.int .i64 co0, .int .i64 sy0, .int .i64 la0, .int .i64 mo0, .slice s0 n0 m0], .agg #[.int .i64 c1, .int .i64 d1, .int .i64 t1, .slice s1 n1 m1], .int .i64 a2, .int .i64 a3] w fun e w' => e = .returned (.bool true) ∧ Below w.heap.size w w' := by
  obtain ⟨b1, b2⟩ := bounds_i64 w2
  obtain ⟨b3, b4⟩ := bounds_i64 w3
  have E0 : Hid (CT w #[.int .i64 co0, .int .i64 sy0, .int .i64 la0, .int .i64 mo0, .slice s0 n0 m0] #[.int .i64 c1, .int .i64 d1, .int .i64 t1, .slice s1 n1 m1] ((w.alloc (.cells #[.int .i64 co0, .int .i64 sy0, .int .i64 la0, .int .i64 mo0, .slice s0 n0 m0] 24)).alloc (.cells #[.int .i64 c1, .int .i64 d1, .int .i64 t1, .slice s1 n1 m1] 27))) := CT.start hE _ _
  have AC : Hid (AInts w s0 n0 m0 z0) := w0
  have AT : Hid (ASecs w s1 n1 m1 z1) := w1
  obtain ⟨l, hl⟩ : ∃ l, z0.take 8 = l := ⟨_, rfl⟩
  obtain ⟨m, hm⟩ : ∃ m, z1.take 4 = m := ⟨_, rfl⟩
  obtain ⟨n, hn⟩ : ∃ n, l.length = n := ⟨_, rfl⟩
  obtain ⟨q, hq⟩ : ∃ q, m.length = q := ⟨_, rfl⟩
  have n8 : n ≤ 8 := by rw [← hn, ← hl, List.length_take]; omega
  have q4 : q ≤ 4 := by rw [← hq, ← hm, List.length_take]; omega
  have HL : Hid (z0.take 8 = l ∧ l.length = n) := ⟨hl, hn⟩
  have HM : Hid (z1.take 4 = m ∧ m.length = q) := ⟨hm, hq⟩
  clear hE w0 w1 hl hm hn hq
  go_enter Tryd.func3, Tryd.ntmps3
  go_wp2_with fail
  refine (begun7_any _ E0.out.env).mono ?_
  rintro e v1 ⟨rfl, g1⟩
  have E1 : Hid (CT w #[.int .i64 co0, .int .i64 sy0, .int .i64 la0, .int .i64 mo0, .slice s0 n0 m0] #[.int .i64 c1, .int .i64 d1, .int .i64 t1, .slice s1 n1 m1] v1) := E0.out.below g1
  clear g1 E0
  go_upto_region 4 with fail
  go_cut [] from 13 to 16 (fun wx => ∃ sc kc st kt, Cop w co0 sy0 la0 mo0 sc n kc l c1 d1 t1 st q kt m wx)
  case first =>
    have q0 : v1.cell? ⟨w.heap.size, 0, none⟩ = some (.int .i64 co0) := E1.out.bc.cell 0
    have q1 : v1.cell? ⟨w.heap.size, 1, none⟩ = some (.int .i64 sy0) := E1.out.bc.cell 1
    have q2 : v1.cell? ⟨w.heap.size, 2, none⟩ = some (.int .i64 la0) := E1.out.bc.cell 2
    have q3 : v1.cell? ⟨w.heap.size, 3, none⟩ = some (.int .i64 mo0) := E1.out.bc.cell 3
    have q4 : v1.cell? ⟨w.heap.size, 4, none⟩ = some (.slice s0 n0 m0) := E1.out.bc.cell 4
    have p0 : v1.cell? ⟨w.heap.size + 1, 0, none⟩ = some (.int .i64 c1) := E1.out.bt.cell 0
    have p1 : v1.cell? ⟨w.heap.size + 1, 1, none⟩ = some (.int .i64 d1) := E1.out.bt.cell 1
    have p2 : v1.cell? ⟨w.heap.size + 1, 2, none⟩ = some (.int .i64 t1) := E1.out.bt.cell 2
    have p3 : v1.cell? ⟨w.heap.size + 1, 3, none⟩ = some (.slice s1 n1 m1) := E1.out.bt.cell 3
    go_region_with (first
      | (go_at_call 10; refine (lconfig_at co0 sy0 la0 mo0 s0 n0 m0 z0 l n HL.out.1 HL.out.2 _ (AC.out.below E1.out.drew.bel)).mono ?_; rintro e v2 ⟨sc, kc, rfl, own2, g2⟩; have O2 : Hid (v2.ownsRow v1.drew.heap.size 3 1 (.slice sc n kc) n (l.map mkI) ∧ Below v1.drew.heap.size v1.drew v2) := ⟨own2, g2⟩; have F2 : Hid (CT w #[.int .i64 co0, .int .i64 sy0, .int .i64 la0, .int .i64 mo0, .slice s0 n0 m0] #[.int .i64 c1, .int .i64 d1, .int .i64 t1, .slice s1 n1 m1] v2) := E1.out.drew.below g2; clear own2 g2; have q0 : v2.cell? ⟨w.heap.size, 0, none⟩ = some (.int .i64 co0) := F2.out.bc.cell 0; have q1 : v2.cell? ⟨w.heap.size, 1, none⟩ = some (.int .i64 sy0) := F2.out.bc.cell 1; have q2 : v2.cell? ⟨w.heap.size, 2, none⟩ = some (.int .i64 la0) := F2.out.bc.cell 2; have q3 : v2.cell? ⟨w.heap.size, 3, none⟩ = some (.int .i64 mo0) := F2.out.bc.cell 3; have q4 : v2.cell? ⟨w.heap.size, 4, none⟩ = some (.slice s0 n0 m0) := F2.out.bc.cell 4; have p0 : v2.cell? ⟨w.heap.size + 1, 0, none⟩ = some (.int .i64 c1) := F2.out.bt.cell 0; have p1 : v2.cell? ⟨w.heap.size + 1, 1, none⟩ = some (.int .i64 d1) := F2.out.bt.cell 1; have p2 : v2.cell? ⟨w.heap.size + 1, 2, none⟩ = some (.int .i64 t1) := F2.out.bt.cell 2; have p3 : v2.cell? ⟨w.heap.size + 1, 3, none⟩ = some (.slice s1 n1 m1) := F2.out.bt.cell 3)
      | (go_at_call 11; refine (ltask_at c1 d1 t1 s1 n1 m1 z1 m q HM.out.1 HM.out.2 _ (AT.out.below F2.out.bel)).mono ?_; rintro e v3 ⟨st, kt, rfl, own3, g3⟩; have O3 : Hid (v3.ownsRow v2.heap.size 33 3 (.slice st q kt) q (secC m) ∧ Below v2.heap.size v2 v3) := ⟨own3, g3⟩; have F3 : Hid (CT w #[.int .i64 co0, .int .i64 sy0, .int .i64 la0, .int .i64 mo0, .slice s0 n0 m0] #[.int .i64 c1, .int .i64 d1, .int .i64 t1, .slice s1 n1 m1] v3) := F2.out.below g3; have l3 := F3.out.bt.lt; clear own3 g3; have q0 : v3.cell? ⟨w.heap.size, 0, none⟩ = some (.int .i64 co0) := F3.out.bc.cell 0; have fq0 := F3.out.bc.frozen 0; have q1 : v3.cell? ⟨w.heap.size, 1, none⟩ = some (.int .i64 sy0) := F3.out.bc.cell 1; have fq1 := F3.out.bc.frozen 1; have q2 : v3.cell? ⟨w.heap.size, 2, none⟩ = some (.int .i64 la0) := F3.out.bc.cell 2; have fq2 := F3.out.bc.frozen 2; have q3 : v3.cell? ⟨w.heap.size, 3, none⟩ = some (.int .i64 mo0) := F3.out.bc.cell 3; have fq3 := F3.out.bc.frozen 3; have q4 : v3.cell? ⟨w.heap.size, 4, none⟩ = some (.slice s0 n0 m0) := F3.out.bc.cell 4; have fq4 := F3.out.bc.frozen 4; have p0 : v3.cell? ⟨w.heap.size + 1, 0, none⟩ = some (.int .i64 c1) := F3.out.bt.cell 0; have fp0 := F3.out.bt.frozen 0; have p1 : v3.cell? ⟨w.heap.size + 1, 1, none⟩ = some (.int .i64 d1) := F3.out.bt.cell 1; have fp1 := F3.out.bt.frozen 1; have p2 : v3.cell? ⟨w.heap.size + 1, 2, none⟩ = some (.int .i64 t1) := F3.out.bt.cell 2; have fp2 := F3.out.bt.frozen 2; have p3 : v3.cell? ⟨w.heap.size + 1, 3, none⟩ = some (.slice s1 n1 m1) := F3.out.bt.cell 3; have fp3 := F3.out.bt.frozen 3))
    all_goals (go_wp2_with fail; go_meet)
    all_goals exact ⟨sc, kc, st, kt, Cop.made E1.out.drew HL.out.2 HM.out.2 O2.out.1 O2.out.2 O3.out.1 O3.out.2⟩
  case rest =>
    obtain ⟨sc, kc, st, kt, hC⟩ := hcut
    have C : Hid (Cop w co0 sy0 la0 mo0 sc n kc l c1 d1 t1 st q kt m wc) := hC
    have lw := C.out.ct.bt.lt
    clear hC E1 AC AT
    have q0 : wc.cell? ⟨w.heap.size, 0, none⟩ = some (.int .i64 co0) := C.out.ct.bc.cell 0
    have q1 : wc.cell? ⟨w.heap.size, 1, none⟩ = some (.int .i64 sy0) := C.out.ct.bc.cell 1
    have q2 : wc.cell? ⟨w.heap.size, 2, none⟩ = some (.int .i64 la0) := C.out.ct.bc.cell 2
    have q3 : wc.cell? ⟨w.heap.size, 3, none⟩ = some (.int .i64 mo0) := C.out.ct.bc.cell 3
    have q4 : wc.cell? ⟨w.heap.size, 4, none⟩ = some (.slice sc n kc) := C.out.ct.bc.cell 4
    have p0 : wc.cell? ⟨w.heap.size + 1, 0, none⟩ = some (.int .i64 c1) := C.out.ct.bt.cell 0
    have p1 : wc.cell? ⟨w.heap.size + 1, 1, none⟩ = some (.int .i64 d1) := C.out.ct.bt.cell 1
    have p2 : wc.cell? ⟨w.heap.size + 1, 2, none⟩ = some (.int .i64 t1) := C.out.ct.bt.cell 2
    have p3 : wc.cell? ⟨w.heap.size + 1, 3, none⟩ = some (.slice st q kt) := C.out.ct.bt.cell 3
    cases hb : cfgB ⟨co0, sy0, la0, mo0, l⟩
    · go_wp2_with fail
      refine (refConfig_any co0 sy0 la0 mo0 (.slice sc n kc) l _ C.out.ints (by have := HL.out.2; omega)).mono ?_
      rintro e v1 ⟨rfl, g1⟩
      rw [hb]
      have D1 : Hid (Cop w co0 sy0 la0 mo0 sc n kc l c1 d1 t1 st q kt m v1) := C.out.below g1
      have lv1 := D1.out.ct.bt.lt
      clear g1
      have q0 : v1.cell? ⟨w.heap.size, 0, none⟩ = some (.int .i64 co0) := D1.out.ct.bc.cell 0
      have fq0 := D1.out.ct.bc.frozen 0
      have q1 : v1.cell? ⟨w.heap.size, 1, none⟩ = some (.int .i64 sy0) := D1.out.ct.bc.cell 1
      have fq1 := D1.out.ct.bc.frozen 1
      have q2 : v1.cell? ⟨w.heap.size, 2, none⟩ = some (.int .i64 la0) := D1.out.ct.bc.cell 2
      have fq2 := D1.out.ct.bc.frozen 2
      have q3 : v1.cell? ⟨w.heap.size, 3, none⟩ = some (.int .i64 mo0) := D1.out.ct.bc.cell 3
      have fq3 := D1.out.ct.bc.frozen 3
      have q4 : v1.cell? ⟨w.heap.size, 4, none⟩ = some (.slice sc n kc) := D1.out.ct.bc.cell 4
      have fq4 := D1.out.ct.bc.frozen 4
      have p0 : v1.cell? ⟨w.heap.size + 1, 0, none⟩ = some (.int .i64 c1) := D1.out.ct.bt.cell 0
      have fp0 := D1.out.ct.bt.frozen 0
      have p1 : v1.cell? ⟨w.heap.size + 1, 1, none⟩ = some (.int .i64 d1) := D1.out.ct.bt.cell 1
      have fp1 := D1.out.ct.bt.frozen 1
      have p2 : v1.cell? ⟨w.heap.size + 1, 2, none⟩ = some (.int .i64 t1) := D1.out.ct.bt.cell 2
      have fp2 := D1.out.ct.bt.frozen 2
      have p3 : v1.cell? ⟨w.heap.size + 1, 3, none⟩ = some (.slice st q kt) := D1.out.ct.bt.cell 3
      have fp3 := D1.out.ct.bt.frozen 3
      go_wp2_with fail
      go_ret
      exact ⟨rfl, D1.out.ct.bel⟩
    have HB : Hid (cfgB ⟨co0, sy0, la0, mo0, l⟩ = true) := hb
    go_wp2_with fail
    refine (refConfig_any co0 sy0 la0 mo0 (.slice sc n kc) l _ C.out.ints (by have := HL.out.2; omega)).mono ?_
    rintro e v1 ⟨rfl, g1⟩
    rw [hb]
    have D1 : Hid (Cop w co0 sy0 la0 mo0 sc n kc l c1 d1 t1 st q kt m v1) := C.out.below g1
    have lv1 := D1.out.ct.bt.lt
    clear g1
    have q0 : v1.cell? ⟨w.heap.size, 0, none⟩ = some (.int .i64 co0) := D1.out.ct.bc.cell 0
    have fq0 := D1.out.ct.bc.frozen 0
    have q1 : v1.cell? ⟨w.heap.size, 1, none⟩ = some (.int .i64 sy0) := D1.out.ct.bc.cell 1
    have fq1 := D1.out.ct.bc.frozen 1
    have q2 : v1.cell? ⟨w.heap.size, 2, none⟩ = some (.int .i64 la0) := D1.out.ct.bc.cell 2
    have fq2 := D1.out.ct.bc.frozen 2
    have q3 : v1.cell? ⟨w.heap.size, 3, none⟩ = some (.int .i64 mo0) := D1.out.ct.bc.cell 3
    have fq3 := D1.out.ct.bc.frozen 3
    have q4 : v1.cell? ⟨w.heap.size, 4, none⟩ = some (.slice sc n kc) := D1.out.ct.bc.cell 4
    have fq4 := D1.out.ct.bc.frozen 4
    have p0 : v1.cell? ⟨w.heap.size + 1, 0, none⟩ = some (.int .i64 c1) := D1.out.ct.bt.cell 0
    have fp0 := D1.out.ct.bt.frozen 0
    have p1 : v1.cell? ⟨w.heap.size + 1, 1, none⟩ = some (.int .i64 d1) := D1.out.ct.bt.cell 1
    have fp1 := D1.out.ct.bt.frozen 1
    have p2 : v1.cell? ⟨w.heap.size + 1, 2, none⟩ = some (.int .i64 t1) := D1.out.ct.bt.cell 2
    have fp2 := D1.out.ct.bt.frozen 2
    have p3 : v1.cell? ⟨w.heap.size + 1, 3, none⟩ = some (.slice st q kt) := D1.out.ct.bt.cell 3
    have fp3 := D1.out.ct.bt.frozen 3
    clear hb C lw
    obtain ⟨i0, hi0, hz0, hz1, hz2⟩ := info_parts infoS
    obtain ⟨B, hB⟩ : ∃ B, (wrap64 (a2.tmod 6 + 6)).tmod 6 = B := ⟨_, rfl⟩
    by_cases y0 : B = 0
    · -- [B0
      subst y0
      have G0 : Hid (Tn w co0 sy0 la0 mo0 sc n kc l a3 d1 t1 st q kt m _) := D1.out.turn0 a3
      go_wp2_with fail
      generalize hZ : World.setCell _ _ _ = Z at G0 ⊢
      have G : Hid (Tn w co0 sy0 la0 mo0 sc n kc l a3 d1 t1 st q kt m Z) := G0.out
      clear hZ G0 D1 q0 q1 q2 q3 q4 p0 p1 p2 p3 fq0 fq1 fq2 fq3 fq4 fp0 fp1 fp2 fp3
      obtain ⟨X, hX⟩ : ∃ X, tskB n ⟨a3, d1, t1, m⟩ = X := ⟨_, rfl⟩
      have HX : Hid (tskB n ⟨a3, d1, t1, m⟩ = X) := hX
      clear hX
      have ml : (m : List Sec).length ≤ 1000000 := by have := HM.out.2; omega
      have ga0 : Z.cell? ⟨w.heap.size, 0, none⟩ = some (.int .i64 co0) := G.out.bc.cell 0
      have ga1 : Z.cell? ⟨w.heap.size, 1, none⟩ = some (.int .i64 sy0) := G.out.bc.cell 1
      have ga2 : Z.cell? ⟨w.heap.size, 2, none⟩ = some (.int .i64 la0) := G.out.bc.cell 2
      have ga3 : Z.cell? ⟨w.heap.size, 3, none⟩ = some (.int .i64 mo0) := G.out.bc.cell 3
      have ga4 : Z.cell? ⟨w.heap.size, 4, none⟩ = some (.slice sc n kc) := G.out.bc.cell 4
      have gb0 : Z.cell? ⟨w.heap.size + 1, 0, none⟩ = some (.int .i64 a3) := G.out.bt.cell 0
      have gb1 : Z.cell? ⟨w.heap.size + 1, 1, none⟩ = some (.int .i64 d1) := G.out.bt.cell 1
      have gb2 : Z.cell? ⟨w.heap.size + 1, 2, none⟩ = some (.int .i64 t1) := G.out.bt.cell 2
      have gb3 : Z.cell? ⟨w.heap.size + 1, 3, none⟩ = some (.slice st q kt) := G.out.bt.cell 3
      go_region_held3 (fun w' => w'.cell? ⟨w.heap.size, 0, none⟩ = some (.int .i64 co0) ∧ w'.cell? ⟨w.heap.size, 1, none⟩ = some (.int .i64 sy0) ∧ w'.cell? ⟨w.heap.size, 2, none⟩ = some (.int .i64 la0) ∧ w'.cell? ⟨w.heap.size, 3, none⟩ = some (.int .i64 mo0) ∧ w'.cell? ⟨w.heap.size, 4, none⟩ = some (.slice sc n kc) ∧ w'.cell? ⟨w.heap.size + 1, 0, none⟩ = some (.int .i64 a3) ∧ w'.cell? ⟨w.heap.size + 1, 1, none⟩ = some (.int .i64 d1) ∧ w'.cell? ⟨w.heap.size + 1, 2, none⟩ = some (.int .i64 t1) ∧ w'.cell? ⟨w.heap.size + 1, 3, none⟩ = some (.slice st q kt)) (first | exact ⟨ga0, ga1, ga2, ga3, ga4, gb0, gb1, gb2, gb3⟩ | go_keep | exact ⟨ha0, ha1, ha2, ha3, ha4, hb0, hb1, hb2, hb3⟩ | exact ⟨ja0, ja1, ja2, ja3, ja4, jb0, jb1, jb2, jb3⟩) (first | (go_at_call 13; refine (rtask_at co0 sy0 la0 mo0 (.slice sc n kc) l a3 d1 t1 (.slice st q kt) (m) _ (by first | exact G.out.ints | exact G.out.drew.ints) (by have := HL.out.2; omega) (by first | exact G.out.secs | exact G.out.drew.secs) ml HB.out n HL.out.2 X HX.out).mono ?_; rintro e w5 ⟨rfl, g5⟩; have G5 : Hid (Tn w co0 sy0 la0 mo0 sc n kc l a3 d1 t1 st q kt m w5) := (by first | exact G.out.below g5 | exact G.out.drew.below g5); have ha0 : w5.cell? ⟨w.heap.size, 0, none⟩ = some (.int .i64 co0) := G5.out.bc.cell 0; have ha1 : w5.cell? ⟨w.heap.size, 1, none⟩ = some (.int .i64 sy0) := G5.out.bc.cell 1; have ha2 : w5.cell? ⟨w.heap.size, 2, none⟩ = some (.int .i64 la0) := G5.out.bc.cell 2; have ha3 : w5.cell? ⟨w.heap.size, 3, none⟩ = some (.int .i64 mo0) := G5.out.bc.cell 3; have ha4 : w5.cell? ⟨w.heap.size, 4, none⟩ = some (.slice sc n kc) := G5.out.bc.cell 4; have hb0 : w5.cell? ⟨w.heap.size + 1, 0, none⟩ = some (.int .i64 a3) := G5.out.bt.cell 0; have hb1 : w5.cell? ⟨w.heap.size + 1, 1, none⟩ = some (.int .i64 d1) := G5.out.bt.cell 1; have hb2 : w5.cell? ⟨w.heap.size + 1, 2, none⟩ = some (.int .i64 t1) := G5.out.bt.cell 2; have hb3 : w5.cell? ⟨w.heap.size + 1, 3, none⟩ = some (.slice st q kt) := G5.out.bt.cell 3; clear g5) | (go_at_call 14; refine (refTask_at co0 sy0 la0 mo0 sc n kc a3 d1 t1 (.slice st q kt) (m) _ (by first | exact G5.out.secs | exact G5.out.drew.secs) ml X HX.out).mono ?_; rintro e w6 ⟨rfl, g6⟩; have G6 : Hid (Tn w co0 sy0 la0 mo0 sc n kc l a3 d1 t1 st q kt m w6) := (by first | exact G5.out.below g6 | exact G5.out.drew.below g6); have ja0 : w6.cell? ⟨w.heap.size, 0, none⟩ = some (.int .i64 co0) := G6.out.bc.cell 0; have ja1 : w6.cell? ⟨w.heap.size, 1, none⟩ = some (.int .i64 sy0) := G6.out.bc.cell 1; have ja2 : w6.cell? ⟨w.heap.size, 2, none⟩ = some (.int .i64 la0) := G6.out.bc.cell 2; have ja3 : w6.cell? ⟨w.heap.size, 3, none⟩ = some (.int .i64 mo0) := G6.out.bc.cell 3; have ja4 : w6.cell? ⟨w.heap.size, 4, none⟩ = some (.slice sc n kc) := G6.out.bc.cell 4; have jb0 : w6.cell? ⟨w.heap.size + 1, 0, none⟩ = some (.int .i64 a3) := G6.out.bt.cell 0; have jb1 : w6.cell? ⟨w.heap.size + 1, 1, none⟩ = some (.int .i64 d1) := G6.out.bt.cell 1; have jb2 : w6.cell? ⟨w.heap.size + 1, 2, none⟩ = some (.int .i64 t1) := G6.out.bt.cell 2; have jb3 : w6.cell? ⟨w.heap.size + 1, 3, none⟩ = some (.slice st q kt) := G6.out.bt.cell 3; clear g6))
      go_wp2_with fail
      go_ret
      exact ⟨ret_bool (by simp), G6.out.bel⟩
      -- ]B0
    by_cases y1 : B = 1
    · -- [B1
      subst y1
      have G0 : Hid (Tn w co0 sy0 la0 mo0 sc n kc l c1 a3 t1 st q kt m _) := D1.out.turn1 a3
      go_wp2_with fail
      generalize hZ : World.setCell _ _ _ = Z at G0 ⊢
      have G : Hid (Tn w co0 sy0 la0 mo0 sc n kc l c1 a3 t1 st q kt m Z) := G0.out
      clear hZ G0 D1 q0 q1 q2 q3 q4 p0 p1 p2 p3 fq0 fq1 fq2 fq3 fq4 fp0 fp1 fp2 fp3
      obtain ⟨X, hX⟩ : ∃ X, tskB n ⟨c1, a3, t1, m⟩ = X := ⟨_, rfl⟩
      have HX : Hid (tskB n ⟨c1, a3, t1, m⟩ = X) := hX
      clear hX
      have ml : (m : List Sec).length ≤ 1000000 := by have := HM.out.2; omega
      have ga0 : Z.cell? ⟨w.heap.size, 0, none⟩ = some (.int .i64 co0) := G.out.bc.cell 0
      have ga1 : Z.cell? ⟨w.heap.size, 1, none⟩ = some (.int .i64 sy0) := G.out.bc.cell 1
      have ga2 : Z.cell? ⟨w.heap.size, 2, none⟩ = some (.int .i64 la0) := G.out.bc.cell 2
      have ga3 : Z.cell? ⟨w.heap.size, 3, none⟩ = some (.int .i64 mo0) := G.out.bc.cell 3
      have ga4 : Z.cell? ⟨w.heap.size, 4, none⟩ = some (.slice sc n kc) := G.out.bc.cell 4
      have gb0 : Z.cell? ⟨w.heap.size + 1, 0, none⟩ = some (.int .i64 c1) := G.out.bt.cell 0
      have gb1 : Z.cell? ⟨w.heap.size + 1, 1, none⟩ = some (.int .i64 a3) := G.out.bt.cell 1
      have gb2 : Z.cell? ⟨w.heap.size + 1, 2, none⟩ = some (.int .i64 t1) := G.out.bt.cell 2
      have gb3 : Z.cell? ⟨w.heap.size + 1, 3, none⟩ = some (.slice st q kt) := G.out.bt.cell 3
      go_region_held3 (fun w' => w'.cell? ⟨w.heap.size, 0, none⟩ = some (.int .i64 co0) ∧ w'.cell? ⟨w.heap.size, 1, none⟩ = some (.int .i64 sy0) ∧ w'.cell? ⟨w.heap.size, 2, none⟩ = some (.int .i64 la0) ∧ w'.cell? ⟨w.heap.size, 3, none⟩ = some (.int .i64 mo0) ∧ w'.cell? ⟨w.heap.size, 4, none⟩ = some (.slice sc n kc) ∧ w'.cell? ⟨w.heap.size + 1, 0, none⟩ = some (.int .i64 c1) ∧ w'.cell? ⟨w.heap.size + 1, 1, none⟩ = some (.int .i64 a3) ∧ w'.cell? ⟨w.heap.size + 1, 2, none⟩ = some (.int .i64 t1) ∧ w'.cell? ⟨w.heap.size + 1, 3, none⟩ = some (.slice st q kt)) (first | exact ⟨ga0, ga1, ga2, ga3, ga4, gb0, gb1, gb2, gb3⟩ | go_keep | exact ⟨ha0, ha1, ha2, ha3, ha4, hb0, hb1, hb2, hb3⟩ | exact ⟨ja0, ja1, ja2, ja3, ja4, jb0, jb1, jb2, jb3⟩) (first | (go_at_call 13; refine (rtask_at co0 sy0 la0 mo0 (.slice sc n kc) l c1 a3 t1 (.slice st q kt) (m) _ (by first | exact G.out.ints | exact G.out.drew.ints) (by have := HL.out.2; omega) (by first | exact G.out.secs | exact G.out.drew.secs) ml HB.out n HL.out.2 X HX.out).mono ?_; rintro e w5 ⟨rfl, g5⟩; have G5 : Hid (Tn w co0 sy0 la0 mo0 sc n kc l c1 a3 t1 st q kt m w5) := (by first | exact G.out.below g5 | exact G.out.drew.below g5); have ha0 : w5.cell? ⟨w.heap.size, 0, none⟩ = some (.int .i64 co0) := G5.out.bc.cell 0; have ha1 : w5.cell? ⟨w.heap.size, 1, none⟩ = some (.int .i64 sy0) := G5.out.bc.cell 1; have ha2 : w5.cell? ⟨w.heap.size, 2, none⟩ = some (.int .i64 la0) := G5.out.bc.cell 2; have ha3 : w5.cell? ⟨w.heap.size, 3, none⟩ = some (.int .i64 mo0) := G5.out.bc.cell 3; have ha4 : w5.cell? ⟨w.heap.size, 4, none⟩ = some (.slice sc n kc) := G5.out.bc.cell 4; have hb0 : w5.cell? ⟨w.heap.size + 1, 0, none⟩ = some (.int .i64 c1) := G5.out.bt.cell 0; have hb1 : w5.cell? ⟨w.heap.size + 1, 1, none⟩ = some (.int .i64 a3) := G5.out.bt.cell 1; have hb2 : w5.cell? ⟨w.heap.size + 1, 2, none⟩ = some (.int .i64 t1) := G5.out.bt.cell 2; have hb3 : w5.cell? ⟨w.heap.size + 1, 3, none⟩ = some (.slice st q kt) := G5.out.bt.cell 3; clear g5) | (go_at_call 14; refine (refTask_at co0 sy0 la0 mo0 sc n kc c1 a3 t1 (.slice st q kt) (m) _ (by first | exact G5.out.secs | exact G5.out.drew.secs) ml X HX.out).mono ?_; rintro e w6 ⟨rfl, g6⟩; have G6 : Hid (Tn w co0 sy0 la0 mo0 sc n kc l c1 a3 t1 st q kt m w6) := (by first | exact G5.out.below g6 | exact G5.out.drew.below g6); have ja0 : w6.cell? ⟨w.heap.size, 0, none⟩ = some (.int .i64 co0) := G6.out.bc.cell 0; have ja1 : w6.cell? ⟨w.heap.size, 1, none⟩ = some (.int .i64 sy0) := G6.out.bc.cell 1; have ja2 : w6.cell? ⟨w.heap.size, 2, none⟩ = some (.int .i64 la0) := G6.out.bc.cell 2; have ja3 : w6.cell? ⟨w.heap.size, 3, none⟩ = some (.int .i64 mo0) := G6.out.bc.cell 3; have ja4 : w6.cell? ⟨w.heap.size, 4, none⟩ = some (.slice sc n kc) := G6.out.bc.cell 4; have jb0 : w6.cell? ⟨w.heap.size + 1, 0, none⟩ = some (.int .i64 c1) := G6.out.bt.cell 0; have jb1 : w6.cell? ⟨w.heap.size + 1, 1, none⟩ = some (.int .i64 a3) := G6.out.bt.cell 1; have jb2 : w6.cell? ⟨w.heap.size + 1, 2, none⟩ = some (.int .i64 t1) := G6.out.bt.cell 2; have jb3 : w6.cell? ⟨w.heap.size + 1, 3, none⟩ = some (.slice st q kt) := G6.out.bt.cell 3; clear g6))
      go_wp2_with fail
      go_ret
      exact ⟨ret_bool (by simp), G6.out.bel⟩
      -- ]B1
    by_cases y2 : B = 2
    · -- [B2
      subst y2
      have G0 : Hid (Tn w co0 sy0 la0 mo0 sc n kc l c1 d1 a3 st q kt m _) := D1.out.turn2 a3
      go_wp2_with fail
      generalize hZ : World.setCell _ _ _ = Z at G0 ⊢
      have G : Hid (Tn w co0 sy0 la0 mo0 sc n kc l c1 d1 a3 st q kt m Z) := G0.out
      clear hZ G0 D1 q0 q1 q2 q3 q4 p0 p1 p2 p3 fq0 fq1 fq2 fq3 fq4 fp0 fp1 fp2 fp3
      obtain ⟨X, hX⟩ : ∃ X, tskB n ⟨c1, d1, a3, m⟩ = X := ⟨_, rfl⟩
      have HX : Hid (tskB n ⟨c1, d1, a3, m⟩ = X) := hX
      clear hX
      have ml : (m : List Sec).length ≤ 1000000 := by have := HM.out.2; omega
      have ga0 : Z.cell? ⟨w.heap.size, 0, none⟩ = some (.int .i64 co0) := G.out.bc.cell 0
      have ga1 : Z.cell? ⟨w.heap.size, 1, none⟩ = some (.int .i64 sy0) := G.out.bc.cell 1
      have ga2 : Z.cell? ⟨w.heap.size, 2, none⟩ = some (.int .i64 la0) := G.out.bc.cell 2
      have ga3 : Z.cell? ⟨w.heap.size, 3, none⟩ = some (.int .i64 mo0) := G.out.bc.cell 3
      have ga4 : Z.cell? ⟨w.heap.size, 4, none⟩ = some (.slice sc n kc) := G.out.bc.cell 4
      have gb0 : Z.cell? ⟨w.heap.size + 1, 0, none⟩ = some (.int .i64 c1) := G.out.bt.cell 0
      have gb1 : Z.cell? ⟨w.heap.size + 1, 1, none⟩ = some (.int .i64 d1) := G.out.bt.cell 1
      have gb2 : Z.cell? ⟨w.heap.size + 1, 2, none⟩ = some (.int .i64 a3) := G.out.bt.cell 2
      have gb3 : Z.cell? ⟨w.heap.size + 1, 3, none⟩ = some (.slice st q kt) := G.out.bt.cell 3
      go_region_held3 (fun w' => w'.cell? ⟨w.heap.size, 0, none⟩ = some (.int .i64 co0) ∧ w'.cell? ⟨w.heap.size, 1, none⟩ = some (.int .i64 sy0) ∧ w'.cell? ⟨w.heap.size, 2, none⟩ = some (.int .i64 la0) ∧ w'.cell? ⟨w.heap.size, 3, none⟩ = some (.int .i64 mo0) ∧ w'.cell? ⟨w.heap.size, 4, none⟩ = some (.slice sc n kc) ∧ w'.cell? ⟨w.heap.size + 1, 0, none⟩ = some (.int .i64 c1) ∧ w'.cell? ⟨w.heap.size + 1, 1, none⟩ = some (.int .i64 d1) ∧ w'.cell? ⟨w.heap.size + 1, 2, none⟩ = some (.int .i64 a3) ∧ w'.cell? ⟨w.heap.size + 1, 3, none⟩ = some (.slice st q kt)) (first | exact ⟨ga0, ga1, ga2, ga3, ga4, gb0, gb1, gb2, gb3⟩ | go_keep | exact ⟨ha0, ha1, ha2, ha3, ha4, hb0, hb1, hb2, hb3⟩ | exact ⟨ja0, ja1, ja2, ja3, ja4, jb0, jb1, jb2, jb3⟩) (first | (go_at_call 13; refine (rtask_at co0 sy0 la0 mo0 (.slice sc n kc) l c1 d1 a3 (.slice st q kt) (m) _ (by first | exact G.out.ints | exact G.out.drew.ints) (by have := HL.out.2; omega) (by first | exact G.out.secs | exact G.out.drew.secs) ml HB.out n HL.out.2 X HX.out).mono ?_; rintro e w5 ⟨rfl, g5⟩; have G5 : Hid (Tn w co0 sy0 la0 mo0 sc n kc l c1 d1 a3 st q kt m w5) := (by first | exact G.out.below g5 | exact G.out.drew.below g5); have ha0 : w5.cell? ⟨w.heap.size, 0, none⟩ = some (.int .i64 co0) := G5.out.bc.cell 0; have ha1 : w5.cell? ⟨w.heap.size, 1, none⟩ = some (.int .i64 sy0) := G5.out.bc.cell 1; have ha2 : w5.cell? ⟨w.heap.size, 2, none⟩ = some (.int .i64 la0) := G5.out.bc.cell 2; have ha3 : w5.cell? ⟨w.heap.size, 3, none⟩ = some (.int .i64 mo0) := G5.out.bc.cell 3; have ha4 : w5.cell? ⟨w.heap.size, 4, none⟩ = some (.slice sc n kc) := G5.out.bc.cell 4; have hb0 : w5.cell? ⟨w.heap.size + 1, 0, none⟩ = some (.int .i64 c1) := G5.out.bt.cell 0; have hb1 : w5.cell? ⟨w.heap.size + 1, 1, none⟩ = some (.int .i64 d1) := G5.out.bt.cell 1; have hb2 : w5.cell? ⟨w.heap.size + 1, 2, none⟩ = some (.int .i64 a3) := G5.out.bt.cell 2; have hb3 : w5.cell? ⟨w.heap.size + 1, 3, none⟩ = some (.slice st q kt) := G5.out.bt.cell 3; clear g5) | (go_at_call 14; refine (refTask_at co0 sy0 la0 mo0 sc n kc c1 d1 a3 (.slice st q kt) (m) _ (by first | exact G5.out.secs | exact G5.out.drew.secs) ml X HX.out).mono ?_; rintro e w6 ⟨rfl, g6⟩; have G6 : Hid (Tn w co0 sy0 la0 mo0 sc n kc l c1 d1 a3 st q kt m w6) := (by first | exact G5.out.below g6 | exact G5.out.drew.below g6); have ja0 : w6.cell? ⟨w.heap.size, 0, none⟩ = some (.int .i64 co0) := G6.out.bc.cell 0; have ja1 : w6.cell? ⟨w.heap.size, 1, none⟩ = some (.int .i64 sy0) := G6.out.bc.cell 1; have ja2 : w6.cell? ⟨w.heap.size, 2, none⟩ = some (.int .i64 la0) := G6.out.bc.cell 2; have ja3 : w6.cell? ⟨w.heap.size, 3, none⟩ = some (.int .i64 mo0) := G6.out.bc.cell 3; have ja4 : w6.cell? ⟨w.heap.size, 4, none⟩ = some (.slice sc n kc) := G6.out.bc.cell 4; have jb0 : w6.cell? ⟨w.heap.size + 1, 0, none⟩ = some (.int .i64 c1) := G6.out.bt.cell 0; have jb1 : w6.cell? ⟨w.heap.size + 1, 1, none⟩ = some (.int .i64 d1) := G6.out.bt.cell 1; have jb2 : w6.cell? ⟨w.heap.size + 1, 2, none⟩ = some (.int .i64 a3) := G6.out.bt.cell 2; have jb3 : w6.cell? ⟨w.heap.size + 1, 3, none⟩ = some (.slice st q kt) := G6.out.bt.cell 3; clear g6))
      go_wp2_with fail
      go_ret
      exact ⟨ret_bool (by simp), G6.out.bel⟩
      -- ]B2
    by_cases y3 : B = 3
    · -- [B3
      subst y3
      go_wp2_with (at_builtin; refine wpList_append_own_at _ rfl (.tmp 43) (.tmp 46) 25 rfl (w.heap.size + 2) 33 i0 (.agg #[.int .i64 0, .int .i64 0, .int .i64 0]) 3 24 Tryd.underlying25 hi0 hz0 hz1 hz2 rfl (by decide) _ _ _ rfl (D1.out.ot.alloc _) ⟨v1.heap.size, 0, none⟩ 1 1 [.int .i64 0, .int .i64 a3, .int .i64 1] rfl rfl (cell_three _ _ _ _ _) (by intro u hu; simp at hu; rcases hu with rfl | rfl | rfl <;> rfl) (by unfold maxLen; omega) (by omega) (by simp; omega) ?_; intro v7 w7 own7 grow7 nil7 at7; obtain ⟨s7, k7, e7⟩ := own_form own7; subst e7; obtain ⟨bt7, tn7⟩ := D1.out.app (s := ⟨0, a3, 1⟩) grow7 own7; have G0 : Hid (Tn w co0 sy0 la0 mo0 sc n kc l c1 d1 t1 s7 (q + 1) k7 (m ++ [⟨0, a3, 1⟩]) _) := tn7; have r0 : w7.cell? ⟨w.heap.size + 1, 0, none⟩ = some (.int .i64 c1) := bt7.cell 0; have fr0 := bt7.frozen 0; have r1 : w7.cell? ⟨w.heap.size + 1, 1, none⟩ = some (.int .i64 d1) := bt7.cell 1; have fr1 := bt7.frozen 1; have r2 : w7.cell? ⟨w.heap.size + 1, 2, none⟩ = some (.int .i64 t1) := bt7.cell 2; have fr2 := bt7.frozen 2; have r3 : w7.cell? ⟨w.heap.size + 1, 3, none⟩ = some (.slice st q kt) := bt7.cell 3; have fr3 := bt7.frozen 3; clear own7 grow7 nil7 at7 tn7 bt7)
      generalize hZ : World.setCell _ _ _ = Z at G0 ⊢
      have G : Hid (Tn w co0 sy0 la0 mo0 sc n kc l c1 d1 t1 s7 (q + 1) k7 (m ++ [⟨0, a3, 1⟩]) Z) := G0.out
      clear hZ G0 D1 q0 q1 q2 q3 q4 p0 p1 p2 p3 fq0 fq1 fq2 fq3 fq4 fp0 fp1 fp2 fp3 r0 r1 r2 r3 fr0 fr1 fr2 fr3
      obtain ⟨X, hX⟩ : ∃ X, tskB n ⟨c1, d1, t1, (m ++ [⟨0, a3, 1⟩])⟩ = X := ⟨_, rfl⟩
      have HX : Hid (tskB n ⟨c1, d1, t1, (m ++ [⟨0, a3, 1⟩])⟩ = X) := hX
      clear hX
      have ml : ((m ++ [⟨0, a3, 1⟩]) : List Sec).length ≤ 1000000 := by rw [List.length_append, HM.out.2]; simp; omega
      have ga0 : Z.cell? ⟨w.heap.size, 0, none⟩ = some (.int .i64 co0) := G.out.bc.cell 0
      have ga1 : Z.cell? ⟨w.heap.size, 1, none⟩ = some (.int .i64 sy0) := G.out.bc.cell 1
      have ga2 : Z.cell? ⟨w.heap.size, 2, none⟩ = some (.int .i64 la0) := G.out.bc.cell 2
      have ga3 : Z.cell? ⟨w.heap.size, 3, none⟩ = some (.int .i64 mo0) := G.out.bc.cell 3
      have ga4 : Z.cell? ⟨w.heap.size, 4, none⟩ = some (.slice sc n kc) := G.out.bc.cell 4
      have gb0 : Z.cell? ⟨w.heap.size + 1, 0, none⟩ = some (.int .i64 c1) := G.out.bt.cell 0
      have gb1 : Z.cell? ⟨w.heap.size + 1, 1, none⟩ = some (.int .i64 d1) := G.out.bt.cell 1
      have gb2 : Z.cell? ⟨w.heap.size + 1, 2, none⟩ = some (.int .i64 t1) := G.out.bt.cell 2
      have gb3 : Z.cell? ⟨w.heap.size + 1, 3, none⟩ = some (.slice s7 (q + 1) k7) := G.out.bt.cell 3
      go_region_held3 (fun w' => w'.cell? ⟨w.heap.size, 0, none⟩ = some (.int .i64 co0) ∧ w'.cell? ⟨w.heap.size, 1, none⟩ = some (.int .i64 sy0) ∧ w'.cell? ⟨w.heap.size, 2, none⟩ = some (.int .i64 la0) ∧ w'.cell? ⟨w.heap.size, 3, none⟩ = some (.int .i64 mo0) ∧ w'.cell? ⟨w.heap.size, 4, none⟩ = some (.slice sc n kc) ∧ w'.cell? ⟨w.heap.size + 1, 0, none⟩ = some (.int .i64 c1) ∧ w'.cell? ⟨w.heap.size + 1, 1, none⟩ = some (.int .i64 d1) ∧ w'.cell? ⟨w.heap.size + 1, 2, none⟩ = some (.int .i64 t1) ∧ w'.cell? ⟨w.heap.size + 1, 3, none⟩ = some (.slice s7 (q + 1) k7)) (first | exact ⟨ga0, ga1, ga2, ga3, ga4, gb0, gb1, gb2, gb3⟩ | go_keep | exact ⟨ha0, ha1, ha2, ha3, ha4, hb0, hb1, hb2, hb3⟩ | exact ⟨ja0, ja1, ja2, ja3, ja4, jb0, jb1, jb2, jb3⟩) (first | (go_at_call 13; refine (rtask_at co0 sy0 la0 mo0 (.slice sc n kc) l c1 d1 t1 (.slice s7 (q + 1) k7) ((m ++ [⟨0, a3, 1⟩])) _ (by first | exact G.out.ints | exact G.out.drew.ints) (by have := HL.out.2; omega) (by first | exact G.out.secs | exact G.out.drew.secs) ml HB.out n HL.out.2 X HX.out).mono ?_; rintro e w5 ⟨rfl, g5⟩; have G5 : Hid (Tn w co0 sy0 la0 mo0 sc n kc l c1 d1 t1 s7 (q + 1) k7 (m ++ [⟨0, a3, 1⟩]) w5) := (by first | exact G.out.below g5 | exact G.out.drew.below g5); have ha0 : w5.cell? ⟨w.heap.size, 0, none⟩ = some (.int .i64 co0) := G5.out.bc.cell 0; have ha1 : w5.cell? ⟨w.heap.size, 1, none⟩ = some (.int .i64 sy0) := G5.out.bc.cell 1; have ha2 : w5.cell? ⟨w.heap.size, 2, none⟩ = some (.int .i64 la0) := G5.out.bc.cell 2; have ha3 : w5.cell? ⟨w.heap.size, 3, none⟩ = some (.int .i64 mo0) := G5.out.bc.cell 3; have ha4 : w5.cell? ⟨w.heap.size, 4, none⟩ = some (.slice sc n kc) := G5.out.bc.cell 4; have hb0 : w5.cell? ⟨w.heap.size + 1, 0, none⟩ = some (.int .i64 c1) := G5.out.bt.cell 0; have hb1 : w5.cell? ⟨w.heap.size + 1, 1, none⟩ = some (.int .i64 d1) := G5.out.bt.cell 1; have hb2 : w5.cell? ⟨w.heap.size + 1, 2, none⟩ = some (.int .i64 t1) := G5.out.bt.cell 2; have hb3 : w5.cell? ⟨w.heap.size + 1, 3, none⟩ = some (.slice s7 (q + 1) k7) := G5.out.bt.cell 3; clear g5) | (go_at_call 14; refine (refTask_at co0 sy0 la0 mo0 sc n kc c1 d1 t1 (.slice s7 (q + 1) k7) ((m ++ [⟨0, a3, 1⟩])) _ (by first | exact G5.out.secs | exact G5.out.drew.secs) ml X HX.out).mono ?_; rintro e w6 ⟨rfl, g6⟩; have G6 : Hid (Tn w co0 sy0 la0 mo0 sc n kc l c1 d1 t1 s7 (q + 1) k7 (m ++ [⟨0, a3, 1⟩]) w6) := (by first | exact G5.out.below g6 | exact G5.out.drew.below g6); have ja0 : w6.cell? ⟨w.heap.size, 0, none⟩ = some (.int .i64 co0) := G6.out.bc.cell 0; have ja1 : w6.cell? ⟨w.heap.size, 1, none⟩ = some (.int .i64 sy0) := G6.out.bc.cell 1; have ja2 : w6.cell? ⟨w.heap.size, 2, none⟩ = some (.int .i64 la0) := G6.out.bc.cell 2; have ja3 : w6.cell? ⟨w.heap.size, 3, none⟩ = some (.int .i64 mo0) := G6.out.bc.cell 3; have ja4 : w6.cell? ⟨w.heap.size, 4, none⟩ = some (.slice sc n kc) := G6.out.bc.cell 4; have jb0 : w6.cell? ⟨w.heap.size + 1, 0, none⟩ = some (.int .i64 c1) := G6.out.bt.cell 0; have jb1 : w6.cell? ⟨w.heap.size + 1, 1, none⟩ = some (.int .i64 d1) := G6.out.bt.cell 1; have jb2 : w6.cell? ⟨w.heap.size + 1, 2, none⟩ = some (.int .i64 t1) := G6.out.bt.cell 2; have jb3 : w6.cell? ⟨w.heap.size + 1, 3, none⟩ = some (.slice s7 (q + 1) k7) := G6.out.bt.cell 3; clear g6))
      go_wp2_with fail
      go_ret
      exact ⟨ret_bool (by simp), G6.out.bel⟩
      -- ]B3
    by_cases y4 : B = 4
    · -- [B4
      subst y4
      have G0 : Hid (Tn w co0 sy0 la0 mo0 sc n kc l c1 d1 t1 (some ⟨v1.heap.size, 0, none⟩) 1 1 [⟨0, 1, a3⟩] _) := D1.out.lit (0) (1) (a3)
      go_wp2_with fail
      generalize hZ : World.alloc _ _ = Z at G0 ⊢
      have G : Hid (Tn w co0 sy0 la0 mo0 sc n kc l c1 d1 t1 (some ⟨v1.heap.size, 0, none⟩) 1 1 [⟨0, 1, a3⟩] Z) := G0.out
      clear hZ G0 D1 q0 q1 q2 q3 q4 p0 p1 p2 p3 fq0 fq1 fq2 fq3 fq4 fp0 fp1 fp2 fp3
      obtain ⟨X, hX⟩ : ∃ X, tskB n ⟨c1, d1, t1, [⟨0, 1, a3⟩]⟩ = X := ⟨_, rfl⟩
      have HX : Hid (tskB n ⟨c1, d1, t1, [⟨0, 1, a3⟩]⟩ = X) := hX
      clear hX
      have ml : ([⟨0, 1, a3⟩] : List Sec).length ≤ 1000000 := by simp
      have ga0 : Z.cell? ⟨w.heap.size, 0, none⟩ = some (.int .i64 co0) := G.out.bc.cell 0
      have ga1 : Z.cell? ⟨w.heap.size, 1, none⟩ = some (.int .i64 sy0) := G.out.bc.cell 1
      have ga2 : Z.cell? ⟨w.heap.size, 2, none⟩ = some (.int .i64 la0) := G.out.bc.cell 2
      have ga3 : Z.cell? ⟨w.heap.size, 3, none⟩ = some (.int .i64 mo0) := G.out.bc.cell 3
      have ga4 : Z.cell? ⟨w.heap.size, 4, none⟩ = some (.slice sc n kc) := G.out.bc.cell 4
      have gb0 : Z.cell? ⟨w.heap.size + 1, 0, none⟩ = some (.int .i64 c1) := G.out.bt.cell 0
      have gb1 : Z.cell? ⟨w.heap.size + 1, 1, none⟩ = some (.int .i64 d1) := G.out.bt.cell 1
      have gb2 : Z.cell? ⟨w.heap.size + 1, 2, none⟩ = some (.int .i64 t1) := G.out.bt.cell 2
      have gb3 : Z.cell? ⟨w.heap.size + 1, 3, none⟩ = some (.slice (some ⟨v1.heap.size, 0, none⟩) 1 1) := G.out.bt.cell 3
      go_region_held3 (fun w' => w'.cell? ⟨w.heap.size, 0, none⟩ = some (.int .i64 co0) ∧ w'.cell? ⟨w.heap.size, 1, none⟩ = some (.int .i64 sy0) ∧ w'.cell? ⟨w.heap.size, 2, none⟩ = some (.int .i64 la0) ∧ w'.cell? ⟨w.heap.size, 3, none⟩ = some (.int .i64 mo0) ∧ w'.cell? ⟨w.heap.size, 4, none⟩ = some (.slice sc n kc) ∧ w'.cell? ⟨w.heap.size + 1, 0, none⟩ = some (.int .i64 c1) ∧ w'.cell? ⟨w.heap.size + 1, 1, none⟩ = some (.int .i64 d1) ∧ w'.cell? ⟨w.heap.size + 1, 2, none⟩ = some (.int .i64 t1) ∧ w'.cell? ⟨w.heap.size + 1, 3, none⟩ = some (.slice (some ⟨v1.heap.size, 0, none⟩) 1 1)) (first | exact ⟨ga0, ga1, ga2, ga3, ga4, gb0, gb1, gb2, gb3⟩ | go_keep | exact ⟨ha0, ha1, ha2, ha3, ha4, hb0, hb1, hb2, hb3⟩ | exact ⟨ja0, ja1, ja2, ja3, ja4, jb0, jb1, jb2, jb3⟩) (first | (go_at_call 13; refine (rtask_at co0 sy0 la0 mo0 (.slice sc n kc) l c1 d1 t1 (.slice (some ⟨v1.heap.size, 0, none⟩) 1 1) ([⟨0, 1, a3⟩]) _ (by first | exact G.out.ints | exact G.out.drew.ints) (by have := HL.out.2; omega) (by first | exact G.out.secs | exact G.out.drew.secs) ml HB.out n HL.out.2 X HX.out).mono ?_; rintro e w5 ⟨rfl, g5⟩; have G5 : Hid (Tn w co0 sy0 la0 mo0 sc n kc l c1 d1 t1 (some ⟨v1.heap.size, 0, none⟩) 1 1 [⟨0, 1, a3⟩] w5) := (by first | exact G.out.below g5 | exact G.out.drew.below g5); have ha0 : w5.cell? ⟨w.heap.size, 0, none⟩ = some (.int .i64 co0) := G5.out.bc.cell 0; have ha1 : w5.cell? ⟨w.heap.size, 1, none⟩ = some (.int .i64 sy0) := G5.out.bc.cell 1; have ha2 : w5.cell? ⟨w.heap.size, 2, none⟩ = some (.int .i64 la0) := G5.out.bc.cell 2; have ha3 : w5.cell? ⟨w.heap.size, 3, none⟩ = some (.int .i64 mo0) := G5.out.bc.cell 3; have ha4 : w5.cell? ⟨w.heap.size, 4, none⟩ = some (.slice sc n kc) := G5.out.bc.cell 4; have hb0 : w5.cell? ⟨w.heap.size + 1, 0, none⟩ = some (.int .i64 c1) := G5.out.bt.cell 0; have hb1 : w5.cell? ⟨w.heap.size + 1, 1, none⟩ = some (.int .i64 d1) := G5.out.bt.cell 1; have hb2 : w5.cell? ⟨w.heap.size + 1, 2, none⟩ = some (.int .i64 t1) := G5.out.bt.cell 2; have hb3 : w5.cell? ⟨w.heap.size + 1, 3, none⟩ = some (.slice (some ⟨v1.heap.size, 0, none⟩) 1 1) := G5.out.bt.cell 3; clear g5) | (go_at_call 14; refine (refTask_at co0 sy0 la0 mo0 sc n kc c1 d1 t1 (.slice (some ⟨v1.heap.size, 0, none⟩) 1 1) ([⟨0, 1, a3⟩]) _ (by first | exact G5.out.secs | exact G5.out.drew.secs) ml X HX.out).mono ?_; rintro e w6 ⟨rfl, g6⟩; have G6 : Hid (Tn w co0 sy0 la0 mo0 sc n kc l c1 d1 t1 (some ⟨v1.heap.size, 0, none⟩) 1 1 [⟨0, 1, a3⟩] w6) := (by first | exact G5.out.below g6 | exact G5.out.drew.below g6); have ja0 : w6.cell? ⟨w.heap.size, 0, none⟩ = some (.int .i64 co0) := G6.out.bc.cell 0; have ja1 : w6.cell? ⟨w.heap.size, 1, none⟩ = some (.int .i64 sy0) := G6.out.bc.cell 1; have ja2 : w6.cell? ⟨w.heap.size, 2, none⟩ = some (.int .i64 la0) := G6.out.bc.cell 2; have ja3 : w6.cell? ⟨w.heap.size, 3, none⟩ = some (.int .i64 mo0) := G6.out.bc.cell 3; have ja4 : w6.cell? ⟨w.heap.size, 4, none⟩ = some (.slice sc n kc) := G6.out.bc.cell 4; have jb0 : w6.cell? ⟨w.heap.size + 1, 0, none⟩ = some (.int .i64 c1) := G6.out.bt.cell 0; have jb1 : w6.cell? ⟨w.heap.size + 1, 1, none⟩ = some (.int .i64 d1) := G6.out.bt.cell 1; have jb2 : w6.cell? ⟨w.heap.size + 1, 2, none⟩ = some (.int .i64 t1) := G6.out.bt.cell 2; have jb3 : w6.cell? ⟨w.heap.size + 1, 3, none⟩ = some (.slice (some ⟨v1.heap.size, 0, none⟩) 1 1) := G6.out.bt.cell 3; clear g6))
      go_wp2_with fail
      go_ret
      exact ⟨ret_bool (by simp), G6.out.bel⟩
      -- ]B4
    · -- [B5
      have G0 : Hid (Tn w co0 sy0 la0 mo0 sc n kc l c1 d1 t1 (some ⟨v1.heap.size, 0, none⟩) 1 1 [⟨a3, 1, 1⟩] _) := D1.out.lit (a3) (1) (1)
      go_wp2_with fail
      generalize hZ : World.alloc _ _ = Z at G0 ⊢
      have G : Hid (Tn w co0 sy0 la0 mo0 sc n kc l c1 d1 t1 (some ⟨v1.heap.size, 0, none⟩) 1 1 [⟨a3, 1, 1⟩] Z) := G0.out
      clear hZ G0 D1 q0 q1 q2 q3 q4 p0 p1 p2 p3 fq0 fq1 fq2 fq3 fq4 fp0 fp1 fp2 fp3
      obtain ⟨X, hX⟩ : ∃ X, tskB n ⟨c1, d1, t1, [⟨a3, 1, 1⟩]⟩ = X := ⟨_, rfl⟩
      have HX : Hid (tskB n ⟨c1, d1, t1, [⟨a3, 1, 1⟩]⟩ = X) := hX
      clear hX
      have ml : ([⟨a3, 1, 1⟩] : List Sec).length ≤ 1000000 := by simp
      have ga0 : Z.cell? ⟨w.heap.size, 0, none⟩ = some (.int .i64 co0) := G.out.bc.cell 0
      have ga1 : Z.cell? ⟨w.heap.size, 1, none⟩ = some (.int .i64 sy0) := G.out.bc.cell 1
      have ga2 : Z.cell? ⟨w.heap.size, 2, none⟩ = some (.int .i64 la0) := G.out.bc.cell 2
      have ga3 : Z.cell? ⟨w.heap.size, 3, none⟩ = some (.int .i64 mo0) := G.out.bc.cell 3
      have ga4 : Z.cell? ⟨w.heap.size, 4, none⟩ = some (.slice sc n kc) := G.out.bc.cell 4
      have gb0 : Z.cell? ⟨w.heap.size + 1, 0, none⟩ = some (.int .i64 c1) := G.out.bt.cell 0
      have gb1 : Z.cell? ⟨w.heap.size + 1, 1, none⟩ = some (.int .i64 d1) := G.out.bt.cell 1
      have gb2 : Z.cell? ⟨w.heap.size + 1, 2, none⟩ = some (.int .i64 t1) := G.out.bt.cell 2
      have gb3 : Z.cell? ⟨w.heap.size + 1, 3, none⟩ = some (.slice (some ⟨v1.heap.size, 0, none⟩) 1 1) := G.out.bt.cell 3
      go_region_held3 (fun w' => w'.cell? ⟨w.heap.size, 0, none⟩ = some (.int .i64 co0) ∧ w'.cell? ⟨w.heap.size, 1, none⟩ = some (.int .i64 sy0) ∧ w'.cell? ⟨w.heap.size, 2, none⟩ = some (.int .i64 la0) ∧ w'.cell? ⟨w.heap.size, 3, none⟩ = some (.int .i64 mo0) ∧ w'.cell? ⟨w.heap.size, 4, none⟩ = some (.slice sc n kc) ∧ w'.cell? ⟨w.heap.size + 1, 0, none⟩ = some (.int .i64 c1) ∧ w'.cell? ⟨w.heap.size + 1, 1, none⟩ = some (.int .i64 d1) ∧ w'.cell? ⟨w.heap.size + 1, 2, none⟩ = some (.int .i64 t1) ∧ w'.cell? ⟨w.heap.size + 1, 3, none⟩ = some (.slice (some ⟨v1.heap.size, 0, none⟩) 1 1)) (first | exact ⟨ga0, ga1, ga2, ga3, ga4, gb0, gb1, gb2, gb3⟩ | go_keep | exact ⟨ha0, ha1, ha2, ha3, ha4, hb0, hb1, hb2, hb3⟩ | exact ⟨ja0, ja1, ja2, ja3, ja4, jb0, jb1, jb2, jb3⟩) (first | (go_at_call 13; refine (rtask_at co0 sy0 la0 mo0 (.slice sc n kc) l c1 d1 t1 (.slice (some ⟨v1.heap.size, 0, none⟩) 1 1) ([⟨a3, 1, 1⟩]) _ (by first | exact G.out.ints | exact G.out.drew.ints) (by have := HL.out.2; omega) (by first | exact G.out.secs | exact G.out.drew.secs) ml HB.out n HL.out.2 X HX.out).mono ?_; rintro e w5 ⟨rfl, g5⟩; have G5 : Hid (Tn w co0 sy0 la0 mo0 sc n kc l c1 d1 t1 (some ⟨v1.heap.size, 0, none⟩) 1 1 [⟨a3, 1, 1⟩] w5) := (by first | exact G.out.below g5 | exact G.out.drew.below g5); have ha0 : w5.cell? ⟨w.heap.size, 0, none⟩ = some (.int .i64 co0) := G5.out.bc.cell 0; have ha1 : w5.cell? ⟨w.heap.size, 1, none⟩ = some (.int .i64 sy0) := G5.out.bc.cell 1; have ha2 : w5.cell? ⟨w.heap.size, 2, none⟩ = some (.int .i64 la0) := G5.out.bc.cell 2; have ha3 : w5.cell? ⟨w.heap.size, 3, none⟩ = some (.int .i64 mo0) := G5.out.bc.cell 3; have ha4 : w5.cell? ⟨w.heap.size, 4, none⟩ = some (.slice sc n kc) := G5.out.bc.cell 4; have hb0 : w5.cell? ⟨w.heap.size + 1, 0, none⟩ = some (.int .i64 c1) := G5.out.bt.cell 0; have hb1 : w5.cell? ⟨w.heap.size + 1, 1, none⟩ = some (.int .i64 d1) := G5.out.bt.cell 1; have hb2 : w5.cell? ⟨w.heap.size + 1, 2, none⟩ = some (.int .i64 t1) := G5.out.bt.cell 2; have hb3 : w5.cell? ⟨w.heap.size + 1, 3, none⟩ = some (.slice (some ⟨v1.heap.size, 0, none⟩) 1 1) := G5.out.bt.cell 3; clear g5) | (go_at_call 14; refine (refTask_at co0 sy0 la0 mo0 sc n kc c1 d1 t1 (.slice (some ⟨v1.heap.size, 0, none⟩) 1 1) ([⟨a3, 1, 1⟩]) _ (by first | exact G5.out.secs | exact G5.out.drew.secs) ml X HX.out).mono ?_; rintro e w6 ⟨rfl, g6⟩; have G6 : Hid (Tn w co0 sy0 la0 mo0 sc n kc l c1 d1 t1 (some ⟨v1.heap.size, 0, none⟩) 1 1 [⟨a3, 1, 1⟩] w6) := (by first | exact G5.out.below g6 | exact G5.out.drew.below g6); have ja0 : w6.cell? ⟨w.heap.size, 0, none⟩ = some (.int .i64 co0) := G6.out.bc.cell 0; have ja1 : w6.cell? ⟨w.heap.size, 1, none⟩ = some (.int .i64 sy0) := G6.out.bc.cell 1; have ja2 : w6.cell? ⟨w.heap.size, 2, none⟩ = some (.int .i64 la0) := G6.out.bc.cell 2; have ja3 : w6.cell? ⟨w.heap.size, 3, none⟩ = some (.int .i64 mo0) := G6.out.bc.cell 3; have ja4 : w6.cell? ⟨w.heap.size, 4, none⟩ = some (.slice sc n kc) := G6.out.bc.cell 4; have jb0 : w6.cell? ⟨w.heap.size + 1, 0, none⟩ = some (.int .i64 c1) := G6.out.bt.cell 0; have jb1 : w6.cell? ⟨w.heap.size + 1, 1, none⟩ = some (.int .i64 d1) := G6.out.bt.cell 1; have jb2 : w6.cell? ⟨w.heap.size + 1, 2, none⟩ = some (.int .i64 t1) := G6.out.bt.cell 2; have jb3 : w6.cell? ⟨w.heap.size + 1, 3, none⟩ = some (.slice (some ⟨v1.heap.size, 0, none⟩) 1 1) := G6.out.bt.cell 3; clear g6))
      go_wp2_with fail
      go_ret
      exact ⟨ret_bool (by simp), G6.out.bel⟩
      -- ]B5

set_option maxRecDepth 100000 in
theorem lifted (os : Os) (started : os.Started) (H : Type) (enc : TypeId × Value → H) :
    ReturnsInHanded {} Tryd.checked os 3 .any (fun w args => (Rows.ruleTurnSpec.pre enc Tryd.prog Tryd.f3 [] false w args ∧ laidMetH Tryd.prog laid5 w) ∧ sizedMet enc Tryd.prog Tryd.f3 (OpenSpec.ofChange Rows.ruleTurnSpec) false w args)
      (Rows.ruleTurnSpec.post enc Tryd.prog Tryd.f3 false true false false) := by
  refine returnsInHanded_of_change_and (C := Tryd.checked) (X := fun w _ => laidMetH Tryd.prog laid5 w) (fun _ _ _ hh h => h.of_heap hh) own started (by kernel_rfl) Tryd.func3
    (ChangeSpec.witness_shaped (enc := enc) (C := Tryd.checked) (os := os) (X := fun w _ => laidMetH Tryd.prog laid5 w) false (World.doorLaid Tryd.prog 62 os) #[.agg #[.int .i64 0, .int .i64 0, .int .i64 0, .int .i64 0, .slice none 0 0], .agg #[.int .i64 0, .int .i64 0, .int .i64 0, .slice none 0 0], .int .i64 0, .int .i64 0] 8 rfl (World.shaped_of_RefB (by kernel_rfl) (by kernel_rfl)) (by kernel_rfl) (by kernel_rfl) (by kernel_rfl) (door_met os _)) ?_
  intro W base args ds gs before hval0 hW _ _ hL _
  have hval : ∀ (j : Nat) t v, Tryd.f3.params[j]? = some t → args[j]? = some v → Value.okWide Tryd.prog W .any base t v := hval0
  have hW' := hW
  obtain ⟨p, q, hA0, hV, rfl, hfz, hnd⟩ := hW
  have hA : DataW.TrodAll enc Tryd.prog W 0 (fun _ => true) true Tryd.f3.params.toList args.toList ds p := hA0
  rw [Tryd.params3] at hA hval
  obtain ⟨v0, vs0, d0, ds0, p0, q0, hargs, rfl, rfl, h0, r0⟩ := trodAll_cons hA
  obtain ⟨v1, vs1, d1, ds1, p1, q1, rfl, rfl, rfl, h1, r1⟩ := trodAll_cons r0
  obtain ⟨v2, vs2, d2, ds2, p2, q2, rfl, rfl, rfl, h2, r2⟩ := trodAll_cons r1
  obtain ⟨v3, vs3, d3, ds3, p3, q3, rfl, rfl, rfl, h3, r3⟩ := trodAll_cons r2
  obtain ⟨rfl, rfl, rfl⟩ := trodAll_nil r3
  obtain rfl : args = #[v0, v1, v2, v3] := by cases args; simp_all
  obtain ⟨rfl, rfl⟩ := trodVars_none hV
  have k0 := h0
  have lt0 : ∀ x ∈ p0, x.block < W.heap.size := by obtain ⟨m, hm⟩ := k0; exact DataW.trod_lt m _ _ _ hm
  obtain ⟨co0, sy0, la0, mo0, s0, n0, m0, z0, rfl, w0, x00, x01, x02, x03⟩ := open_config (hval 0 24 v0 rfl rfl) h0
  have k1 := h1
  have lt1 : ∀ x ∈ p1, x.block < W.heap.size := by obtain ⟨m, hm⟩ := k1; exact DataW.trod_lt m _ _ _ hm
  obtain ⟨c1, d1, t1, s1, n1, m1, z1, rfl, w1, x10, x11, x12⟩ := open_task (hval 1 27 v1 rfl rfl) h1
  obtain ⟨a2, rfl, rfl, rfl, w2⟩ := open_int Tryd.underlying3 (hval 2 3 v2 rfl rfl) h2
  obtain ⟨a3, rfl, rfl, rfl, w3⟩ := open_int Tryd.underlying2 (hval 3 2 v3 rfl rfl) h3
  clear hA0 hval0
  simp only [List.append_nil] at hW'
  refine (walk co0 sy0 la0 mo0 s0 n0 m0 z0 c1 d1 t1 s1 n1 m1 z1 a2 a3 W (env_of_laid hL) w0 x00 x01 x02 x03 w1 x10 x11 x12 w2 w3).mono fun e W' ⟨he, bel⟩ => ?_
  subst he
  exact ⟨_, rfl, _, _, _, [], _, [], hW', trodAll_mk1 (shut_bool Tryd.underlying4 _), (trodAll_cons_mk (Below.trod laidOut (by kernel_rfl) (of_decide_eq_true (by kernel_rfl)) k0 bel lt0) (trodAll_cons_mk (Below.trod laidOut (by kernel_rfl) (of_decide_eq_true (by kernel_rfl)) k1 bel lt1) (trodAll_cons_mk (shut_int Tryd.underlying3 w2) (trodAll_cons_mk (shut_int Tryd.underlying2 w3) trodAll_mk0)))), rfl, bel.frame _, fun h => by cases h⟩

theorem over : Rows.ruleTurnRow.holds Tryd.pinned (OpenSpec.ofChange Rows.ruleTurnSpec) :=
  OpenClaim.holds_of_wide 3 Tryd.f3 rfl rfl rfl rfl rfl rfl rfl ⟨rfl, rfl, rfl, rfl, rfl⟩ rfl rfl rfl rfl rfl (by kernel_rfl) Tryd.func3 (by kernel_rfl)
    (of_decide_eq_true (by kernel_rfl)) (by unfold Func.isWrapper; first | (rw [if_pos (by decide +kernel)]; kernel_rfl) | (rw [if_neg (by decide +kernel)]; exact ⟨rfl, rfl⟩))
    (fun os started H enc _ => lifted os started H enc)

theorem proved : Rows.RuleTurnCardSaid :=
  Claim7.holds_tied_plain_at .later [] [.data, .data, .data, .sentinel, .sentinel] true (true, "1a6d372db0b00892c861878746c9b402df8e3ee8bbf8bfc1e42d205f4486eca9") true
    over (fun _ h => by cases h) (by kernel_rfl) (fun _ h => by cases h) ruleTurn_row_tie rfl ⟨rfl, rfl⟩ (by kernel_rfl) rfl
    (fun f fn hf hfn => by
      obtain rfl : f = 3 := Option.some.inj ((show Tryd.prog.funcNamed "hortator/hortatorlaw7.RuleTurn" = some 3 by kernel_rfl).symm.trans hf) |>.symm
      obtain rfl : fn = Tryd.f3 := (Option.some.inj (Tryd.func3.symm.trans hfn)).symm
      exact ⟨by kernel_rfl, fun j t ht => by
        rw [Tryd.params3] at ht
        match j, ht with
        | 0, ht => obtain rfl : t = 24 := by simpa using ht.symm
                   exact (show Tryd.prog.wantsStandIn 24 = false by kernel_rfl)
        | 1, ht => obtain rfl : t = 27 := by simpa using ht.symm
                   exact (show Tryd.prog.wantsStandIn 27 = false by kernel_rfl)
        | 2, ht => obtain rfl : t = 3 := by simpa using ht.symm
                   exact (show Tryd.prog.wantsStandIn 3 = false by kernel_rfl)
        | 3, ht => obtain rfl : t = 2 := by simpa using ht.symm
                   exact (show Tryd.prog.wantsStandIn 2 = false by kernel_rfl)
        | (_ + 4), ht => simp at ht⟩)
    (by kernel_rfl)
end Go.Proofs.YtfhhpmnohbmnoaaDoor.ruleTurn
