/-
PROVED: the statement hortatorlaw7.RuleAll answers true over the landed packages: which configurations, tasks, loads, pieces may be; which tasks are the same; whose agents.
  CONDITIONS: the listed variables of strconv and math/bits hold what the program's text lays (the card ties them).
-/
import Derived.Test.YtfhhpmnohbmnoaaGreatDoorRows
import Derived.Test.YtfhhpmnohbmnoaaGreatDoorTie
import Derived.Test.YtfhhpmnohbmnoaaGreatDoorCards
import Derived.WalkKit
import Derived.ProofKit
import Derived.OpenShut
import Derived.ShutString
import Derived.ChangeOld
import Derived.Below
import Derived.SevenTiedAt
import Derived.Test.YtfhhpmnohbmnoaaGreatDoorLaid
import Derived.Carry
import Derived.Deep.Cut
import Derived.Deep.CutRange
import Derived.Deep.RegionWith
import Derived.Deep.RegionHeld3
import Derived.Deep.LoopGhost
import Derived.Deep.QuietTactic
import Derived.BigQuiet
import Derived.Test.YtfhhpmnohbmnoaaGreatDoorFive2
import Derived.Test.YtfhhpmnohbmnoaaGreatDoorArgs2
namespace Go.Proofs.YtfhhpmnohbmnoaaGreatDoor.ruleAll
open Go.ChangeShapes Go.WideShapes Go.ChangeAt Go.RowKit
open Go.ChangeMaps (open_string shut_string)
set_option linter.unusedVariables false

theorem own : ownKnob Tryz.prog.godebug = none := by kernel_rfl
theorem laidOut : laidOutB Tryz.prog = true := by kernel_rfl

set_option maxHeartbeats 8000000 in
set_option maxRecDepth 100000 in
theorem walk (co0 sy0 la0 mo0 : Int) (s0 : Option Addr) (n0 m0 : Nat) (z0 : List Int) (c1 d1 t1 : Int) (s1 : Option Addr) (n1 m1 : Nat) (z1 : List Sec) (c2 d2 t2 : Int) (s2 : Option Addr) (n2 m2 : Nat) (z2 : List Sec) (xa3 xb3 xc3 : Int) (xa4 xb4 xc4 xd4 : Int) (w : World) (hE : Env w) (w0 : AInts w s0 n0 m0 z0) (x00 : (Lit.int .i64 co0).wf = true) (x01 : (Lit.int .i64 sy0).wf = true) (x02 : (Lit.int .i64 la0).wf = true) (x03 : (Lit.int .i64 mo0).wf = true) (w1 : ASecs w s1 n1 m1 z1) (x10 : (Lit.int .i64 c1).wf = true) (x11 : (Lit.int .i64 d1).wf = true) (x12 : (Lit.int .i64 t1).wf = true) (w2 : ASecs w s2 n2 m2 z2) (x20 : (Lit.int .i64 c2).wf = true) (x21 : (Lit.int .i64 d2).wf = true) (x22 : (Lit.int .i64 t2).wf = true) (x30 : (Lit.int .i64 xa3).wf = true) (x31 : (Lit.int .i64 xb3).wf = true) (x32 : (Lit.int .i64 xc3).wf = true) (x40 : (Lit.int .i64 xa4).wf = true) (x41 : (Lit.int .i64 xb4).wf = true) (x42 : (Lit.int .i64 xc4).wf = true) (x43 : (Lit.int .i64 xd4).wf = true) :
    Calls Tryz.prog 3 #[.agg #[.int .i64 co0, .int .i64 sy0, .int .i64 la0, .int .i64 mo0, .slice s0 n0 m0], .agg #[.int .i64 c1, .int .i64 d1, .int .i64 t1, .slice s1 n1 m1], .agg #[.int .i64 c2, .int .i64 d2, .int .i64 t2, .slice s2 n2 m2], .agg #[.int .i64 xa3, .int .i64 xb3, .int .i64 xc3], .agg #[.int .i64 xa4, .int .i64 xb4, .int .i64 xc4, .int .i64 xd4]] w fun e w' => e = .returned (.bool true) ∧ Below w.heap.size w w' := by
  have E0 : Hid (R5 w #[.int .i64 co0, .int .i64 sy0, .int .i64 la0, .int .i64 mo0, .slice s0 n0 m0] #[.int .i64 c1, .int .i64 d1, .int .i64 t1, .slice s1 n1 m1] #[.int .i64 c2, .int .i64 d2, .int .i64 t2, .slice s2 n2 m2] #[.int .i64 xa3, .int .i64 xb3, .int .i64 xc3] #[.int .i64 xa4, .int .i64 xb4, .int .i64 xc4, .int .i64 xd4] (((((w.alloc (.cells #[.int .i64 co0, .int .i64 sy0, .int .i64 la0, .int .i64 mo0, .slice s0 n0 m0] 24)).alloc (.cells #[.int .i64 c1, .int .i64 d1, .int .i64 t1, .slice s1 n1 m1] 27)).alloc (.cells #[.int .i64 c2, .int .i64 d2, .int .i64 t2, .slice s2 n2 m2] 27)).alloc (.cells #[.int .i64 xa3, .int .i64 xb3, .int .i64 xc3] 29)).alloc (.cells #[.int .i64 xa4, .int .i64 xb4, .int .i64 xc4, .int .i64 xd4] 31))) := R5.start hE _ _ _ _ _
  have AC : Hid (AInts w s0 n0 m0 z0) := w0
  have AT : Hid (ASecs w s1 n1 m1 z1) := w1
  have AU : Hid (ASecs w s2 n2 m2 z2) := w2
  obtain ⟨l, hl⟩ : ∃ l, z0.take 8 = l := ⟨_, rfl⟩
  obtain ⟨m, hm⟩ : ∃ m, z1.take 4 = m := ⟨_, rfl⟩
  obtain ⟨m', hm'⟩ : ∃ m, z2.take 4 = m := ⟨_, rfl⟩
  obtain ⟨n, hn⟩ : ∃ n, l.length = n := ⟨_, rfl⟩
  obtain ⟨q, hq⟩ : ∃ q, m.length = q := ⟨_, rfl⟩
  obtain ⟨k, hk⟩ : ∃ k, m'.length = k := ⟨_, rfl⟩
  have n8 : n ≤ 8 := by rw [← hn, ← hl, List.length_take]; omega
  have q4 : q ≤ 4 := by rw [← hq, ← hm, List.length_take]; omega
  have k4 : k ≤ 4 := by rw [← hk, ← hm', List.length_take]; omega
  have HL : Hid (z0.take 8 = l ∧ l.length = n) := ⟨hl, hn⟩
  have HM : Hid (z1.take 4 = m ∧ m.length = q) := ⟨hm, hq⟩
  have HU : Hid (z2.take 4 = m' ∧ m'.length = k) := ⟨hm', hk⟩
  clear hE w0 w1 w2 hl hm hm' hn hq hk
  go_enter Tryz.func3, Tryz.ntmps3
  go_wp2_with fail
  refine (begun7_any _ E0.out.env).mono ?_
  rintro e v1 ⟨rfl, g1⟩
  have E1 : Hid (R5 w #[.int .i64 co0, .int .i64 sy0, .int .i64 la0, .int .i64 mo0, .slice s0 n0 m0] #[.int .i64 c1, .int .i64 d1, .int .i64 t1, .slice s1 n1 m1] #[.int .i64 c2, .int .i64 d2, .int .i64 t2, .slice s2 n2 m2] #[.int .i64 xa3, .int .i64 xb3, .int .i64 xc3] #[.int .i64 xa4, .int .i64 xb4, .int .i64 xc4, .int .i64 xd4] v1) := E0.out.below g1
  clear g1 E0
  go_upto_region 4 with fail
  go_cut [] from 18 to 23 (fun wx => ∃ sc kc st kt su ku, Cop5 w co0 sy0 la0 mo0 sc n kc l c1 d1 t1 st q kt m c2 d2 t2 su k ku m' #[.int .i64 xa3, .int .i64 xb3, .int .i64 xc3] #[.int .i64 xa4, .int .i64 xb4, .int .i64 xc4, .int .i64 xd4] wx)
  case first =>
    -- [Z0
    have q0 : v1.cell? ⟨w.heap.size, 0, none⟩ = some (.int .i64 co0) := E1.out.bc.cell 0
    have q1 : v1.cell? ⟨w.heap.size, 1, none⟩ = some (.int .i64 sy0) := E1.out.bc.cell 1
    have q2 : v1.cell? ⟨w.heap.size, 2, none⟩ = some (.int .i64 la0) := E1.out.bc.cell 2
    have q3 : v1.cell? ⟨w.heap.size, 3, none⟩ = some (.int .i64 mo0) := E1.out.bc.cell 3
    have q4 : v1.cell? ⟨w.heap.size, 4, none⟩ = some (.slice s0 n0 m0) := E1.out.bc.cell 4
    have p0 : v1.cell? ⟨w.heap.size + 1, 0, none⟩ = some (.int .i64 c1) := E1.out.bt.cell 0
    have p1 : v1.cell? ⟨w.heap.size + 1, 1, none⟩ = some (.int .i64 d1) := E1.out.bt.cell 1
    have p2 : v1.cell? ⟨w.heap.size + 1, 2, none⟩ = some (.int .i64 t1) := E1.out.bt.cell 2
    have p3 : v1.cell? ⟨w.heap.size + 1, 3, none⟩ = some (.slice s1 n1 m1) := E1.out.bt.cell 3
    have r0 : v1.cell? ⟨w.heap.size + 2, 0, none⟩ = some (.int .i64 c2) := E1.out.bu.cell 0
    have r1 : v1.cell? ⟨w.heap.size + 2, 1, none⟩ = some (.int .i64 d2) := E1.out.bu.cell 1
    have r2 : v1.cell? ⟨w.heap.size + 2, 2, none⟩ = some (.int .i64 t2) := E1.out.bu.cell 2
    have r3 : v1.cell? ⟨w.heap.size + 2, 3, none⟩ = some (.slice s2 n2 m2) := E1.out.bu.cell 3
    go_region_with (first
      | (go_at_call 8; refine (lconfig_at co0 sy0 la0 mo0 s0 n0 m0 z0 l n HL.out.1 HL.out.2 _ (AC.out.below E1.out.drew.bel)).mono ?_; rintro e v2 ⟨sc, kc, rfl, own2, g2⟩; have O2 : Hid (v2.ownsRow v1.drew.heap.size 3 1 (.slice sc n kc) n (l.map mkI) ∧ Below v1.drew.heap.size v1.drew v2) := ⟨own2, g2⟩; have F2 : Hid (R5 w #[.int .i64 co0, .int .i64 sy0, .int .i64 la0, .int .i64 mo0, .slice s0 n0 m0] #[.int .i64 c1, .int .i64 d1, .int .i64 t1, .slice s1 n1 m1] #[.int .i64 c2, .int .i64 d2, .int .i64 t2, .slice s2 n2 m2] #[.int .i64 xa3, .int .i64 xb3, .int .i64 xc3] #[.int .i64 xa4, .int .i64 xb4, .int .i64 xc4, .int .i64 xd4] v2) := E1.out.drew.below g2; clear own2 g2; have q0 : v2.cell? ⟨w.heap.size, 0, none⟩ = some (.int .i64 co0) := F2.out.bc.cell 0; have q1 : v2.cell? ⟨w.heap.size, 1, none⟩ = some (.int .i64 sy0) := F2.out.bc.cell 1; have q2 : v2.cell? ⟨w.heap.size, 2, none⟩ = some (.int .i64 la0) := F2.out.bc.cell 2; have q3 : v2.cell? ⟨w.heap.size, 3, none⟩ = some (.int .i64 mo0) := F2.out.bc.cell 3; have q4 : v2.cell? ⟨w.heap.size, 4, none⟩ = some (.slice s0 n0 m0) := F2.out.bc.cell 4; have p0 : v2.cell? ⟨w.heap.size + 1, 0, none⟩ = some (.int .i64 c1) := F2.out.bt.cell 0; have p1 : v2.cell? ⟨w.heap.size + 1, 1, none⟩ = some (.int .i64 d1) := F2.out.bt.cell 1; have p2 : v2.cell? ⟨w.heap.size + 1, 2, none⟩ = some (.int .i64 t1) := F2.out.bt.cell 2; have p3 : v2.cell? ⟨w.heap.size + 1, 3, none⟩ = some (.slice s1 n1 m1) := F2.out.bt.cell 3; have r0 : v2.cell? ⟨w.heap.size + 2, 0, none⟩ = some (.int .i64 c2) := F2.out.bu.cell 0; have r1 : v2.cell? ⟨w.heap.size + 2, 1, none⟩ = some (.int .i64 d2) := F2.out.bu.cell 1; have r2 : v2.cell? ⟨w.heap.size + 2, 2, none⟩ = some (.int .i64 t2) := F2.out.bu.cell 2; have r3 : v2.cell? ⟨w.heap.size + 2, 3, none⟩ = some (.slice s2 n2 m2) := F2.out.bu.cell 3)
      | (go_at_call_of 9 (Value.slice s1 n1 m1); refine (ltask_at c1 d1 t1 s1 n1 m1 z1 m q HM.out.1 HM.out.2 v2 (AT.out.below F2.out.bel)).mono ?_; rintro e v3 ⟨st, kt, rfl, own3, g3⟩; have O3 : Hid (v3.ownsRow v2.heap.size 57 3 (.slice st q kt) q (secC m) ∧ Below v2.heap.size v2 v3) := ⟨own3, g3⟩; have F3 : Hid (R5 w #[.int .i64 co0, .int .i64 sy0, .int .i64 la0, .int .i64 mo0, .slice s0 n0 m0] #[.int .i64 c1, .int .i64 d1, .int .i64 t1, .slice s1 n1 m1] #[.int .i64 c2, .int .i64 d2, .int .i64 t2, .slice s2 n2 m2] #[.int .i64 xa3, .int .i64 xb3, .int .i64 xc3] #[.int .i64 xa4, .int .i64 xb4, .int .i64 xc4, .int .i64 xd4] v3) := F2.out.below g3; clear own3 g3; have q0 : v3.cell? ⟨w.heap.size, 0, none⟩ = some (.int .i64 co0) := F3.out.bc.cell 0; have q1 : v3.cell? ⟨w.heap.size, 1, none⟩ = some (.int .i64 sy0) := F3.out.bc.cell 1; have q2 : v3.cell? ⟨w.heap.size, 2, none⟩ = some (.int .i64 la0) := F3.out.bc.cell 2; have q3 : v3.cell? ⟨w.heap.size, 3, none⟩ = some (.int .i64 mo0) := F3.out.bc.cell 3; have q4 : v3.cell? ⟨w.heap.size, 4, none⟩ = some (.slice s0 n0 m0) := F3.out.bc.cell 4; have p0 : v3.cell? ⟨w.heap.size + 1, 0, none⟩ = some (.int .i64 c1) := F3.out.bt.cell 0; have p1 : v3.cell? ⟨w.heap.size + 1, 1, none⟩ = some (.int .i64 d1) := F3.out.bt.cell 1; have p2 : v3.cell? ⟨w.heap.size + 1, 2, none⟩ = some (.int .i64 t1) := F3.out.bt.cell 2; have p3 : v3.cell? ⟨w.heap.size + 1, 3, none⟩ = some (.slice s1 n1 m1) := F3.out.bt.cell 3; have r0 : v3.cell? ⟨w.heap.size + 2, 0, none⟩ = some (.int .i64 c2) := F3.out.bu.cell 0; have r1 : v3.cell? ⟨w.heap.size + 2, 1, none⟩ = some (.int .i64 d2) := F3.out.bu.cell 1; have r2 : v3.cell? ⟨w.heap.size + 2, 2, none⟩ = some (.int .i64 t2) := F3.out.bu.cell 2; have r3 : v3.cell? ⟨w.heap.size + 2, 3, none⟩ = some (.slice s2 n2 m2) := F3.out.bu.cell 3)
      | (go_at_call_of 9 (Value.slice s2 n2 m2); refine (ltask_at c2 d2 t2 s2 n2 m2 z2 m' k HU.out.1 HU.out.2 v3 (AU.out.below F3.out.bel)).mono ?_; rintro e v4 ⟨su, ku, rfl, own4, g4⟩; have O4 : Hid (v4.ownsRow v3.heap.size 57 3 (.slice su k ku) k (secC m') ∧ Below v3.heap.size v3 v4) := ⟨own4, g4⟩; have F4 : Hid (R5 w #[.int .i64 co0, .int .i64 sy0, .int .i64 la0, .int .i64 mo0, .slice s0 n0 m0] #[.int .i64 c1, .int .i64 d1, .int .i64 t1, .slice s1 n1 m1] #[.int .i64 c2, .int .i64 d2, .int .i64 t2, .slice s2 n2 m2] #[.int .i64 xa3, .int .i64 xb3, .int .i64 xc3] #[.int .i64 xa4, .int .i64 xb4, .int .i64 xc4, .int .i64 xd4] v4) := F3.out.below g4; have l4 := F4.out.bu.lt; clear own4 g4; have q0 : v4.cell? ⟨w.heap.size, 0, none⟩ = some (.int .i64 co0) := F4.out.bc.cell 0; have fq0 := F4.out.bc.frozen 0; have q1 : v4.cell? ⟨w.heap.size, 1, none⟩ = some (.int .i64 sy0) := F4.out.bc.cell 1; have fq1 := F4.out.bc.frozen 1; have q2 : v4.cell? ⟨w.heap.size, 2, none⟩ = some (.int .i64 la0) := F4.out.bc.cell 2; have fq2 := F4.out.bc.frozen 2; have q3 : v4.cell? ⟨w.heap.size, 3, none⟩ = some (.int .i64 mo0) := F4.out.bc.cell 3; have fq3 := F4.out.bc.frozen 3; have q4 : v4.cell? ⟨w.heap.size, 4, none⟩ = some (.slice s0 n0 m0) := F4.out.bc.cell 4; have fq4 := F4.out.bc.frozen 4; have p0 : v4.cell? ⟨w.heap.size + 1, 0, none⟩ = some (.int .i64 c1) := F4.out.bt.cell 0; have fp0 := F4.out.bt.frozen 0; have p1 : v4.cell? ⟨w.heap.size + 1, 1, none⟩ = some (.int .i64 d1) := F4.out.bt.cell 1; have fp1 := F4.out.bt.frozen 1; have p2 : v4.cell? ⟨w.heap.size + 1, 2, none⟩ = some (.int .i64 t1) := F4.out.bt.cell 2; have fp2 := F4.out.bt.frozen 2; have p3 : v4.cell? ⟨w.heap.size + 1, 3, none⟩ = some (.slice s1 n1 m1) := F4.out.bt.cell 3; have fp3 := F4.out.bt.frozen 3; have r0 : v4.cell? ⟨w.heap.size + 2, 0, none⟩ = some (.int .i64 c2) := F4.out.bu.cell 0; have fr0 := F4.out.bu.frozen 0; have r1 : v4.cell? ⟨w.heap.size + 2, 1, none⟩ = some (.int .i64 d2) := F4.out.bu.cell 1; have fr1 := F4.out.bu.frozen 1; have r2 : v4.cell? ⟨w.heap.size + 2, 2, none⟩ = some (.int .i64 t2) := F4.out.bu.cell 2; have fr2 := F4.out.bu.frozen 2; have r3 : v4.cell? ⟨w.heap.size + 2, 3, none⟩ = some (.slice s2 n2 m2) := F4.out.bu.cell 3; have fr3 := F4.out.bu.frozen 3))
    all_goals (go_wp2_with fail; go_meet)
    all_goals exact ⟨sc, kc, st, kt, su, ku, Cop5.made E1.out.drew HL.out.2 HM.out.2 HU.out.2 O2.out.1 O2.out.2 O3.out.1 O3.out.2 O4.out.1 O4.out.2⟩
    -- ]Z0
  case rest =>
    obtain ⟨sc, kc, st, kt, su, ku, hC⟩ := hcut
    have C0 : Hid (Cop5 w co0 sy0 la0 mo0 sc n kc l c1 d1 t1 st q kt m c2 d2 t2 su k ku m' #[.int .i64 xa3, .int .i64 xb3, .int .i64 xc3] #[.int .i64 xa4, .int .i64 xb4, .int .i64 xc4, .int .i64 xd4] wc) := hC
    clear hC E1 AC AT AU
    obtain ⟨X1, hX1⟩ : ∃ X, cfgB ⟨co0, sy0, la0, mo0, l⟩ = X := ⟨_, rfl⟩
    obtain ⟨X2, hX2⟩ : ∃ X, decide ((⟨c1, d1, t1, m⟩ : Tsk) = ⟨c2, d2, t2, m'⟩) = X := ⟨_, rfl⟩
    obtain ⟨X4, hX4⟩ : ∃ X, loadB xa3 xb3 xc3 = X := ⟨_, rfl⟩
    have HX : Hid (cfgB ⟨co0, sy0, la0, mo0, l⟩ = X1 ∧ decide ((⟨c1, d1, t1, m⟩ : Tsk) = ⟨c2, d2, t2, m'⟩) = X2 ∧ loadB xa3 xb3 xc3 = X4 ∧ l.length ≤ 1000000 ∧ m.length ≤ 1000000 ∧ m'.length ≤ 1000000) := ⟨hX1, hX2, hX4, by have := HL.out.2; omega, by have := HM.out.2; omega, by have := HU.out.2; omega⟩
    clear hX1 hX2 hX4
    -- [Z1
    have zq0 : wc.cell? ⟨w.heap.size, 0, none⟩ = some (.int .i64 co0) := C0.out.r5.bc.cell 0
    have zq1 : wc.cell? ⟨w.heap.size, 1, none⟩ = some (.int .i64 sy0) := C0.out.r5.bc.cell 1
    have zq2 : wc.cell? ⟨w.heap.size, 2, none⟩ = some (.int .i64 la0) := C0.out.r5.bc.cell 2
    have zq3 : wc.cell? ⟨w.heap.size, 3, none⟩ = some (.int .i64 mo0) := C0.out.r5.bc.cell 3
    have zq4 : wc.cell? ⟨w.heap.size, 4, none⟩ = some (.slice sc n kc) := C0.out.r5.bc.cell 4
    have zp0 : wc.cell? ⟨w.heap.size + 1, 0, none⟩ = some (.int .i64 c1) := C0.out.r5.bt.cell 0
    have zp1 : wc.cell? ⟨w.heap.size + 1, 1, none⟩ = some (.int .i64 d1) := C0.out.r5.bt.cell 1
    have zp2 : wc.cell? ⟨w.heap.size + 1, 2, none⟩ = some (.int .i64 t1) := C0.out.r5.bt.cell 2
    have zp3 : wc.cell? ⟨w.heap.size + 1, 3, none⟩ = some (.slice st q kt) := C0.out.r5.bt.cell 3
    have zr0 : wc.cell? ⟨w.heap.size + 2, 0, none⟩ = some (.int .i64 c2) := C0.out.r5.bu.cell 0
    have zr1 : wc.cell? ⟨w.heap.size + 2, 1, none⟩ = some (.int .i64 d2) := C0.out.r5.bu.cell 1
    have zr2 : wc.cell? ⟨w.heap.size + 2, 2, none⟩ = some (.int .i64 t2) := C0.out.r5.bu.cell 2
    have zr3 : wc.cell? ⟨w.heap.size + 2, 3, none⟩ = some (.slice su k ku) := C0.out.r5.bu.cell 3
    have zs0 : wc.cell? ⟨w.heap.size + 3, 0, none⟩ = some (.int .i64 xa3) := C0.out.r5.bl.cell 0
    have zs1 : wc.cell? ⟨w.heap.size + 3, 1, none⟩ = some (.int .i64 xb3) := C0.out.r5.bl.cell 1
    have zs2 : wc.cell? ⟨w.heap.size + 3, 2, none⟩ = some (.int .i64 xc3) := C0.out.r5.bl.cell 2
    go_wp2_with fail
    go_region_held3 (fun w' => w'.cell? ⟨w.heap.size, 0, none⟩ = some (.int .i64 co0) ∧ w'.cell? ⟨w.heap.size, 1, none⟩ = some (.int .i64 sy0) ∧ w'.cell? ⟨w.heap.size, 2, none⟩ = some (.int .i64 la0) ∧ w'.cell? ⟨w.heap.size, 3, none⟩ = some (.int .i64 mo0) ∧ w'.cell? ⟨w.heap.size, 4, none⟩ = some (.slice sc n kc) ∧ w'.cell? ⟨w.heap.size + 1, 0, none⟩ = some (.int .i64 c1) ∧ w'.cell? ⟨w.heap.size + 1, 1, none⟩ = some (.int .i64 d1) ∧ w'.cell? ⟨w.heap.size + 1, 2, none⟩ = some (.int .i64 t1) ∧ w'.cell? ⟨w.heap.size + 1, 3, none⟩ = some (.slice st q kt) ∧ w'.cell? ⟨w.heap.size + 2, 0, none⟩ = some (.int .i64 c2) ∧ w'.cell? ⟨w.heap.size + 2, 1, none⟩ = some (.int .i64 d2) ∧ w'.cell? ⟨w.heap.size + 2, 2, none⟩ = some (.int .i64 t2) ∧ w'.cell? ⟨w.heap.size + 2, 3, none⟩ = some (.slice su k ku) ∧ w'.cell? ⟨w.heap.size + 3, 0, none⟩ = some (.int .i64 xa3) ∧ w'.cell? ⟨w.heap.size + 3, 1, none⟩ = some (.int .i64 xb3) ∧ w'.cell? ⟨w.heap.size + 3, 2, none⟩ = some (.int .i64 xc3)) (first | exact ⟨zq0, zq1, zq2, zq3, zq4, zp0, zp1, zp2, zp3, zr0, zr1, zr2, zr3, zs0, zs1, zs2⟩ | exact ⟨aq0, aq1, aq2, aq3, aq4, ap0, ap1, ap2, ap3, ar0, ar1, ar2, ar3, as0, as1, as2⟩ | exact ⟨bq0, bq1, bq2, bq3, bq4, bp0, bp1, bp2, bp3, br0, br1, br2, br3, bs0, bs1, bs2⟩ | exact ⟨cq0, cq1, cq2, cq3, cq4, cp0, cp1, cp2, cp3, cr0, cr1, cr2, cr3, cs0, cs1, cs2⟩ | exact ⟨dq0, dq1, dq2, dq3, dq4, dp0, dp1, dp2, dp3, dr0, dr1, dr2, dr3, ds0, ds1, ds2⟩ | exact ⟨eq0, eq1, eq2, eq3, eq4, ep0, ep1, ep2, ep3, er0, er1, er2, er3, es0, es1, es2⟩ | exact ⟨fq0, fq1, fq2, fq3, fq4, fp0, fp1, fp2, fp3, fr0, fr1, fr2, fr3, fs0, fs1, fs2⟩ | exact ⟨gq0, gq1, gq2, gq3, gq4, gp0, gp1, gp2, gp3, gr0, gr1, gr2, gr3, gs0, gs1, gs2⟩ | go_keep) (first | (go_at_call 10; refine (rconfig_at co0 sy0 la0 mo0 (.slice sc n kc) l _ (by first | exact C0.out.ints | exact C0.out.drew.ints) HX.out.2.2.2.1 X1 HX.out.1).mono ?_; rintro e w11 ⟨rfl, g1⟩; have C1 : Hid (Cop5 w co0 sy0 la0 mo0 sc n kc l c1 d1 t1 st q kt m c2 d2 t2 su k ku m' #[.int .i64 xa3, .int .i64 xb3, .int .i64 xc3] #[.int .i64 xa4, .int .i64 xb4, .int .i64 xc4, .int .i64 xd4] w11) := (by first | exact C0.out.below g1 | exact C0.out.drew.below g1); have aq0 : w11.cell? ⟨w.heap.size, 0, none⟩ = some (.int .i64 co0) := C1.out.r5.bc.cell 0; have aq1 : w11.cell? ⟨w.heap.size, 1, none⟩ = some (.int .i64 sy0) := C1.out.r5.bc.cell 1; have aq2 : w11.cell? ⟨w.heap.size, 2, none⟩ = some (.int .i64 la0) := C1.out.r5.bc.cell 2; have aq3 : w11.cell? ⟨w.heap.size, 3, none⟩ = some (.int .i64 mo0) := C1.out.r5.bc.cell 3; have aq4 : w11.cell? ⟨w.heap.size, 4, none⟩ = some (.slice sc n kc) := C1.out.r5.bc.cell 4; have ap0 : w11.cell? ⟨w.heap.size + 1, 0, none⟩ = some (.int .i64 c1) := C1.out.r5.bt.cell 0; have ap1 : w11.cell? ⟨w.heap.size + 1, 1, none⟩ = some (.int .i64 d1) := C1.out.r5.bt.cell 1; have ap2 : w11.cell? ⟨w.heap.size + 1, 2, none⟩ = some (.int .i64 t1) := C1.out.r5.bt.cell 2; have ap3 : w11.cell? ⟨w.heap.size + 1, 3, none⟩ = some (.slice st q kt) := C1.out.r5.bt.cell 3; have ar0 : w11.cell? ⟨w.heap.size + 2, 0, none⟩ = some (.int .i64 c2) := C1.out.r5.bu.cell 0; have ar1 : w11.cell? ⟨w.heap.size + 2, 1, none⟩ = some (.int .i64 d2) := C1.out.r5.bu.cell 1; have ar2 : w11.cell? ⟨w.heap.size + 2, 2, none⟩ = some (.int .i64 t2) := C1.out.r5.bu.cell 2; have ar3 : w11.cell? ⟨w.heap.size + 2, 3, none⟩ = some (.slice su k ku) := C1.out.r5.bu.cell 3; have as0 : w11.cell? ⟨w.heap.size + 3, 0, none⟩ = some (.int .i64 xa3) := C1.out.r5.bl.cell 0; have as1 : w11.cell? ⟨w.heap.size + 3, 1, none⟩ = some (.int .i64 xb3) := C1.out.r5.bl.cell 1; have as2 : w11.cell? ⟨w.heap.size + 3, 2, none⟩ = some (.int .i64 xc3) := C1.out.r5.bl.cell 2; clear g1) | (go_at_call 11; refine (refConfig_at co0 sy0 la0 mo0 (.slice sc n kc) l _ (by first | exact C1.out.ints | exact C1.out.drew.ints) HX.out.2.2.2.1 X1 HX.out.1).mono ?_; rintro e w12 ⟨rfl, g2⟩; have C2 : Hid (Cop5 w co0 sy0 la0 mo0 sc n kc l c1 d1 t1 st q kt m c2 d2 t2 su k ku m' #[.int .i64 xa3, .int .i64 xb3, .int .i64 xc3] #[.int .i64 xa4, .int .i64 xb4, .int .i64 xc4, .int .i64 xd4] w12) := (by first | exact C1.out.below g2 | exact C1.out.drew.below g2); have bq0 : w12.cell? ⟨w.heap.size, 0, none⟩ = some (.int .i64 co0) := C2.out.r5.bc.cell 0; have bq1 : w12.cell? ⟨w.heap.size, 1, none⟩ = some (.int .i64 sy0) := C2.out.r5.bc.cell 1; have bq2 : w12.cell? ⟨w.heap.size, 2, none⟩ = some (.int .i64 la0) := C2.out.r5.bc.cell 2; have bq3 : w12.cell? ⟨w.heap.size, 3, none⟩ = some (.int .i64 mo0) := C2.out.r5.bc.cell 3; have bq4 : w12.cell? ⟨w.heap.size, 4, none⟩ = some (.slice sc n kc) := C2.out.r5.bc.cell 4; have bp0 : w12.cell? ⟨w.heap.size + 1, 0, none⟩ = some (.int .i64 c1) := C2.out.r5.bt.cell 0; have bp1 : w12.cell? ⟨w.heap.size + 1, 1, none⟩ = some (.int .i64 d1) := C2.out.r5.bt.cell 1; have bp2 : w12.cell? ⟨w.heap.size + 1, 2, none⟩ = some (.int .i64 t1) := C2.out.r5.bt.cell 2; have bp3 : w12.cell? ⟨w.heap.size + 1, 3, none⟩ = some (.slice st q kt) := C2.out.r5.bt.cell 3; have br0 : w12.cell? ⟨w.heap.size + 2, 0, none⟩ = some (.int .i64 c2) := C2.out.r5.bu.cell 0; have br1 : w12.cell? ⟨w.heap.size + 2, 1, none⟩ = some (.int .i64 d2) := C2.out.r5.bu.cell 1; have br2 : w12.cell? ⟨w.heap.size + 2, 2, none⟩ = some (.int .i64 t2) := C2.out.r5.bu.cell 2; have br3 : w12.cell? ⟨w.heap.size + 2, 3, none⟩ = some (.slice su k ku) := C2.out.r5.bu.cell 3; have bs0 : w12.cell? ⟨w.heap.size + 3, 0, none⟩ = some (.int .i64 xa3) := C2.out.r5.bl.cell 0; have bs1 : w12.cell? ⟨w.heap.size + 3, 1, none⟩ = some (.int .i64 xb3) := C2.out.r5.bl.cell 1; have bs2 : w12.cell? ⟨w.heap.size + 3, 2, none⟩ = some (.int .i64 xc3) := C2.out.r5.bl.cell 2; clear g2) | (go_at_call_of 12 (Value.slice su k ku); refine (same_at _ _ _ _ _ _ _ _ m m' _ (by first | exact C2.out.secs | exact C2.out.drew.secs) (by first | exact C2.out.secu | exact C2.out.drew.secu) HX.out.2.2.2.2.1 HX.out.2.2.2.2.2 X2 HX.out.2.1).mono ?_; rintro e w13 ⟨rfl, g3⟩; have C3 : Hid (Cop5 w co0 sy0 la0 mo0 sc n kc l c1 d1 t1 st q kt m c2 d2 t2 su k ku m' #[.int .i64 xa3, .int .i64 xb3, .int .i64 xc3] #[.int .i64 xa4, .int .i64 xb4, .int .i64 xc4, .int .i64 xd4] w13) := (by first | exact C2.out.below g3 | exact C2.out.drew.below g3); have cq0 : w13.cell? ⟨w.heap.size, 0, none⟩ = some (.int .i64 co0) := C3.out.r5.bc.cell 0; have cq1 : w13.cell? ⟨w.heap.size, 1, none⟩ = some (.int .i64 sy0) := C3.out.r5.bc.cell 1; have cq2 : w13.cell? ⟨w.heap.size, 2, none⟩ = some (.int .i64 la0) := C3.out.r5.bc.cell 2; have cq3 : w13.cell? ⟨w.heap.size, 3, none⟩ = some (.int .i64 mo0) := C3.out.r5.bc.cell 3; have cq4 : w13.cell? ⟨w.heap.size, 4, none⟩ = some (.slice sc n kc) := C3.out.r5.bc.cell 4; have cp0 : w13.cell? ⟨w.heap.size + 1, 0, none⟩ = some (.int .i64 c1) := C3.out.r5.bt.cell 0; have cp1 : w13.cell? ⟨w.heap.size + 1, 1, none⟩ = some (.int .i64 d1) := C3.out.r5.bt.cell 1; have cp2 : w13.cell? ⟨w.heap.size + 1, 2, none⟩ = some (.int .i64 t1) := C3.out.r5.bt.cell 2; have cp3 : w13.cell? ⟨w.heap.size + 1, 3, none⟩ = some (.slice st q kt) := C3.out.r5.bt.cell 3; have cr0 : w13.cell? ⟨w.heap.size + 2, 0, none⟩ = some (.int .i64 c2) := C3.out.r5.bu.cell 0; have cr1 : w13.cell? ⟨w.heap.size + 2, 1, none⟩ = some (.int .i64 d2) := C3.out.r5.bu.cell 1; have cr2 : w13.cell? ⟨w.heap.size + 2, 2, none⟩ = some (.int .i64 t2) := C3.out.r5.bu.cell 2; have cr3 : w13.cell? ⟨w.heap.size + 2, 3, none⟩ = some (.slice su k ku) := C3.out.r5.bu.cell 3; have cs0 : w13.cell? ⟨w.heap.size + 3, 0, none⟩ = some (.int .i64 xa3) := C3.out.r5.bl.cell 0; have cs1 : w13.cell? ⟨w.heap.size + 3, 1, none⟩ = some (.int .i64 xb3) := C3.out.r5.bl.cell 1; have cs2 : w13.cell? ⟨w.heap.size + 3, 2, none⟩ = some (.int .i64 xc3) := C3.out.r5.bl.cell 2; clear g3) | (go_at_call 13; refine (refSame_at c1 d1 t1 c2 d2 t2 (.slice st q kt) (.slice su k ku) m m' _ (by first | exact C3.out.secs | exact C3.out.drew.secs) (by first | exact C3.out.secu | exact C3.out.drew.secu) HX.out.2.2.2.2.1 HX.out.2.2.2.2.2 X2 HX.out.2.1).mono ?_; rintro e w14 ⟨rfl, g4⟩; have C4 : Hid (Cop5 w co0 sy0 la0 mo0 sc n kc l c1 d1 t1 st q kt m c2 d2 t2 su k ku m' #[.int .i64 xa3, .int .i64 xb3, .int .i64 xc3] #[.int .i64 xa4, .int .i64 xb4, .int .i64 xc4, .int .i64 xd4] w14) := (by first | exact C3.out.below g4 | exact C3.out.drew.below g4); have dq0 : w14.cell? ⟨w.heap.size, 0, none⟩ = some (.int .i64 co0) := C4.out.r5.bc.cell 0; have dq1 : w14.cell? ⟨w.heap.size, 1, none⟩ = some (.int .i64 sy0) := C4.out.r5.bc.cell 1; have dq2 : w14.cell? ⟨w.heap.size, 2, none⟩ = some (.int .i64 la0) := C4.out.r5.bc.cell 2; have dq3 : w14.cell? ⟨w.heap.size, 3, none⟩ = some (.int .i64 mo0) := C4.out.r5.bc.cell 3; have dq4 : w14.cell? ⟨w.heap.size, 4, none⟩ = some (.slice sc n kc) := C4.out.r5.bc.cell 4; have dp0 : w14.cell? ⟨w.heap.size + 1, 0, none⟩ = some (.int .i64 c1) := C4.out.r5.bt.cell 0; have dp1 : w14.cell? ⟨w.heap.size + 1, 1, none⟩ = some (.int .i64 d1) := C4.out.r5.bt.cell 1; have dp2 : w14.cell? ⟨w.heap.size + 1, 2, none⟩ = some (.int .i64 t1) := C4.out.r5.bt.cell 2; have dp3 : w14.cell? ⟨w.heap.size + 1, 3, none⟩ = some (.slice st q kt) := C4.out.r5.bt.cell 3; have dr0 : w14.cell? ⟨w.heap.size + 2, 0, none⟩ = some (.int .i64 c2) := C4.out.r5.bu.cell 0; have dr1 : w14.cell? ⟨w.heap.size + 2, 1, none⟩ = some (.int .i64 d2) := C4.out.r5.bu.cell 1; have dr2 : w14.cell? ⟨w.heap.size + 2, 2, none⟩ = some (.int .i64 t2) := C4.out.r5.bu.cell 2; have dr3 : w14.cell? ⟨w.heap.size + 2, 3, none⟩ = some (.slice su k ku) := C4.out.r5.bu.cell 3; have ds0 : w14.cell? ⟨w.heap.size + 3, 0, none⟩ = some (.int .i64 xa3) := C4.out.r5.bl.cell 0; have ds1 : w14.cell? ⟨w.heap.size + 3, 1, none⟩ = some (.int .i64 xb3) := C4.out.r5.bl.cell 1; have ds2 : w14.cell? ⟨w.heap.size + 3, 2, none⟩ = some (.int .i64 xc3) := C4.out.r5.bl.cell 2; clear g4) | (go_at_call 12; refine (same_at _ _ _ _ _ _ _ _ m m _ (by first | exact C4.out.secs | exact C4.out.drew.secs) (by first | exact C4.out.secs | exact C4.out.drew.secs) HX.out.2.2.2.2.1 HX.out.2.2.2.2.1 true (decide_eq_true rfl)).mono ?_; rintro e w15 ⟨rfl, g5⟩; have C5 : Hid (Cop5 w co0 sy0 la0 mo0 sc n kc l c1 d1 t1 st q kt m c2 d2 t2 su k ku m' #[.int .i64 xa3, .int .i64 xb3, .int .i64 xc3] #[.int .i64 xa4, .int .i64 xb4, .int .i64 xc4, .int .i64 xd4] w15) := (by first | exact C4.out.below g5 | exact C4.out.drew.below g5); have eq0 : w15.cell? ⟨w.heap.size, 0, none⟩ = some (.int .i64 co0) := C5.out.r5.bc.cell 0; have eq1 : w15.cell? ⟨w.heap.size, 1, none⟩ = some (.int .i64 sy0) := C5.out.r5.bc.cell 1; have eq2 : w15.cell? ⟨w.heap.size, 2, none⟩ = some (.int .i64 la0) := C5.out.r5.bc.cell 2; have eq3 : w15.cell? ⟨w.heap.size, 3, none⟩ = some (.int .i64 mo0) := C5.out.r5.bc.cell 3; have eq4 : w15.cell? ⟨w.heap.size, 4, none⟩ = some (.slice sc n kc) := C5.out.r5.bc.cell 4; have ep0 : w15.cell? ⟨w.heap.size + 1, 0, none⟩ = some (.int .i64 c1) := C5.out.r5.bt.cell 0; have ep1 : w15.cell? ⟨w.heap.size + 1, 1, none⟩ = some (.int .i64 d1) := C5.out.r5.bt.cell 1; have ep2 : w15.cell? ⟨w.heap.size + 1, 2, none⟩ = some (.int .i64 t1) := C5.out.r5.bt.cell 2; have ep3 : w15.cell? ⟨w.heap.size + 1, 3, none⟩ = some (.slice st q kt) := C5.out.r5.bt.cell 3; have er0 : w15.cell? ⟨w.heap.size + 2, 0, none⟩ = some (.int .i64 c2) := C5.out.r5.bu.cell 0; have er1 : w15.cell? ⟨w.heap.size + 2, 1, none⟩ = some (.int .i64 d2) := C5.out.r5.bu.cell 1; have er2 : w15.cell? ⟨w.heap.size + 2, 2, none⟩ = some (.int .i64 t2) := C5.out.r5.bu.cell 2; have er3 : w15.cell? ⟨w.heap.size + 2, 3, none⟩ = some (.slice su k ku) := C5.out.r5.bu.cell 3; have es0 : w15.cell? ⟨w.heap.size + 3, 0, none⟩ = some (.int .i64 xa3) := C5.out.r5.bl.cell 0; have es1 : w15.cell? ⟨w.heap.size + 3, 1, none⟩ = some (.int .i64 xb3) := C5.out.r5.bl.cell 1; have es2 : w15.cell? ⟨w.heap.size + 3, 2, none⟩ = some (.int .i64 xc3) := C5.out.r5.bl.cell 2; clear g5) | (go_at_call 14; refine (load_at xa3 xb3 xc3 _ X4 HX.out.2.2.1).mono ?_; rintro e w16 ⟨rfl, g6⟩; have C6 : Hid (Cop5 w co0 sy0 la0 mo0 sc n kc l c1 d1 t1 st q kt m c2 d2 t2 su k ku m' #[.int .i64 xa3, .int .i64 xb3, .int .i64 xc3] #[.int .i64 xa4, .int .i64 xb4, .int .i64 xc4, .int .i64 xd4] w16) := (by first | exact C5.out.below g6 | exact C5.out.drew.below g6); have fq0 : w16.cell? ⟨w.heap.size, 0, none⟩ = some (.int .i64 co0) := C6.out.r5.bc.cell 0; have fq1 : w16.cell? ⟨w.heap.size, 1, none⟩ = some (.int .i64 sy0) := C6.out.r5.bc.cell 1; have fq2 : w16.cell? ⟨w.heap.size, 2, none⟩ = some (.int .i64 la0) := C6.out.r5.bc.cell 2; have fq3 : w16.cell? ⟨w.heap.size, 3, none⟩ = some (.int .i64 mo0) := C6.out.r5.bc.cell 3; have fq4 : w16.cell? ⟨w.heap.size, 4, none⟩ = some (.slice sc n kc) := C6.out.r5.bc.cell 4; have fp0 : w16.cell? ⟨w.heap.size + 1, 0, none⟩ = some (.int .i64 c1) := C6.out.r5.bt.cell 0; have fp1 : w16.cell? ⟨w.heap.size + 1, 1, none⟩ = some (.int .i64 d1) := C6.out.r5.bt.cell 1; have fp2 : w16.cell? ⟨w.heap.size + 1, 2, none⟩ = some (.int .i64 t1) := C6.out.r5.bt.cell 2; have fp3 : w16.cell? ⟨w.heap.size + 1, 3, none⟩ = some (.slice st q kt) := C6.out.r5.bt.cell 3; have fr0 : w16.cell? ⟨w.heap.size + 2, 0, none⟩ = some (.int .i64 c2) := C6.out.r5.bu.cell 0; have fr1 : w16.cell? ⟨w.heap.size + 2, 1, none⟩ = some (.int .i64 d2) := C6.out.r5.bu.cell 1; have fr2 : w16.cell? ⟨w.heap.size + 2, 2, none⟩ = some (.int .i64 t2) := C6.out.r5.bu.cell 2; have fr3 : w16.cell? ⟨w.heap.size + 2, 3, none⟩ = some (.slice su k ku) := C6.out.r5.bu.cell 3; have fs0 : w16.cell? ⟨w.heap.size + 3, 0, none⟩ = some (.int .i64 xa3) := C6.out.r5.bl.cell 0; have fs1 : w16.cell? ⟨w.heap.size + 3, 1, none⟩ = some (.int .i64 xb3) := C6.out.r5.bl.cell 1; have fs2 : w16.cell? ⟨w.heap.size + 3, 2, none⟩ = some (.int .i64 xc3) := C6.out.r5.bl.cell 2; clear g6) | (go_at_call 15; refine (refLoad_at xa3 xb3 xc3 _ X4 HX.out.2.2.1).mono ?_; rintro e w17 ⟨rfl, g7⟩; have C7 : Hid (Cop5 w co0 sy0 la0 mo0 sc n kc l c1 d1 t1 st q kt m c2 d2 t2 su k ku m' #[.int .i64 xa3, .int .i64 xb3, .int .i64 xc3] #[.int .i64 xa4, .int .i64 xb4, .int .i64 xc4, .int .i64 xd4] w17) := (by first | exact C6.out.below g7 | exact C6.out.drew.below g7); have gq0 : w17.cell? ⟨w.heap.size, 0, none⟩ = some (.int .i64 co0) := C7.out.r5.bc.cell 0; have gq1 : w17.cell? ⟨w.heap.size, 1, none⟩ = some (.int .i64 sy0) := C7.out.r5.bc.cell 1; have gq2 : w17.cell? ⟨w.heap.size, 2, none⟩ = some (.int .i64 la0) := C7.out.r5.bc.cell 2; have gq3 : w17.cell? ⟨w.heap.size, 3, none⟩ = some (.int .i64 mo0) := C7.out.r5.bc.cell 3; have gq4 : w17.cell? ⟨w.heap.size, 4, none⟩ = some (.slice sc n kc) := C7.out.r5.bc.cell 4; have gp0 : w17.cell? ⟨w.heap.size + 1, 0, none⟩ = some (.int .i64 c1) := C7.out.r5.bt.cell 0; have gp1 : w17.cell? ⟨w.heap.size + 1, 1, none⟩ = some (.int .i64 d1) := C7.out.r5.bt.cell 1; have gp2 : w17.cell? ⟨w.heap.size + 1, 2, none⟩ = some (.int .i64 t1) := C7.out.r5.bt.cell 2; have gp3 : w17.cell? ⟨w.heap.size + 1, 3, none⟩ = some (.slice st q kt) := C7.out.r5.bt.cell 3; have gr0 : w17.cell? ⟨w.heap.size + 2, 0, none⟩ = some (.int .i64 c2) := C7.out.r5.bu.cell 0; have gr1 : w17.cell? ⟨w.heap.size + 2, 1, none⟩ = some (.int .i64 d2) := C7.out.r5.bu.cell 1; have gr2 : w17.cell? ⟨w.heap.size + 2, 2, none⟩ = some (.int .i64 t2) := C7.out.r5.bu.cell 2; have gr3 : w17.cell? ⟨w.heap.size + 2, 3, none⟩ = some (.slice su k ku) := C7.out.r5.bu.cell 3; have gs0 : w17.cell? ⟨w.heap.size + 3, 0, none⟩ = some (.int .i64 xa3) := C7.out.r5.bl.cell 0; have gs1 : w17.cell? ⟨w.heap.size + 3, 1, none⟩ = some (.int .i64 xb3) := C7.out.r5.bl.cell 1; have gs2 : w17.cell? ⟨w.heap.size + 3, 2, none⟩ = some (.int .i64 xc3) := C7.out.r5.bl.cell 2; clear g7))
    clear zq0 zq1 zq2 zq3 zq4 zp0 zp1 zp2 zp3 zr0 zr1 zr2 zr3 zs0 zs1 zs2 aq0 aq1 aq2 aq3 aq4 ap0 ap1 ap2 ap3 ar0 ar1 ar2 ar3 as0 as1 as2 bq0 bq1 bq2 bq3 bq4 bp0 bp1 bp2 bp3 br0 br1 br2 br3 bs0 bs1 bs2 cq0 cq1 cq2 cq3 cq4 cp0 cp1 cp2 cp3 cr0 cr1 cr2 cr3 cs0 cs1 cs2 dq0 dq1 dq2 dq3 dq4 dp0 dp1 dp2 dp3 dr0 dr1 dr2 dr3 ds0 ds1 ds2 eq0 eq1 eq2 eq3 eq4 ep0 ep1 ep2 ep3 er0 er1 er2 er3 es0 es1 es2 fq0 fq1 fq2 fq3 fq4 fp0 fp1 fp2 fp3 fr0 fr1 fr2 fr3 fs0 fs1 fs2 C0 C1 C2 C3 C4 C5 C6
    have lw := C7.out.r5.bp.lt
    clear gq0 gq1 gq2 gq3 gq4 gp0 gp1 gp2 gp3 gr0 gr1 gr2 gr3 gs0 gs1 gs2
    have hq0 : w17.cell? ⟨w.heap.size, 0, none⟩ = some (.int .i64 co0) := C7.out.r5.bc.cell 0
    have hq1 : w17.cell? ⟨w.heap.size, 1, none⟩ = some (.int .i64 sy0) := C7.out.r5.bc.cell 1
    have hq2 : w17.cell? ⟨w.heap.size, 2, none⟩ = some (.int .i64 la0) := C7.out.r5.bc.cell 2
    have hq3 : w17.cell? ⟨w.heap.size, 3, none⟩ = some (.int .i64 mo0) := C7.out.r5.bc.cell 3
    have hq4 : w17.cell? ⟨w.heap.size, 4, none⟩ = some (.slice sc n kc) := C7.out.r5.bc.cell 4
    have hp0 : w17.cell? ⟨w.heap.size + 1, 0, none⟩ = some (.int .i64 c1) := C7.out.r5.bt.cell 0
    have hp1 : w17.cell? ⟨w.heap.size + 1, 1, none⟩ = some (.int .i64 d1) := C7.out.r5.bt.cell 1
    have hp2 : w17.cell? ⟨w.heap.size + 1, 2, none⟩ = some (.int .i64 t1) := C7.out.r5.bt.cell 2
    have hp3 : w17.cell? ⟨w.heap.size + 1, 3, none⟩ = some (.slice st q kt) := C7.out.r5.bt.cell 3
    have ho0 : w17.cell? ⟨w.heap.size + 4, 0, none⟩ = some (.int .i64 xa4) := C7.out.r5.bp.cell 0
    have ho1 : w17.cell? ⟨w.heap.size + 4, 1, none⟩ = some (.int .i64 xb4) := C7.out.r5.bp.cell 1
    have ho2 : w17.cell? ⟨w.heap.size + 4, 2, none⟩ = some (.int .i64 xc4) := C7.out.r5.bp.cell 2
    have ho3 : w17.cell? ⟨w.heap.size + 4, 3, none⟩ = some (.int .i64 xd4) := C7.out.r5.bp.cell 3
    go_wp2_with fail
    refine (refConfig_at co0 sy0 la0 mo0 (.slice sc n kc) l _ C7.out.ints HX.out.2.2.2.1 X1 HX.out.1).mono ?_
    rintro e w18 ⟨rfl, g8⟩
    have C8 : Hid (Cop5 w co0 sy0 la0 mo0 sc n kc l c1 d1 t1 st q kt m c2 d2 t2 su k ku m' #[.int .i64 xa3, .int .i64 xb3, .int .i64 xc3] #[.int .i64 xa4, .int .i64 xb4, .int .i64 xc4, .int .i64 xd4] w18) := C7.out.below g8
    clear g8 C7 lw hq0 hq1 hq2 hq3 hq4 hp0 hp1 hp2 hp3 ho0 ho1 ho2 ho3
    cases X1
    · go_wp2_with fail
      go_ret
      exact ⟨rfl, C8.out.r5.bel⟩
    obtain ⟨X5, hX5⟩ : ∃ X, tskB n ⟨c1, d1, t1, m⟩ = X := ⟨_, rfl⟩
    obtain ⟨X6, hX6⟩ : ∃ X, pieceB co0 xa4 xb4 xc4 xd4 = X := ⟨_, rfl⟩
    have HT : Hid (tskB n ⟨c1, d1, t1, m⟩ = X5) := hX5
    have HP : Hid (pieceB co0 xa4 xb4 xc4 xd4 = X6) := hX6
    clear hX5 hX6
    have lw := C8.out.r5.bp.lt
    -- [Z2
    have iaq0 : w18.cell? ⟨w.heap.size, 0, none⟩ = some (.int .i64 co0) := C8.out.r5.bc.cell 0
    have iaq1 : w18.cell? ⟨w.heap.size, 1, none⟩ = some (.int .i64 sy0) := C8.out.r5.bc.cell 1
    have iaq2 : w18.cell? ⟨w.heap.size, 2, none⟩ = some (.int .i64 la0) := C8.out.r5.bc.cell 2
    have iaq3 : w18.cell? ⟨w.heap.size, 3, none⟩ = some (.int .i64 mo0) := C8.out.r5.bc.cell 3
    have iaq4 : w18.cell? ⟨w.heap.size, 4, none⟩ = some (.slice sc n kc) := C8.out.r5.bc.cell 4
    have iap0 : w18.cell? ⟨w.heap.size + 1, 0, none⟩ = some (.int .i64 c1) := C8.out.r5.bt.cell 0
    have iap1 : w18.cell? ⟨w.heap.size + 1, 1, none⟩ = some (.int .i64 d1) := C8.out.r5.bt.cell 1
    have iap2 : w18.cell? ⟨w.heap.size + 1, 2, none⟩ = some (.int .i64 t1) := C8.out.r5.bt.cell 2
    have iap3 : w18.cell? ⟨w.heap.size + 1, 3, none⟩ = some (.slice st q kt) := C8.out.r5.bt.cell 3
    have iao0 : w18.cell? ⟨w.heap.size + 4, 0, none⟩ = some (.int .i64 xa4) := C8.out.r5.bp.cell 0
    have iao1 : w18.cell? ⟨w.heap.size + 4, 1, none⟩ = some (.int .i64 xb4) := C8.out.r5.bp.cell 1
    have iao2 : w18.cell? ⟨w.heap.size + 4, 2, none⟩ = some (.int .i64 xc4) := C8.out.r5.bp.cell 2
    have iao3 : w18.cell? ⟨w.heap.size + 4, 3, none⟩ = some (.int .i64 xd4) := C8.out.r5.bp.cell 3
    go_wp2_with fail
    go_region_held3 (fun w' => w'.cell? ⟨w.heap.size, 0, none⟩ = some (.int .i64 co0) ∧ w'.cell? ⟨w.heap.size, 1, none⟩ = some (.int .i64 sy0) ∧ w'.cell? ⟨w.heap.size, 2, none⟩ = some (.int .i64 la0) ∧ w'.cell? ⟨w.heap.size, 3, none⟩ = some (.int .i64 mo0) ∧ w'.cell? ⟨w.heap.size, 4, none⟩ = some (.slice sc n kc) ∧ w'.cell? ⟨w.heap.size + 1, 0, none⟩ = some (.int .i64 c1) ∧ w'.cell? ⟨w.heap.size + 1, 1, none⟩ = some (.int .i64 d1) ∧ w'.cell? ⟨w.heap.size + 1, 2, none⟩ = some (.int .i64 t1) ∧ w'.cell? ⟨w.heap.size + 1, 3, none⟩ = some (.slice st q kt) ∧ w'.cell? ⟨w.heap.size + 4, 0, none⟩ = some (.int .i64 xa4) ∧ w'.cell? ⟨w.heap.size + 4, 1, none⟩ = some (.int .i64 xb4) ∧ w'.cell? ⟨w.heap.size + 4, 2, none⟩ = some (.int .i64 xc4) ∧ w'.cell? ⟨w.heap.size + 4, 3, none⟩ = some (.int .i64 xd4)) (first | exact ⟨iaq0, iaq1, iaq2, iaq3, iaq4, iap0, iap1, iap2, iap3, iao0, iao1, iao2, iao3⟩ | exact ⟨ibq0, ibq1, ibq2, ibq3, ibq4, ibp0, ibp1, ibp2, ibp3, ibo0, ibo1, ibo2, ibo3⟩ | exact ⟨icq0, icq1, icq2, icq3, icq4, icp0, icp1, icp2, icp3, ico0, ico1, ico2, ico3⟩ | exact ⟨idq0, idq1, idq2, idq3, idq4, idp0, idp1, idp2, idp3, ido0, ido1, ido2, ido3⟩ | exact ⟨ieq0, ieq1, ieq2, ieq3, ieq4, iep0, iep1, iep2, iep3, ieo0, ieo1, ieo2, ieo3⟩ | go_keep) (first | (go_at_call 16; refine (rtask_at co0 sy0 la0 mo0 (.slice sc n kc) l c1 d1 t1 (.slice st q kt) m _ (by first | exact C8.out.ints | exact C8.out.drew.ints) HX.out.2.2.2.1 (by first | exact C8.out.secs | exact C8.out.drew.secs) HX.out.2.2.2.2.1 HX.out.1 n HL.out.2 X5 HT.out).mono ?_; rintro e w19 ⟨rfl, g9⟩; have C9 : Hid (Cop5 w co0 sy0 la0 mo0 sc n kc l c1 d1 t1 st q kt m c2 d2 t2 su k ku m' #[.int .i64 xa3, .int .i64 xb3, .int .i64 xc3] #[.int .i64 xa4, .int .i64 xb4, .int .i64 xc4, .int .i64 xd4] w19) := (by first | exact C8.out.below g9 | exact C8.out.drew.below g9); have ibq0 : w19.cell? ⟨w.heap.size, 0, none⟩ = some (.int .i64 co0) := C9.out.r5.bc.cell 0; have ibq1 : w19.cell? ⟨w.heap.size, 1, none⟩ = some (.int .i64 sy0) := C9.out.r5.bc.cell 1; have ibq2 : w19.cell? ⟨w.heap.size, 2, none⟩ = some (.int .i64 la0) := C9.out.r5.bc.cell 2; have ibq3 : w19.cell? ⟨w.heap.size, 3, none⟩ = some (.int .i64 mo0) := C9.out.r5.bc.cell 3; have ibq4 : w19.cell? ⟨w.heap.size, 4, none⟩ = some (.slice sc n kc) := C9.out.r5.bc.cell 4; have ibp0 : w19.cell? ⟨w.heap.size + 1, 0, none⟩ = some (.int .i64 c1) := C9.out.r5.bt.cell 0; have ibp1 : w19.cell? ⟨w.heap.size + 1, 1, none⟩ = some (.int .i64 d1) := C9.out.r5.bt.cell 1; have ibp2 : w19.cell? ⟨w.heap.size + 1, 2, none⟩ = some (.int .i64 t1) := C9.out.r5.bt.cell 2; have ibp3 : w19.cell? ⟨w.heap.size + 1, 3, none⟩ = some (.slice st q kt) := C9.out.r5.bt.cell 3; have ibo0 : w19.cell? ⟨w.heap.size + 4, 0, none⟩ = some (.int .i64 xa4) := C9.out.r5.bp.cell 0; have ibo1 : w19.cell? ⟨w.heap.size + 4, 1, none⟩ = some (.int .i64 xb4) := C9.out.r5.bp.cell 1; have ibo2 : w19.cell? ⟨w.heap.size + 4, 2, none⟩ = some (.int .i64 xc4) := C9.out.r5.bp.cell 2; have ibo3 : w19.cell? ⟨w.heap.size + 4, 3, none⟩ = some (.int .i64 xd4) := C9.out.r5.bp.cell 3; clear g9) | (go_at_call 17; refine (refTask_at co0 sy0 la0 mo0 sc n kc c1 d1 t1 (.slice st q kt) m _ (by first | exact C9.out.secs | exact C9.out.drew.secs) HX.out.2.2.2.2.1 X5 HT.out).mono ?_; rintro e w20 ⟨rfl, g10⟩; have C10 : Hid (Cop5 w co0 sy0 la0 mo0 sc n kc l c1 d1 t1 st q kt m c2 d2 t2 su k ku m' #[.int .i64 xa3, .int .i64 xb3, .int .i64 xc3] #[.int .i64 xa4, .int .i64 xb4, .int .i64 xc4, .int .i64 xd4] w20) := (by first | exact C9.out.below g10 | exact C9.out.drew.below g10); have icq0 : w20.cell? ⟨w.heap.size, 0, none⟩ = some (.int .i64 co0) := C10.out.r5.bc.cell 0; have icq1 : w20.cell? ⟨w.heap.size, 1, none⟩ = some (.int .i64 sy0) := C10.out.r5.bc.cell 1; have icq2 : w20.cell? ⟨w.heap.size, 2, none⟩ = some (.int .i64 la0) := C10.out.r5.bc.cell 2; have icq3 : w20.cell? ⟨w.heap.size, 3, none⟩ = some (.int .i64 mo0) := C10.out.r5.bc.cell 3; have icq4 : w20.cell? ⟨w.heap.size, 4, none⟩ = some (.slice sc n kc) := C10.out.r5.bc.cell 4; have icp0 : w20.cell? ⟨w.heap.size + 1, 0, none⟩ = some (.int .i64 c1) := C10.out.r5.bt.cell 0; have icp1 : w20.cell? ⟨w.heap.size + 1, 1, none⟩ = some (.int .i64 d1) := C10.out.r5.bt.cell 1; have icp2 : w20.cell? ⟨w.heap.size + 1, 2, none⟩ = some (.int .i64 t1) := C10.out.r5.bt.cell 2; have icp3 : w20.cell? ⟨w.heap.size + 1, 3, none⟩ = some (.slice st q kt) := C10.out.r5.bt.cell 3; have ico0 : w20.cell? ⟨w.heap.size + 4, 0, none⟩ = some (.int .i64 xa4) := C10.out.r5.bp.cell 0; have ico1 : w20.cell? ⟨w.heap.size + 4, 1, none⟩ = some (.int .i64 xb4) := C10.out.r5.bp.cell 1; have ico2 : w20.cell? ⟨w.heap.size + 4, 2, none⟩ = some (.int .i64 xc4) := C10.out.r5.bp.cell 2; have ico3 : w20.cell? ⟨w.heap.size + 4, 3, none⟩ = some (.int .i64 xd4) := C10.out.r5.bp.cell 3; clear g10) | (go_at_call 18; refine (piece_at co0 sy0 la0 mo0 sc n kc xa4 xb4 xc4 xd4 _ X6 HP.out).mono ?_; rintro e w21 ⟨rfl, g11⟩; have C11 : Hid (Cop5 w co0 sy0 la0 mo0 sc n kc l c1 d1 t1 st q kt m c2 d2 t2 su k ku m' #[.int .i64 xa3, .int .i64 xb3, .int .i64 xc3] #[.int .i64 xa4, .int .i64 xb4, .int .i64 xc4, .int .i64 xd4] w21) := (by first | exact C10.out.below g11 | exact C10.out.drew.below g11); have idq0 : w21.cell? ⟨w.heap.size, 0, none⟩ = some (.int .i64 co0) := C11.out.r5.bc.cell 0; have idq1 : w21.cell? ⟨w.heap.size, 1, none⟩ = some (.int .i64 sy0) := C11.out.r5.bc.cell 1; have idq2 : w21.cell? ⟨w.heap.size, 2, none⟩ = some (.int .i64 la0) := C11.out.r5.bc.cell 2; have idq3 : w21.cell? ⟨w.heap.size, 3, none⟩ = some (.int .i64 mo0) := C11.out.r5.bc.cell 3; have idq4 : w21.cell? ⟨w.heap.size, 4, none⟩ = some (.slice sc n kc) := C11.out.r5.bc.cell 4; have idp0 : w21.cell? ⟨w.heap.size + 1, 0, none⟩ = some (.int .i64 c1) := C11.out.r5.bt.cell 0; have idp1 : w21.cell? ⟨w.heap.size + 1, 1, none⟩ = some (.int .i64 d1) := C11.out.r5.bt.cell 1; have idp2 : w21.cell? ⟨w.heap.size + 1, 2, none⟩ = some (.int .i64 t1) := C11.out.r5.bt.cell 2; have idp3 : w21.cell? ⟨w.heap.size + 1, 3, none⟩ = some (.slice st q kt) := C11.out.r5.bt.cell 3; have ido0 : w21.cell? ⟨w.heap.size + 4, 0, none⟩ = some (.int .i64 xa4) := C11.out.r5.bp.cell 0; have ido1 : w21.cell? ⟨w.heap.size + 4, 1, none⟩ = some (.int .i64 xb4) := C11.out.r5.bp.cell 1; have ido2 : w21.cell? ⟨w.heap.size + 4, 2, none⟩ = some (.int .i64 xc4) := C11.out.r5.bp.cell 2; have ido3 : w21.cell? ⟨w.heap.size + 4, 3, none⟩ = some (.int .i64 xd4) := C11.out.r5.bp.cell 3; clear g11) | (go_at_call 19; refine (refPiece_at co0 sy0 la0 mo0 sc n kc xa4 xb4 xc4 xd4 _ X6 HP.out).mono ?_; rintro e w22 ⟨rfl, g12⟩; have C12 : Hid (Cop5 w co0 sy0 la0 mo0 sc n kc l c1 d1 t1 st q kt m c2 d2 t2 su k ku m' #[.int .i64 xa3, .int .i64 xb3, .int .i64 xc3] #[.int .i64 xa4, .int .i64 xb4, .int .i64 xc4, .int .i64 xd4] w22) := (by first | exact C11.out.below g12 | exact C11.out.drew.below g12); have ieq0 : w22.cell? ⟨w.heap.size, 0, none⟩ = some (.int .i64 co0) := C12.out.r5.bc.cell 0; have ieq1 : w22.cell? ⟨w.heap.size, 1, none⟩ = some (.int .i64 sy0) := C12.out.r5.bc.cell 1; have ieq2 : w22.cell? ⟨w.heap.size, 2, none⟩ = some (.int .i64 la0) := C12.out.r5.bc.cell 2; have ieq3 : w22.cell? ⟨w.heap.size, 3, none⟩ = some (.int .i64 mo0) := C12.out.r5.bc.cell 3; have ieq4 : w22.cell? ⟨w.heap.size, 4, none⟩ = some (.slice sc n kc) := C12.out.r5.bc.cell 4; have iep0 : w22.cell? ⟨w.heap.size + 1, 0, none⟩ = some (.int .i64 c1) := C12.out.r5.bt.cell 0; have iep1 : w22.cell? ⟨w.heap.size + 1, 1, none⟩ = some (.int .i64 d1) := C12.out.r5.bt.cell 1; have iep2 : w22.cell? ⟨w.heap.size + 1, 2, none⟩ = some (.int .i64 t1) := C12.out.r5.bt.cell 2; have iep3 : w22.cell? ⟨w.heap.size + 1, 3, none⟩ = some (.slice st q kt) := C12.out.r5.bt.cell 3; have ieo0 : w22.cell? ⟨w.heap.size + 4, 0, none⟩ = some (.int .i64 xa4) := C12.out.r5.bp.cell 0; have ieo1 : w22.cell? ⟨w.heap.size + 4, 1, none⟩ = some (.int .i64 xb4) := C12.out.r5.bp.cell 1; have ieo2 : w22.cell? ⟨w.heap.size + 4, 2, none⟩ = some (.int .i64 xc4) := C12.out.r5.bp.cell 2; have ieo3 : w22.cell? ⟨w.heap.size + 4, 3, none⟩ = some (.int .i64 xd4) := C12.out.r5.bp.cell 3; clear g12))
    clear iaq0 iaq1 iaq2 iaq3 iaq4 iap0 iap1 iap2 iap3 iao0 iao1 iao2 iao3 ibq0 ibq1 ibq2 ibq3 ibq4 ibp0 ibp1 ibp2 ibp3 ibo0 ibo1 ibo2 ibo3 icq0 icq1 icq2 icq3 icq4 icp0 icp1 icp2 icp3 ico0 ico1 ico2 ico3 idq0 idq1 idq2 idq3 idq4 idp0 idp1 idp2 idp3 ido0 ido1 ido2 ido3 ieq0 ieq1 ieq2 ieq3 ieq4 iep0 iep1 iep2 iep3 ieo0 ieo1 ieo2 ieo3 C8 C9 C10 C11 lw
    have lw := C12.out.r5.bp.lt
    have mq0 : w22.cell? ⟨w.heap.size, 0, none⟩ = some (.int .i64 co0) := C12.out.r5.bc.cell 0
    have mq1 : w22.cell? ⟨w.heap.size, 1, none⟩ = some (.int .i64 sy0) := C12.out.r5.bc.cell 1
    have mq2 : w22.cell? ⟨w.heap.size, 2, none⟩ = some (.int .i64 la0) := C12.out.r5.bc.cell 2
    have mq3 : w22.cell? ⟨w.heap.size, 3, none⟩ = some (.int .i64 mo0) := C12.out.r5.bc.cell 3
    have mq4 : w22.cell? ⟨w.heap.size, 4, none⟩ = some (.slice sc n kc) := C12.out.r5.bc.cell 4
    have mp0 : w22.cell? ⟨w.heap.size + 1, 0, none⟩ = some (.int .i64 c1) := C12.out.r5.bt.cell 0
    have mp1 : w22.cell? ⟨w.heap.size + 1, 1, none⟩ = some (.int .i64 d1) := C12.out.r5.bt.cell 1
    have mp2 : w22.cell? ⟨w.heap.size + 1, 2, none⟩ = some (.int .i64 t1) := C12.out.r5.bt.cell 2
    have mp3 : w22.cell? ⟨w.heap.size + 1, 3, none⟩ = some (.slice st q kt) := C12.out.r5.bt.cell 3
    go_wp2_with fail
    refine (ragents_any co0 sy0 la0 mo0 (.slice sc n kc) l c1 d1 t1 (.slice st q kt) m _ C12.out.ints HX.out.2.2.2.1 C12.out.secs HX.out.2.2.2.2.1).mono ?_
    rintro e w23 ⟨u, rfl, hi, g13⟩
    have C13 : Hid (Cop5 w co0 sy0 la0 mo0 sc n kc l c1 d1 t1 st q kt m c2 d2 t2 su k ku m' #[.int .i64 xa3, .int .i64 xb3, .int .i64 xc3] #[.int .i64 xa4, .int .i64 xb4, .int .i64 xc4, .int .i64 xd4] w23) := C12.out.below g13
    obtain ⟨A, hA⟩ : ∃ A, agentsL ⟨co0, sy0, la0, mo0, l⟩ ⟨c1, d1, t1, m⟩ = A := ⟨_, rfl⟩
    rw [hA] at hi
    obtain ⟨ua, uk, e⟩ := hi.form
    subst e
    obtain ⟨a, ha⟩ : ∃ a, A.length = a := ⟨_, rfl⟩
    rw [ha] at hi ⊢
    have HA : Hid (agentsL ⟨co0, sy0, la0, mo0, l⟩ ⟨c1, d1, t1, m⟩ = A ∧ A.length = a) := ⟨hA, ha⟩
    have IA : Hid (Ints w23 (.slice ua a uk) A) := hi
    clear g13 C12 lw hi hA ha mq0 mq1 mq2 mq3 mq4 mp0 mp1 mp2 mp3
    have lw := C13.out.r5.bp.lt
    have nq0 : w23.cell? ⟨w.heap.size, 0, none⟩ = some (.int .i64 co0) := C13.out.r5.bc.cell 0
    have nq1 : w23.cell? ⟨w.heap.size, 1, none⟩ = some (.int .i64 sy0) := C13.out.r5.bc.cell 1
    have nq2 : w23.cell? ⟨w.heap.size, 2, none⟩ = some (.int .i64 la0) := C13.out.r5.bc.cell 2
    have nq3 : w23.cell? ⟨w.heap.size, 3, none⟩ = some (.int .i64 mo0) := C13.out.r5.bc.cell 3
    have nq4 : w23.cell? ⟨w.heap.size, 4, none⟩ = some (.slice sc n kc) := C13.out.r5.bc.cell 4
    have np0 : w23.cell? ⟨w.heap.size + 1, 0, none⟩ = some (.int .i64 c1) := C13.out.r5.bt.cell 0
    have np1 : w23.cell? ⟨w.heap.size + 1, 1, none⟩ = some (.int .i64 d1) := C13.out.r5.bt.cell 1
    have np2 : w23.cell? ⟨w.heap.size + 1, 2, none⟩ = some (.int .i64 t1) := C13.out.r5.bt.cell 2
    have np3 : w23.cell? ⟨w.heap.size + 1, 3, none⟩ = some (.slice st q kt) := C13.out.r5.bt.cell 3
    go_wp2_with fail
    refine (refTask_at co0 sy0 la0 mo0 sc n kc c1 d1 t1 (.slice st q kt) m _ C13.out.secs HX.out.2.2.2.2.1 X5 HT.out).mono ?_
    rintro e w24 ⟨rfl, g14⟩
    have C14 : Hid (Cop5 w co0 sy0 la0 mo0 sc n kc l c1 d1 t1 st q kt m c2 d2 t2 su k ku m' #[.int .i64 xa3, .int .i64 xb3, .int .i64 xc3] #[.int .i64 xa4, .int .i64 xb4, .int .i64 xc4, .int .i64 xd4] w24) := C13.out.below g14
    have IB : Hid (Ints w24 (.slice ua a uk) A) := IA.out.below g14
    clear g14 C13 lw IA nq0 nq1 nq2 nq3 nq4 np0 np1 np2 np3
    cases X5
    · obtain rfl : a = 0 := by rw [← HA.out.2, ← HA.out.1]; unfold agentsL; rw [HX.out.1]; simp [HL.out.2, HT.out]
      go_wp2_with fail
      go_ret
      exact ⟨rfl, C14.out.r5.bel⟩
    -- [Z3
    obtain ⟨y1, y2, y3, y4, y5, y6⟩ := tskB_facts HT.out
    obtain ⟨k1, ⟨k2, k3⟩, k5, k6, k7, k8⟩ := cfgB_iff.1 HX.out.1
    simp only at y5 y6 k2 k3 k8
    have y7 : ∀ s ∈ m, (0 ≤ s.res ∧ s.res < l.length) ∧ 1 ≤ s.len := fun s hs => ⟨by rw [HL.out.2]; exact (y6 s hs).1, (y6 s hs).2.1.1⟩
    obtain ⟨S, rfl⟩ : ∃ S : Nat, sy0 = S := ⟨sy0.toNat, by omega⟩
    have hAr : refAg (posB l m) S = A := by rw [← HA.out.1]; unfold agentsL; simp only [HX.out.1, HL.out.2, HT.out]; exact (agL_ref y5 k2 y7 k8).symm
    have HR : Hid (refAg (posB l m) S = A ∧ (∀ s ∈ m, 0 ≤ s.res ∧ s.res < l.length)) := ⟨hAr, fun s hs => (y7 s hs).1⟩
    have a4 : a ≤ 1000 := by have := refAg_len (posB l m) S; rw [hAr, HA.out.2] at this; omega
    have S3 : S ≤ 1000 := by omega
    clear y1 y2 y3 y4 y5 y6 y7 k1 k2 k3 k5 k6 k7 k8 hAr
    have lw := C14.out.r5.bp.lt
    have mq0 : w24.cell? ⟨w.heap.size, 0, none⟩ = some (.int .i64 co0) := C14.out.r5.bc.cell 0
    have mq1 : w24.cell? ⟨w.heap.size, 1, none⟩ = some (.int .i64 (S : Int)) := C14.out.r5.bc.cell 1
    have mq2 : w24.cell? ⟨w.heap.size, 2, none⟩ = some (.int .i64 la0) := C14.out.r5.bc.cell 2
    have mq3 : w24.cell? ⟨w.heap.size, 3, none⟩ = some (.int .i64 mo0) := C14.out.r5.bc.cell 3
    have mq4 : w24.cell? ⟨w.heap.size, 4, none⟩ = some (.slice sc n kc) := C14.out.r5.bc.cell 4
    have mp0 : w24.cell? ⟨w.heap.size + 1, 0, none⟩ = some (.int .i64 c1) := C14.out.r5.bt.cell 0
    have mp1 : w24.cell? ⟨w.heap.size + 1, 1, none⟩ = some (.int .i64 d1) := C14.out.r5.bt.cell 1
    have mp2 : w24.cell? ⟨w.heap.size + 1, 2, none⟩ = some (.int .i64 t1) := C14.out.r5.bt.cell 2
    have mp3 : w24.cell? ⟨w.heap.size + 1, 3, none⟩ = some (.slice st q kt) := C14.out.r5.bt.cell 3
    go_wp2_with fail
    refine (refAgents_any co0 S la0 mo0 (.slice sc n kc) l c1 d1 t1 (.slice st q kt) m _ S3 C14.out.ints HX.out.2.2.2.1 C14.out.secs HX.out.2.2.2.2.1 HR.out.2).mono ?_
    rintro e w25 ⟨u, rfl, hi, g15⟩
    rw [HR.out.1] at hi
    obtain ⟨va, vk, e⟩ := hi.form
    subst e
    rw [HA.out.2] at hi ⊢
    have I1 : Hid (Ints w25 (.slice ua a uk) A ∧ Ints w25 (.slice va a vk) A ∧ Below w.heap.size w w25) := ⟨IB.out.below g15, hi, btrans C14.out.r5.bel g15⟩
    clear hi g15 IB C14 lw mq0 mq1 mq2 mq3 mq4 mp0 mp1 mp2 mp3
    go_wp2_with fail
    go_loopw [14] (fun i wr => ∃ j : Nat, j ≤ a ∧ i = .int .i64 j ∧ Below w25.heap.size w25 wr) (fun i _ => a - (intOf i).toNat)
    case atStart => exact ⟨0, Nat.zero_le _, rfl, Below.refl _ _⟩
    case round =>
      obtain ⟨j, hj, rfl, hB⟩ := hrel
      have B : Hid (Below w25.heap.size w25 wr) := hB
      clear hB
      by_cases hlt : j < a
      · obtain ⟨x, hx⟩ : ∃ x, A[j]? = some x := ⟨_, List.getElem?_eq_getElem (by rw [HA.out.2]; exact hlt)⟩
        obtain ⟨g, rfl, e1⟩ : ∃ g, ua = some ⟨g, 0, none⟩ ∧ wr.cell? ⟨g, j, none⟩ = some (.int .i64 x) := by
          rcases I1.out.1 with ⟨e, _⟩ | ⟨g, cap, e, hg, hc⟩
          · subst e; simp at hx
          · simp only [Value.slice.injEq] at e
            exact ⟨g, e.1, (B.out.cell (p := ⟨g, j, none⟩) hg).trans (hc j x hx)⟩
        obtain ⟨f, rfl, e2⟩ : ∃ g, va = some ⟨g, 0, none⟩ ∧ wr.cell? ⟨g, j, none⟩ = some (.int .i64 x) := by
          rcases I1.out.2.1 with ⟨e, _⟩ | ⟨g, cap, e, hg, hc⟩
          · subst e; simp at hx
          · simp only [Value.slice.injEq] at e
            exact ⟨g, e.1, (B.out.cell (p := ⟨g, j, none⟩) hg).trans (hc j x hx)⟩
        have dx : (x != x) = false := by simp
        clear hx
        go_wp2_with fail
        go_quiet (fail)
        go_wp2_with fail
        go_round
        case rel => exact ⟨j + 1, by omega, by go_num, btrans B.out ⟨rfl, rfl, rfl, Nat.le_refl _, fun _ _ => rfl⟩⟩
        case measure => simp [intOf]; omega
      · go_wp2_with fail
        go_ret
        exact ⟨ret_bool (by simp), btrans I1.out.2.2 B.out⟩
    -- ]Z3
    -- ]Z2
    -- ]Z1

set_option maxRecDepth 100000 in
theorem lifted (os : Os) (started : os.Started) (H : Type) (enc : TypeId × Value → H) :
    ReturnsInHanded {} Tryz.checked os 3 .any (fun w args => (Rows.ruleAllSpec.pre enc Tryz.prog Tryz.f3 [] false w args ∧ laidMetH Tryz.prog laid5 w) ∧ sizedMet enc Tryz.prog Tryz.f3 (OpenSpec.ofChange Rows.ruleAllSpec) false w args)
      (Rows.ruleAllSpec.post enc Tryz.prog Tryz.f3 false true false false) := by
  refine returnsInHanded_of_change_and (C := Tryz.checked) (X := fun w _ => laidMetH Tryz.prog laid5 w) (fun _ _ _ hh h => h.of_heap hh) own started (by kernel_rfl) Tryz.func3
    (ChangeSpec.witness_shaped (enc := enc) (C := Tryz.checked) (os := os) (X := fun w _ => laidMetH Tryz.prog laid5 w) false (World.doorLaid Tryz.prog 62 os) #[.agg #[.int .i64 0, .int .i64 0, .int .i64 0, .int .i64 0, .slice none 0 0], .agg #[.int .i64 0, .int .i64 0, .int .i64 0, .slice none 0 0], .agg #[.int .i64 0, .int .i64 0, .int .i64 0, .slice none 0 0], .agg #[.int .i64 0, .int .i64 0, .int .i64 0], .agg #[.int .i64 0, .int .i64 0, .int .i64 0, .int .i64 0]] 8 rfl (World.shaped_of_RefB (by kernel_rfl) (by kernel_rfl)) (by kernel_rfl) (by kernel_rfl) (by kernel_rfl) (door_met os _)) ?_
  intro W base args ds gs before hval0 hW _ _ hL _
  have hval : ∀ (j : Nat) t v, Tryz.f3.params[j]? = some t → args[j]? = some v → Value.okWide Tryz.prog W .any base t v := hval0
  have hW' := hW
  obtain ⟨p, q, hA0, hV, rfl, hfz, hnd⟩ := hW
  have hA : DataW.TrodAll enc Tryz.prog W 0 (fun _ => true) true Tryz.f3.params.toList args.toList ds p := hA0
  rw [Tryz.params3] at hA hval
  obtain ⟨v0, vs0, d0, ds0, p0, q0, hargs, rfl, rfl, h0, r0⟩ := trodAll_cons hA
  obtain ⟨v1, vs1, d1, ds1, p1, q1, rfl, rfl, rfl, h1, r1⟩ := trodAll_cons r0
  obtain ⟨v2, vs2, d2, ds2, p2, q2, rfl, rfl, rfl, h2, r2⟩ := trodAll_cons r1
  obtain ⟨v3, vs3, d3, ds3, p3, q3, rfl, rfl, rfl, h3, r3⟩ := trodAll_cons r2
  obtain ⟨v4, vs4, d4, ds4, p4, q4, rfl, rfl, rfl, h4, r4⟩ := trodAll_cons r3
  obtain ⟨rfl, rfl, rfl⟩ := trodAll_nil r4
  obtain rfl : args = #[v0, v1, v2, v3, v4] := by cases args; simp_all
  obtain ⟨rfl, rfl⟩ := trodVars_none hV
  have k0 := h0
  have lt0 : ∀ x ∈ p0, x.block < W.heap.size := by obtain ⟨m, hm⟩ := k0; exact DataW.trod_lt m _ _ _ hm
  obtain ⟨co0, sy0, la0, mo0, s0, n0, m0, z0, rfl, w0, x00, x01, x02, x03⟩ := open_config (hval 0 24 v0 rfl rfl) h0
  have k1 := h1
  have lt1 : ∀ x ∈ p1, x.block < W.heap.size := by obtain ⟨m, hm⟩ := k1; exact DataW.trod_lt m _ _ _ hm
  obtain ⟨c1, d1, t1, s1, n1, m1, z1, rfl, w1, x10, x11, x12⟩ := open_task (hval 1 27 v1 rfl rfl) h1
  have k2 := h2
  have lt2 : ∀ x ∈ p2, x.block < W.heap.size := by obtain ⟨m, hm⟩ := k2; exact DataW.trod_lt m _ _ _ hm
  obtain ⟨c2, d2, t2, s2, n2, m2, z2, rfl, w2, x20, x21, x22⟩ := open_task (hval 2 27 v2 rfl rfl) h2
  have k3 := h3
  have lt3 : ∀ x ∈ p3, x.block < W.heap.size := by obtain ⟨m, hm⟩ := k3; exact DataW.trod_lt m _ _ _ hm
  obtain ⟨xa3, xb3, xc3, rfl, x30, x31, x32⟩ := open_load (hval 3 29 v3 rfl rfl) h3
  have k4 := h4
  have lt4 : ∀ x ∈ p4, x.block < W.heap.size := by obtain ⟨m, hm⟩ := k4; exact DataW.trod_lt m _ _ _ hm
  obtain ⟨xa4, xb4, xc4, xd4, rfl, x40, x41, x42, x43⟩ := open_piece (hval 4 31 v4 rfl rfl) h4
  clear hA0 hval0
  simp only [List.append_nil] at hW'
  refine (walk co0 sy0 la0 mo0 s0 n0 m0 z0 c1 d1 t1 s1 n1 m1 z1 c2 d2 t2 s2 n2 m2 z2 xa3 xb3 xc3 xa4 xb4 xc4 xd4 W (env_of_laid hL) w0 x00 x01 x02 x03 w1 x10 x11 x12 w2 x20 x21 x22 x30 x31 x32 x40 x41 x42 x43).mono fun e W' ⟨he, bel⟩ => ?_
  subst he
  exact ⟨_, rfl, _, _, _, [], _, [], hW', trodAll_mk1 (shut_bool Tryz.underlying4 _), (trodAll_cons_mk (Below.trod laidOut (by kernel_rfl) (of_decide_eq_true (by kernel_rfl)) k0 bel lt0) (trodAll_cons_mk (Below.trod laidOut (by kernel_rfl) (of_decide_eq_true (by kernel_rfl)) k1 bel lt1) (trodAll_cons_mk (Below.trod laidOut (by kernel_rfl) (of_decide_eq_true (by kernel_rfl)) k2 bel lt2) (trodAll_cons_mk (Below.trod laidOut (by kernel_rfl) (of_decide_eq_true (by kernel_rfl)) k3 bel lt3) (trodAll_cons_mk (Below.trod laidOut (by kernel_rfl) (of_decide_eq_true (by kernel_rfl)) k4 bel lt4) trodAll_mk0))))), rfl, bel.frame _, fun h => by cases h⟩

theorem over : Rows.ruleAllRow.holds Tryz.pinned (OpenSpec.ofChange Rows.ruleAllSpec) :=
  OpenClaim.holds_of_wide 3 Tryz.f3 rfl rfl rfl rfl rfl rfl rfl ⟨rfl, rfl, rfl, rfl, rfl⟩ rfl rfl rfl rfl rfl (by kernel_rfl) Tryz.func3 (by kernel_rfl)
    (of_decide_eq_true (by kernel_rfl)) (by unfold Func.isWrapper; first | (rw [if_pos (by decide +kernel)]; kernel_rfl) | (rw [if_neg (by decide +kernel)]; exact ⟨rfl, rfl⟩))
    (fun os started H enc _ => lifted os started H enc)

theorem proved : Rows.RuleAllCardSaid :=
  Claim7.holds_tied_plain_at .later [] [.data, .data, .data, .sentinel, .sentinel] true (true, "37abfd0d7052d27f0f6d9d400e10e68c1c6c8f4ab53814c658e974c9b51592ad") true
    over (fun _ h => by cases h) (by kernel_rfl) (fun _ h => by cases h) ruleAll_row_tie rfl ⟨rfl, rfl⟩ (by kernel_rfl) rfl
    (fun f fn hf hfn => by
      obtain rfl : f = 3 := Option.some.inj ((show Tryz.prog.funcNamed "hortator/hortatorlaw7.RuleAll" = some 3 by kernel_rfl).symm.trans hf) |>.symm
      obtain rfl : fn = Tryz.f3 := (Option.some.inj (Tryz.func3.symm.trans hfn)).symm
      exact ⟨by kernel_rfl, fun j t ht => by
        rw [Tryz.params3] at ht
        match j, ht with
        | 0, ht => obtain rfl : t = 24 := by simpa using ht.symm
                   exact (show Tryz.prog.wantsStandIn 24 = false by kernel_rfl)
        | 1, ht => obtain rfl : t = 27 := by simpa using ht.symm
                   exact (show Tryz.prog.wantsStandIn 27 = false by kernel_rfl)
        | 2, ht => obtain rfl : t = 27 := by simpa using ht.symm
                   exact (show Tryz.prog.wantsStandIn 27 = false by kernel_rfl)
        | 3, ht => obtain rfl : t = 29 := by simpa using ht.symm
                   exact (show Tryz.prog.wantsStandIn 29 = false by kernel_rfl)
        | 4, ht => obtain rfl : t = 31 := by simpa using ht.symm
                   exact (show Tryz.prog.wantsStandIn 31 = false by kernel_rfl)
        | (_ + 5), ht => simp at ht⟩)
    (by kernel_rfl)
end Go.Proofs.YtfhhpmnohbmnoaaGreatDoor.ruleAll
