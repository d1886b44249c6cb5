/-
PROVED: the statement hortatorlaw7.RuleAgents answers true over the landed packages: whose sections are at which agents; a task without sections has none.
  CONDITIONS: the listed variables of strconv and math/bits hold what the program's text lays (the card ties them).
-/
import Derived.Test.YtfhhpmnohbmnoaaDoorRows
import Derived.Test.YtfhhpmnohbmnoaaDoorTie
import Derived.Test.YtfhhpmnohbmnoaaDoorCards
import Derived.WalkKit
import Derived.ProofKit
import Derived.OpenShut
import Derived.ShutString
import Derived.ChangeOld
import Derived.Below
import Derived.SevenTiedAt
import Derived.Test.YtfhhpmnohbmnoaaDoorLaid
import Derived.Carry
import Derived.Deep.Cut
import Derived.Deep.CutRange
import Derived.Deep.RegionWith
import Derived.Deep.RegionHeld3
import Derived.Deep.LoopGhost
import Derived.Deep.QuietTactic
import Derived.BigQuiet
import Derived.Test.YtfhhpmnohbmnoaaDoorTwo
import Derived.Test.YtfhhpmnohbmnoaaDoorRef3
import Derived.Test.YtfhhpmnohbmnoaaDoorAg2
import Derived.Test.YtfhhpmnohbmnoaaDoorArgs
namespace Go.Proofs.YtfhhpmnohbmnoaaDoor.ruleAgents
open Go.ChangeShapes Go.WideShapes Go.ChangeAt Go.RowKit
open Go.ChangeMaps (open_string shut_string)
set_option linter.unusedVariables false

theorem own : ownKnob Tryd.prog.godebug = none := by kernel_rfl
theorem laidOut : laidOutB Tryd.prog = true := by kernel_rfl

set_option maxHeartbeats 8000000 in
set_option maxRecDepth 100000 in
theorem walk (co0 sy0 la0 mo0 : Int) (s0 : Option Addr) (n0 m0 : Nat) (z0 : List Int) (c1 d1 t1 : Int) (s1 : Option Addr) (n1 m1 : Nat) (z1 : List Sec) (w : World) (hE : Env w) (w0 : AInts w s0 n0 m0 z0) (x00 : (Lit.int .i64 co0).wf = true) (x01 : (Lit.int .i64 sy0).wf = true) (x02 : (Lit.int .i64 la0).wf = true) (x03 : (Lit.int .i64 mo0).wf = true) (w1 : ASecs w s1 n1 m1 z1) (x10 : (Lit.int .i64 c1).wf = true) (x11 : (Lit.int .i64 d1).wf = true) (x12 : (Lit.int .i64 t1).wf = true) :
    Calls Tryd.prog 8 #[.agg #[.int .i64 co0, .int .i64 sy0, .int .i64 la0, .int .i64 mo0, .slice s0 n0 m0], .agg #[.int .i64 c1, .int .i64 d1, .int .i64 t1, .slice s1 n1 m1]] w fun e w' => e = .returned (.bool true) ∧ Below w.heap.size w w' := by
  have E0 : Hid (CT w #[.int .i64 co0, .int .i64 sy0, .int .i64 la0, .int .i64 mo0, .slice s0 n0 m0] #[.int .i64 c1, .int .i64 d1, .int .i64 t1, .slice s1 n1 m1] ((w.alloc (.cells #[.int .i64 co0, .int .i64 sy0, .int .i64 la0, .int .i64 mo0, .slice s0 n0 m0] 24)).alloc (.cells #[.int .i64 c1, .int .i64 d1, .int .i64 t1, .slice s1 n1 m1] 27))) := CT.start hE _ _
  have AC : Hid (AInts w s0 n0 m0 z0) := w0
  have AT : Hid (ASecs w s1 n1 m1 z1) := w1
  obtain ⟨l, hl⟩ : ∃ l, z0.take 8 = l := ⟨_, rfl⟩
  obtain ⟨m, hm⟩ : ∃ m, z1.take 4 = m := ⟨_, rfl⟩
  obtain ⟨n, hn⟩ : ∃ n, l.length = n := ⟨_, rfl⟩
  obtain ⟨q, hq⟩ : ∃ q, m.length = q := ⟨_, rfl⟩
  have n8 : n ≤ 8 := by rw [← hn, ← hl, List.length_take]; omega
  have q4 : q ≤ 4 := by rw [← hq, ← hm, List.length_take]; omega
  have HL : Hid (z0.take 8 = l ∧ l.length = n) := ⟨hl, hn⟩
  have HM : Hid (z1.take 4 = m ∧ m.length = q) := ⟨hm, hq⟩
  clear hE w0 w1 hl hm hn hq
  go_enter Tryd.func8, Tryd.ntmps8
  go_wp2_with fail
  refine (begun7_any _ E0.out.env).mono ?_
  rintro e v1 ⟨rfl, g1⟩
  have E1 : Hid (CT w #[.int .i64 co0, .int .i64 sy0, .int .i64 la0, .int .i64 mo0, .slice s0 n0 m0] #[.int .i64 c1, .int .i64 d1, .int .i64 t1, .slice s1 n1 m1] v1) := E0.out.below g1
  clear g1 E0
  go_upto_region 4 with fail
  go_cut [] from 14 to 17 (fun wx => ∃ sc kc st kt, Cop w co0 sy0 la0 mo0 sc n kc l c1 d1 t1 st q kt m wx)
  case first =>
    have q0 : v1.cell? ⟨w.heap.size, 0, none⟩ = some (.int .i64 co0) := E1.out.bc.cell 0
    have q1 : v1.cell? ⟨w.heap.size, 1, none⟩ = some (.int .i64 sy0) := E1.out.bc.cell 1
    have q2 : v1.cell? ⟨w.heap.size, 2, none⟩ = some (.int .i64 la0) := E1.out.bc.cell 2
    have q3 : v1.cell? ⟨w.heap.size, 3, none⟩ = some (.int .i64 mo0) := E1.out.bc.cell 3
    have q4 : v1.cell? ⟨w.heap.size, 4, none⟩ = some (.slice s0 n0 m0) := E1.out.bc.cell 4
    have p0 : v1.cell? ⟨w.heap.size + 1, 0, none⟩ = some (.int .i64 c1) := E1.out.bt.cell 0
    have p1 : v1.cell? ⟨w.heap.size + 1, 1, none⟩ = some (.int .i64 d1) := E1.out.bt.cell 1
    have p2 : v1.cell? ⟨w.heap.size + 1, 2, none⟩ = some (.int .i64 t1) := E1.out.bt.cell 2
    have p3 : v1.cell? ⟨w.heap.size + 1, 3, none⟩ = some (.slice s1 n1 m1) := E1.out.bt.cell 3
    go_region_with (first
      | (go_at_call 10; refine (lconfig_at co0 sy0 la0 mo0 s0 n0 m0 z0 l n HL.out.1 HL.out.2 _ (AC.out.below E1.out.drew.bel)).mono ?_; rintro e v2 ⟨sc, kc, rfl, own2, g2⟩; have O2 : Hid (v2.ownsRow v1.drew.heap.size 3 1 (.slice sc n kc) n (l.map mkI) ∧ Below v1.drew.heap.size v1.drew v2) := ⟨own2, g2⟩; have F2 : Hid (CT w #[.int .i64 co0, .int .i64 sy0, .int .i64 la0, .int .i64 mo0, .slice s0 n0 m0] #[.int .i64 c1, .int .i64 d1, .int .i64 t1, .slice s1 n1 m1] v2) := E1.out.drew.below g2; clear own2 g2; have q0 : v2.cell? ⟨w.heap.size, 0, none⟩ = some (.int .i64 co0) := F2.out.bc.cell 0; have q1 : v2.cell? ⟨w.heap.size, 1, none⟩ = some (.int .i64 sy0) := F2.out.bc.cell 1; have q2 : v2.cell? ⟨w.heap.size, 2, none⟩ = some (.int .i64 la0) := F2.out.bc.cell 2; have q3 : v2.cell? ⟨w.heap.size, 3, none⟩ = some (.int .i64 mo0) := F2.out.bc.cell 3; have q4 : v2.cell? ⟨w.heap.size, 4, none⟩ = some (.slice s0 n0 m0) := F2.out.bc.cell 4; have p0 : v2.cell? ⟨w.heap.size + 1, 0, none⟩ = some (.int .i64 c1) := F2.out.bt.cell 0; have p1 : v2.cell? ⟨w.heap.size + 1, 1, none⟩ = some (.int .i64 d1) := F2.out.bt.cell 1; have p2 : v2.cell? ⟨w.heap.size + 1, 2, none⟩ = some (.int .i64 t1) := F2.out.bt.cell 2; have p3 : v2.cell? ⟨w.heap.size + 1, 3, none⟩ = some (.slice s1 n1 m1) := F2.out.bt.cell 3)
      | (go_at_call 11; refine (ltask_at c1 d1 t1 s1 n1 m1 z1 m q HM.out.1 HM.out.2 _ (AT.out.below F2.out.bel)).mono ?_; rintro e v3 ⟨st, kt, rfl, own3, g3⟩; have O3 : Hid (v3.ownsRow v2.heap.size 33 3 (.slice st q kt) q (secC m) ∧ Below v2.heap.size v2 v3) := ⟨own3, g3⟩; have F3 : Hid (CT w #[.int .i64 co0, .int .i64 sy0, .int .i64 la0, .int .i64 mo0, .slice s0 n0 m0] #[.int .i64 c1, .int .i64 d1, .int .i64 t1, .slice s1 n1 m1] v3) := F2.out.below g3; have l3 := F3.out.bt.lt; clear own3 g3; have q0 : v3.cell? ⟨w.heap.size, 0, none⟩ = some (.int .i64 co0) := F3.out.bc.cell 0; have fq0 := F3.out.bc.frozen 0; have q1 : v3.cell? ⟨w.heap.size, 1, none⟩ = some (.int .i64 sy0) := F3.out.bc.cell 1; have fq1 := F3.out.bc.frozen 1; have q2 : v3.cell? ⟨w.heap.size, 2, none⟩ = some (.int .i64 la0) := F3.out.bc.cell 2; have fq2 := F3.out.bc.frozen 2; have q3 : v3.cell? ⟨w.heap.size, 3, none⟩ = some (.int .i64 mo0) := F3.out.bc.cell 3; have fq3 := F3.out.bc.frozen 3; have q4 : v3.cell? ⟨w.heap.size, 4, none⟩ = some (.slice s0 n0 m0) := F3.out.bc.cell 4; have fq4 := F3.out.bc.frozen 4; have p0 : v3.cell? ⟨w.heap.size + 1, 0, none⟩ = some (.int .i64 c1) := F3.out.bt.cell 0; have fp0 := F3.out.bt.frozen 0; have p1 : v3.cell? ⟨w.heap.size + 1, 1, none⟩ = some (.int .i64 d1) := F3.out.bt.cell 1; have fp1 := F3.out.bt.frozen 1; have p2 : v3.cell? ⟨w.heap.size + 1, 2, none⟩ = some (.int .i64 t1) := F3.out.bt.cell 2; have fp2 := F3.out.bt.frozen 2; have p3 : v3.cell? ⟨w.heap.size + 1, 3, none⟩ = some (.slice s1 n1 m1) := F3.out.bt.cell 3; have fp3 := F3.out.bt.frozen 3))
    all_goals (go_wp2_with fail; go_meet)
    all_goals exact ⟨sc, kc, st, kt, Cop.made E1.out.drew HL.out.2 HM.out.2 O2.out.1 O2.out.2 O3.out.1 O3.out.2⟩
  case rest =>
    obtain ⟨sc, kc, st, kt, hC⟩ := hcut
    have C : Hid (Cop w co0 sy0 la0 mo0 sc n kc l c1 d1 t1 st q kt m wc) := hC
    have lw := C.out.ct.bt.lt
    clear hC E1 AC AT
    have q0 : wc.cell? ⟨w.heap.size, 0, none⟩ = some (.int .i64 co0) := C.out.ct.bc.cell 0
    have q1 : wc.cell? ⟨w.heap.size, 1, none⟩ = some (.int .i64 sy0) := C.out.ct.bc.cell 1
    have q2 : wc.cell? ⟨w.heap.size, 2, none⟩ = some (.int .i64 la0) := C.out.ct.bc.cell 2
    have q3 : wc.cell? ⟨w.heap.size, 3, none⟩ = some (.int .i64 mo0) := C.out.ct.bc.cell 3
    have q4 : wc.cell? ⟨w.heap.size, 4, none⟩ = some (.slice sc n kc) := C.out.ct.bc.cell 4
    have p0 : wc.cell? ⟨w.heap.size + 1, 0, none⟩ = some (.int .i64 c1) := C.out.ct.bt.cell 0
    have p1 : wc.cell? ⟨w.heap.size + 1, 1, none⟩ = some (.int .i64 d1) := C.out.ct.bt.cell 1
    have p2 : wc.cell? ⟨w.heap.size + 1, 2, none⟩ = some (.int .i64 t1) := C.out.ct.bt.cell 2
    have p3 : wc.cell? ⟨w.heap.size + 1, 3, none⟩ = some (.slice st q kt) := C.out.ct.bt.cell 3
    cases hb : cfgB ⟨co0, sy0, la0, mo0, l⟩
    · go_wp2_with fail
      refine (refConfig_any co0 sy0 la0 mo0 (.slice sc n kc) l _ C.out.ints (by have := HL.out.2; omega)).mono ?_
      rintro e v1 ⟨rfl, g1⟩
      rw [hb]
      have D1 : Hid (Cop w co0 sy0 la0 mo0 sc n kc l c1 d1 t1 st q kt m v1) := C.out.below g1
      have lv1 := D1.out.ct.bt.lt
      clear g1
      have q0 : v1.cell? ⟨w.heap.size, 0, none⟩ = some (.int .i64 co0) := D1.out.ct.bc.cell 0
      have q1 : v1.cell? ⟨w.heap.size, 1, none⟩ = some (.int .i64 sy0) := D1.out.ct.bc.cell 1
      have q2 : v1.cell? ⟨w.heap.size, 2, none⟩ = some (.int .i64 la0) := D1.out.ct.bc.cell 2
      have q3 : v1.cell? ⟨w.heap.size, 3, none⟩ = some (.int .i64 mo0) := D1.out.ct.bc.cell 3
      have q4 : v1.cell? ⟨w.heap.size, 4, none⟩ = some (.slice sc n kc) := D1.out.ct.bc.cell 4
      have p0 : v1.cell? ⟨w.heap.size + 1, 0, none⟩ = some (.int .i64 c1) := D1.out.ct.bt.cell 0
      have p1 : v1.cell? ⟨w.heap.size + 1, 1, none⟩ = some (.int .i64 d1) := D1.out.ct.bt.cell 1
      have p2 : v1.cell? ⟨w.heap.size + 1, 2, none⟩ = some (.int .i64 t1) := D1.out.ct.bt.cell 2
      have p3 : v1.cell? ⟨w.heap.size + 1, 3, none⟩ = some (.slice st q kt) := D1.out.ct.bt.cell 3
      go_wp2_with fail
      refine (refConfig_any co0 sy0 la0 mo0 (.slice sc n kc) l _ D1.out.ints (by have := HL.out.2; omega)).mono ?_
      rintro e v2 ⟨rfl, g2⟩
      rw [hb]
      have D2 : Hid (Cop w co0 sy0 la0 mo0 sc n kc l c1 d1 t1 st q kt m v2) := D1.out.below g2
      have lv2 := D2.out.ct.bt.lt
      clear g2
      have q0 : v2.cell? ⟨w.heap.size, 0, none⟩ = some (.int .i64 co0) := D2.out.ct.bc.cell 0
      have q1 : v2.cell? ⟨w.heap.size, 1, none⟩ = some (.int .i64 sy0) := D2.out.ct.bc.cell 1
      have q2 : v2.cell? ⟨w.heap.size, 2, none⟩ = some (.int .i64 la0) := D2.out.ct.bc.cell 2
      have q3 : v2.cell? ⟨w.heap.size, 3, none⟩ = some (.int .i64 mo0) := D2.out.ct.bc.cell 3
      have q4 : v2.cell? ⟨w.heap.size, 4, none⟩ = some (.slice sc n kc) := D2.out.ct.bc.cell 4
      have p0 : v2.cell? ⟨w.heap.size + 1, 0, none⟩ = some (.int .i64 c1) := D2.out.ct.bt.cell 0
      have p1 : v2.cell? ⟨w.heap.size + 1, 1, none⟩ = some (.int .i64 d1) := D2.out.ct.bt.cell 1
      have p2 : v2.cell? ⟨w.heap.size + 1, 2, none⟩ = some (.int .i64 t1) := D2.out.ct.bt.cell 2
      have p3 : v2.cell? ⟨w.heap.size + 1, 3, none⟩ = some (.slice st q kt) := D2.out.ct.bt.cell 3
      go_wp2_with fail
      go_ret
      exact ⟨rfl, D2.out.ct.bel⟩
    cases ht : tskB n ⟨c1, d1, t1, m⟩
    · go_wp2_with fail
      refine (refConfig_any co0 sy0 la0 mo0 (.slice sc n kc) l _ C.out.ints (by have := HL.out.2; omega)).mono ?_
      rintro e w1 ⟨rfl, g1⟩
      rw [hb]
      have D1 : Hid (Cop w co0 sy0 la0 mo0 sc n kc l c1 d1 t1 st q kt m w1) := C.out.below g1
      have lw1 := D1.out.ct.bt.lt
      clear g1
      have q0 : w1.cell? ⟨w.heap.size, 0, none⟩ = some (.int .i64 co0) := D1.out.ct.bc.cell 0
      have q1 : w1.cell? ⟨w.heap.size, 1, none⟩ = some (.int .i64 sy0) := D1.out.ct.bc.cell 1
      have q2 : w1.cell? ⟨w.heap.size, 2, none⟩ = some (.int .i64 la0) := D1.out.ct.bc.cell 2
      have q3 : w1.cell? ⟨w.heap.size, 3, none⟩ = some (.int .i64 mo0) := D1.out.ct.bc.cell 3
      have q4 : w1.cell? ⟨w.heap.size, 4, none⟩ = some (.slice sc n kc) := D1.out.ct.bc.cell 4
      have p0 : w1.cell? ⟨w.heap.size + 1, 0, none⟩ = some (.int .i64 c1) := D1.out.ct.bt.cell 0
      have p1 : w1.cell? ⟨w.heap.size + 1, 1, none⟩ = some (.int .i64 d1) := D1.out.ct.bt.cell 1
      have p2 : w1.cell? ⟨w.heap.size + 1, 2, none⟩ = some (.int .i64 t1) := D1.out.ct.bt.cell 2
      have p3 : w1.cell? ⟨w.heap.size + 1, 3, none⟩ = some (.slice st q kt) := D1.out.ct.bt.cell 3
      go_wp2_with fail
      refine (refTask_any co0 sy0 la0 mo0 sc n kc c1 d1 t1 (.slice st q kt) m _ D1.out.secs (by have := HM.out.2; omega)).mono ?_
      rintro e w2 ⟨rfl, g2⟩
      rw [ht]
      have D2 : Hid (Cop w co0 sy0 la0 mo0 sc n kc l c1 d1 t1 st q kt m w2) := D1.out.below g2
      have lw2 := D2.out.ct.bt.lt
      clear g2
      have q0 : w2.cell? ⟨w.heap.size, 0, none⟩ = some (.int .i64 co0) := D2.out.ct.bc.cell 0
      have q1 : w2.cell? ⟨w.heap.size, 1, none⟩ = some (.int .i64 sy0) := D2.out.ct.bc.cell 1
      have q2 : w2.cell? ⟨w.heap.size, 2, none⟩ = some (.int .i64 la0) := D2.out.ct.bc.cell 2
      have q3 : w2.cell? ⟨w.heap.size, 3, none⟩ = some (.int .i64 mo0) := D2.out.ct.bc.cell 3
      have q4 : w2.cell? ⟨w.heap.size, 4, none⟩ = some (.slice sc n kc) := D2.out.ct.bc.cell 4
      have p0 : w2.cell? ⟨w.heap.size + 1, 0, none⟩ = some (.int .i64 c1) := D2.out.ct.bt.cell 0
      have p1 : w2.cell? ⟨w.heap.size + 1, 1, none⟩ = some (.int .i64 d1) := D2.out.ct.bt.cell 1
      have p2 : w2.cell? ⟨w.heap.size + 1, 2, none⟩ = some (.int .i64 t1) := D2.out.ct.bt.cell 2
      have p3 : w2.cell? ⟨w.heap.size + 1, 3, none⟩ = some (.slice st q kt) := D2.out.ct.bt.cell 3
      go_wp2_with fail
      refine (refConfig_any co0 sy0 la0 mo0 (.slice sc n kc) l _ D2.out.ints (by have := HL.out.2; omega)).mono ?_
      rintro e w3 ⟨rfl, g3⟩
      rw [hb]
      have D3 : Hid (Cop w co0 sy0 la0 mo0 sc n kc l c1 d1 t1 st q kt m w3) := D2.out.below g3
      have lw3 := D3.out.ct.bt.lt
      clear g3
      have q0 : w3.cell? ⟨w.heap.size, 0, none⟩ = some (.int .i64 co0) := D3.out.ct.bc.cell 0
      have q1 : w3.cell? ⟨w.heap.size, 1, none⟩ = some (.int .i64 sy0) := D3.out.ct.bc.cell 1
      have q2 : w3.cell? ⟨w.heap.size, 2, none⟩ = some (.int .i64 la0) := D3.out.ct.bc.cell 2
      have q3 : w3.cell? ⟨w.heap.size, 3, none⟩ = some (.int .i64 mo0) := D3.out.ct.bc.cell 3
      have q4 : w3.cell? ⟨w.heap.size, 4, none⟩ = some (.slice sc n kc) := D3.out.ct.bc.cell 4
      have p0 : w3.cell? ⟨w.heap.size + 1, 0, none⟩ = some (.int .i64 c1) := D3.out.ct.bt.cell 0
      have p1 : w3.cell? ⟨w.heap.size + 1, 1, none⟩ = some (.int .i64 d1) := D3.out.ct.bt.cell 1
      have p2 : w3.cell? ⟨w.heap.size + 1, 2, none⟩ = some (.int .i64 t1) := D3.out.ct.bt.cell 2
      have p3 : w3.cell? ⟨w.heap.size + 1, 3, none⟩ = some (.slice st q kt) := D3.out.ct.bt.cell 3
      go_wp2_with fail
      refine (ragents_any co0 sy0 la0 mo0 (.slice sc n kc) l c1 d1 t1 (.slice st q kt) m _ D3.out.ints (by have := HL.out.2; omega) D3.out.secs (by have := HM.out.2; omega)).mono ?_
      rintro e w4 ⟨u, rfl, hi, g4⟩
      have hA : agentsL ⟨co0, sy0, la0, mo0, l⟩ ⟨c1, d1, t1, m⟩ = [] := by unfold agentsL; simp only [hb, HL.out.2, ht]; rfl
      rw [hA] at hi
      obtain ⟨ua, uk, e⟩ := hi.form
      subst e
      have D4 : Hid (Cop w co0 sy0 la0 mo0 sc n kc l c1 d1 t1 st q kt m w4) := D3.out.below g4
      clear g4 hi hA
      go_wp2_with fail
      go_ret
      exact ⟨rfl, D4.out.ct.bel⟩
    · go_wp2_with fail
      refine (refConfig_any co0 sy0 la0 mo0 (.slice sc n kc) l _ C.out.ints (by have := HL.out.2; omega)).mono ?_
      rintro e w1 ⟨rfl, g1⟩
      rw [hb]
      have D1 : Hid (Cop w co0 sy0 la0 mo0 sc n kc l c1 d1 t1 st q kt m w1) := C.out.below g1
      have lw1 := D1.out.ct.bt.lt
      clear g1
      have q0 : w1.cell? ⟨w.heap.size, 0, none⟩ = some (.int .i64 co0) := D1.out.ct.bc.cell 0
      have q1 : w1.cell? ⟨w.heap.size, 1, none⟩ = some (.int .i64 sy0) := D1.out.ct.bc.cell 1
      have q2 : w1.cell? ⟨w.heap.size, 2, none⟩ = some (.int .i64 la0) := D1.out.ct.bc.cell 2
      have q3 : w1.cell? ⟨w.heap.size, 3, none⟩ = some (.int .i64 mo0) := D1.out.ct.bc.cell 3
      have q4 : w1.cell? ⟨w.heap.size, 4, none⟩ = some (.slice sc n kc) := D1.out.ct.bc.cell 4
      have p0 : w1.cell? ⟨w.heap.size + 1, 0, none⟩ = some (.int .i64 c1) := D1.out.ct.bt.cell 0
      have p1 : w1.cell? ⟨w.heap.size + 1, 1, none⟩ = some (.int .i64 d1) := D1.out.ct.bt.cell 1
      have p2 : w1.cell? ⟨w.heap.size + 1, 2, none⟩ = some (.int .i64 t1) := D1.out.ct.bt.cell 2
      have p3 : w1.cell? ⟨w.heap.size + 1, 3, none⟩ = some (.slice st q kt) := D1.out.ct.bt.cell 3
      go_wp2_with fail
      refine (refTask_any co0 sy0 la0 mo0 sc n kc c1 d1 t1 (.slice st q kt) m _ D1.out.secs (by have := HM.out.2; omega)).mono ?_
      rintro e w2 ⟨rfl, g2⟩
      rw [ht]
      have D2 : Hid (Cop w co0 sy0 la0 mo0 sc n kc l c1 d1 t1 st q kt m w2) := D1.out.below g2
      have lw2 := D2.out.ct.bt.lt
      clear g2
      have q0 : w2.cell? ⟨w.heap.size, 0, none⟩ = some (.int .i64 co0) := D2.out.ct.bc.cell 0
      have q1 : w2.cell? ⟨w.heap.size, 1, none⟩ = some (.int .i64 sy0) := D2.out.ct.bc.cell 1
      have q2 : w2.cell? ⟨w.heap.size, 2, none⟩ = some (.int .i64 la0) := D2.out.ct.bc.cell 2
      have q3 : w2.cell? ⟨w.heap.size, 3, none⟩ = some (.int .i64 mo0) := D2.out.ct.bc.cell 3
      have q4 : w2.cell? ⟨w.heap.size, 4, none⟩ = some (.slice sc n kc) := D2.out.ct.bc.cell 4
      have p0 : w2.cell? ⟨w.heap.size + 1, 0, none⟩ = some (.int .i64 c1) := D2.out.ct.bt.cell 0
      have p1 : w2.cell? ⟨w.heap.size + 1, 1, none⟩ = some (.int .i64 d1) := D2.out.ct.bt.cell 1
      have p2 : w2.cell? ⟨w.heap.size + 1, 2, none⟩ = some (.int .i64 t1) := D2.out.ct.bt.cell 2
      have p3 : w2.cell? ⟨w.heap.size + 1, 3, none⟩ = some (.slice st q kt) := D2.out.ct.bt.cell 3
      go_wp2_with fail
      refine (ragents_any co0 sy0 la0 mo0 (.slice sc n kc) l c1 d1 t1 (.slice st q kt) m _ D2.out.ints (by have := HL.out.2; omega) D2.out.secs (by have := HM.out.2; omega)).mono ?_
      rintro e w3 ⟨u, rfl, hi, g3⟩
      obtain ⟨x1, x2, x3, x4, x5, x6⟩ := tskB_facts ht
      simp only at x5 x6
      have x7 : ∀ s ∈ m, (0 ≤ s.res ∧ s.res < l.length) ∧ 1 ≤ s.len := fun s hs => ⟨by rw [HL.out.2]; exact (x6 s hs).1, (x6 s hs).2.1.1⟩
      obtain ⟨A, hA⟩ : ∃ A, agL l m = A := ⟨_, rfl⟩
      have hA2 : agentsL ⟨co0, sy0, la0, mo0, l⟩ ⟨c1, d1, t1, m⟩ = A := by unfold agentsL; simp only [hb, HL.out.2, ht]; exact hA
      rw [hA2] at hi
      obtain ⟨ua, uk, e⟩ := hi.form
      subst e
      obtain ⟨a, ha⟩ : ∃ a, A.length = a := ⟨_, rfl⟩
      rw [ha] at hi ⊢
      have AG : Hid (AgOk l m A ∧ A.length = a ∧ (∀ s ∈ m, (0 ≤ s.res ∧ s.res < l.length) ∧ 1 ≤ s.len)) := ⟨by rw [← hA]; exact ag_ok x5, ha, x7⟩
      have a2 : a ≤ 2 := by have := AG.out.1.two; omega
      have D3 : Hid (Cop w co0 sy0 la0 mo0 sc n kc l c1 d1 t1 st q kt m w3) := D2.out.below g3
      have IA : Hid (Ints w3 (.slice ua a uk) A) := hi
      have lw3 := D3.out.ct.bt.lt
      clear g3 hi hA hA2 ha x1 x2 x3 x4 x5 x6 x7 D2 D1 C lw lw1 lw2
      have q0 : w3.cell? ⟨w.heap.size, 0, none⟩ = some (.int .i64 co0) := D3.out.ct.bc.cell 0
      have q1 : w3.cell? ⟨w.heap.size, 1, none⟩ = some (.int .i64 sy0) := D3.out.ct.bc.cell 1
      have q2 : w3.cell? ⟨w.heap.size, 2, none⟩ = some (.int .i64 la0) := D3.out.ct.bc.cell 2
      have q3 : w3.cell? ⟨w.heap.size, 3, none⟩ = some (.int .i64 mo0) := D3.out.ct.bc.cell 3
      have q4 : w3.cell? ⟨w.heap.size, 4, none⟩ = some (.slice sc n kc) := D3.out.ct.bc.cell 4
      have p0 : w3.cell? ⟨w.heap.size + 1, 0, none⟩ = some (.int .i64 c1) := D3.out.ct.bt.cell 0
      have p1 : w3.cell? ⟨w.heap.size + 1, 1, none⟩ = some (.int .i64 d1) := D3.out.ct.bt.cell 1
      have p2 : w3.cell? ⟨w.heap.size + 1, 2, none⟩ = some (.int .i64 t1) := D3.out.ct.bt.cell 2
      have p3 : w3.cell? ⟨w.heap.size + 1, 3, none⟩ = some (.slice st q kt) := D3.out.ct.bt.cell 3
      go_wp2_with fail
      go_loopg [7] q (fun gk i wr => ∃ k : Nat, k ≤ q ∧ gk + k = q ∧ i = .int .i64 k ∧ Below w3.heap.size w3 wr)
      case atStart => exact ⟨0, Nat.zero_le _, by omega, rfl, Below.refl _ _⟩
      case round =>
        obtain ⟨k, hk, hgk, rfl, hB⟩ := hrel
        have B : Hid (Below w3.heap.size w3 wr) := hB
        have D : Hid (Cop w co0 sy0 la0 mo0 sc n kc l c1 d1 t1 st q kt m wr) := D3.out.below hB
        clear hB
        have q0 : wr.cell? ⟨w.heap.size, 0, none⟩ = some (.int .i64 co0) := D.out.ct.bc.cell 0
        have q1 : wr.cell? ⟨w.heap.size, 1, none⟩ = some (.int .i64 sy0) := D.out.ct.bc.cell 1
        have q2 : wr.cell? ⟨w.heap.size, 2, none⟩ = some (.int .i64 la0) := D.out.ct.bc.cell 2
        have q3 : wr.cell? ⟨w.heap.size, 3, none⟩ = some (.int .i64 mo0) := D.out.ct.bc.cell 3
        have q4 : wr.cell? ⟨w.heap.size, 4, none⟩ = some (.slice sc n kc) := D.out.ct.bc.cell 4
        have p0 : wr.cell? ⟨w.heap.size + 1, 0, none⟩ = some (.int .i64 c1) := D.out.ct.bt.cell 0
        have p1 : wr.cell? ⟨w.heap.size + 1, 1, none⟩ = some (.int .i64 d1) := D.out.ct.bt.cell 1
        have p2 : wr.cell? ⟨w.heap.size + 1, 2, none⟩ = some (.int .i64 t1) := D.out.ct.bt.cell 2
        have p3 : wr.cell? ⟨w.heap.size + 1, 3, none⟩ = some (.slice st q kt) := D.out.ct.bt.cell 3
        by_cases hlt : k < q
        · obtain ⟨⟨r, p, ln⟩, hx⟩ : ∃ x, m[k]? = some x := ⟨_, List.getElem?_eq_getElem (by rw [HM.out.2]; exact hlt)⟩
          obtain ⟨b, rfl, hbl, hc⟩ : ∃ b, st = some ⟨b, 0, none⟩ ∧ b < w3.heap.size ∧ w3.cell? ⟨b, k * 3, none⟩ = some (.int .i64 r) := by
            rcases D3.out.secs with ⟨e, _⟩ | ⟨b, cap, e, hb, hc⟩
            · subst e; simp at hx
            · simp only [Value.slice.injEq] at e
              exact ⟨b, e.1, hb, (hc k _ hx).1⟩
          obtain ⟨⟨r0, r1⟩, r2⟩ := AG.out.2.2 _ (List.mem_of_getElem? hx)
          simp only at r0 r1 r2
          have hag := (AG.out.1.mem (agR l ⟨r, p, ln⟩)).2 ⟨_, List.mem_of_getElem? hx, rfl⟩
          obtain ⟨j, rfl⟩ : ∃ j : Nat, r = (j : Int) := ⟨r.toNat, by omega⟩
          have hj : j < n := by have := HL.out.2; omega
          obtain ⟨y, hy⟩ : ∃ y, l[j]? = some y := ⟨_, List.getElem?_eq_getElem (by rw [HL.out.2]; exact hj)⟩
          have hay : agR l ⟨(j : Int), p, ln⟩ = y := by unfold agR; simp [hy]
          rw [hay] at hag
          obtain ⟨f, rfl, hf, cf⟩ : ∃ f, sc = some ⟨f, 0, none⟩ ∧ f < w3.heap.size ∧ w3.cell? ⟨f, j, none⟩ = some (.int .i64 y) := by
            rcases D3.out.ints with ⟨e, _⟩ | ⟨f, cap, e, hf, hc⟩
            · subst e; simp at hy
            · simp only [Value.slice.injEq] at e
              exact ⟨f, e.1, hf, hc j y hy⟩
          have CE : Hid (w3.cell? ⟨b, k * 3, none⟩ = some (.int .i64 j) ∧ w3.cell? ⟨f, j, none⟩ = some (.int .i64 y)) := ⟨hc, cf⟩
          have HY : Hid (y ∈ A) := hag
          clear hx hy hay hag hc cf r0 r1 r2
          go_wp2_with fail
          clear D q0 q1 q2 q3 q4 p0 p1 p2 p3
          go_loopg [8, 9] a (fun gk b i wr => ∃ k2 : Nat, k2 ≤ a ∧ gk + k2 = a ∧ i = .int .i64 k2 ∧ b = .bool ((A.take k2).contains y) ∧ Below w3.heap.size w3 wr)
          case atStart => exact ⟨0, Nat.zero_le _, by omega, rfl, rfl, B.out⟩
          case round =>
            obtain ⟨k2, hk2, hgk2, rfl, rfl, hB⟩ := hrel
            have D : Hid (Cop w co0 sy0 la0 mo0 (some ⟨f, 0, none⟩) n kc l c1 d1 t1 (some ⟨b, 0, none⟩) q kt m wr) := D3.out.below hB
            have q4 : wr.cell? ⟨w.heap.size, 4, none⟩ = some (.slice (some ⟨f, 0, none⟩) n kc) := D.out.ct.bc.cell 4
            have p3 : wr.cell? ⟨w.heap.size + 1, 3, none⟩ = some (.slice (some ⟨b, 0, none⟩) q kt) := D.out.ct.bt.cell 3
            have e1 : wr.cell? ⟨b, k * 3, none⟩ = some (.int .i64 j) := (hB.cell (p := ⟨b, k * 3, none⟩) hbl).trans CE.out.1
            have e2 : wr.cell? ⟨f, j, none⟩ = some (.int .i64 y) := (hB.cell (p := ⟨f, j, none⟩) hf).trans CE.out.2
            have B2 : Hid (Below w3.heap.size w3 wr) := hB
            clear D
            by_cases hlt2 : k2 < a
            · obtain ⟨x, hx⟩ : ∃ x, A[k2]? = some x := ⟨_, List.getElem?_eq_getElem (by rw [AG.out.2.1]; exact hlt2)⟩
              obtain ⟨g, rfl, e3⟩ : ∃ g, ua = some ⟨g, 0, none⟩ ∧ wr.cell? ⟨g, k2, none⟩ = some (.int .i64 x) := by
                rcases IA.out with ⟨e, _⟩ | ⟨g, cap, e, hg, hc⟩
                · subst e; simp at hx
                · simp only [Value.slice.injEq] at e
                  exact ⟨g, e.1, (hB.cell (p := ⟨g, k2, none⟩) hg).trans (hc k2 x hx)⟩
              have HX : Hid ((A.take (k2 + 1)).contains y = ((A.take k2).contains y || (x == y))) := has_take hx
              clear hx hB
              cases hcon : (A.take k2).contains y
              · go_wp2_with fail
                go_quiet (fail)
                go_wp2_with fail
                go_roundg (a - (k2 + 1))
                case rel => exact ⟨k2 + 1, by omega, by omega, by go_num, by rw [HX.out, hcon]; simp, btrans B2.out ⟨rfl, rfl, rfl, Nat.le_refl _, fun _ _ => rfl⟩⟩
                case measure => omega
              · go_wp2_with fail
                go_quiet (fail)
                go_wp2_with fail
                go_roundg (a - (k2 + 1))
                case rel => exact ⟨k2 + 1, by omega, by omega, by go_num, by rw [HX.out, hcon]; simp, btrans B2.out ⟨rfl, rfl, rfl, Nat.le_refl _, fun _ _ => rfl⟩⟩
                case measure => omega
            · have hcon : (A.take k2).contains y = true := by rw [List.take_of_length_le (by have := AG.out.2.1; omega)]; simpa using HY.out
              rw [hcon]
              clear hB hcon
              go_wp2_with fail
              go_roundg (q - (k + 1))
              case rel => exact ⟨k + 1, by omega, by omega, by go_num, B2.out⟩
              case measure => omega
        · go_wp2_with fail
          clear D q0 q1 q2 q3 q4 p0 p1 p2 p3 hlt hk hgk
          go_loopg [10] a (fun gk i wr => ∃ k : Nat, k ≤ a ∧ gk + k = a ∧ i = .int .i64 k ∧ Below w3.heap.size w3 wr)
          case atStart => exact ⟨0, Nat.zero_le _, by omega, rfl, B.out⟩
          case round =>
            obtain ⟨k, hk, hgk, rfl, hB⟩ := hrel
            have B2 : Hid (Below w3.heap.size w3 wr) := hB
            have D : Hid (Cop w co0 sy0 la0 mo0 sc n kc l c1 d1 t1 st q kt m wr) := D3.out.below hB
            have lwr := D.out.ct.bt.lt
            have q0 : wr.cell? ⟨w.heap.size, 0, none⟩ = some (.int .i64 co0) := D.out.ct.bc.cell 0
            have q1 : wr.cell? ⟨w.heap.size, 1, none⟩ = some (.int .i64 sy0) := D.out.ct.bc.cell 1
            have q2 : wr.cell? ⟨w.heap.size, 2, none⟩ = some (.int .i64 la0) := D.out.ct.bc.cell 2
            have q3 : wr.cell? ⟨w.heap.size, 3, none⟩ = some (.int .i64 mo0) := D.out.ct.bc.cell 3
            have q4 : wr.cell? ⟨w.heap.size, 4, none⟩ = some (.slice sc n kc) := D.out.ct.bc.cell 4
            have p0 : wr.cell? ⟨w.heap.size + 1, 0, none⟩ = some (.int .i64 c1) := D.out.ct.bt.cell 0
            have p1 : wr.cell? ⟨w.heap.size + 1, 1, none⟩ = some (.int .i64 d1) := D.out.ct.bt.cell 1
            have p2 : wr.cell? ⟨w.heap.size + 1, 2, none⟩ = some (.int .i64 t1) := D.out.ct.bt.cell 2
            have p3 : wr.cell? ⟨w.heap.size + 1, 3, none⟩ = some (.slice st q kt) := D.out.ct.bt.cell 3
            by_cases hlt : k < a
            · obtain ⟨x, hx⟩ : ∃ x, A[k]? = some x := ⟨_, List.getElem?_eq_getElem (by rw [AG.out.2.1]; exact hlt)⟩
              obtain ⟨g, rfl, hg, hgc⟩ : ∃ g, ua = some ⟨g, 0, none⟩ ∧ g < w3.heap.size ∧ ∀ j y, A[j]? = some y → wr.cell? ⟨g, j, none⟩ = some (.int .i64 y) := by
                rcases IA.out with ⟨e, _⟩ | ⟨g, cap, e, hg, hc⟩
                · subst e; simp at hx
                · simp only [Value.slice.injEq] at e
                  exact ⟨g, e.1, hg, fun j y hj => (hB.cell (p := ⟨g, j, none⟩) hg).trans (hc j y hj)⟩
              have e1 := hgc k x hx
              have hL := lonL_iff (y := x) AG.out.2.2
              have hL2 := hL.2.2 ((AG.out.1.mem x).1 (List.mem_of_getElem? hx))
              obtain ⟨L, hLe⟩ : ∃ L, lonL l x m = L := ⟨_, rfl⟩
              have HLe : Hid (lonL l x m = L) := hLe
              have hL1 : ¬ L = 0 := by omega
              have dL : (L == 0) = false := by simp [hL1]
              clear hL hL2 hLe
              by_cases h0 : k = 0
              · -- [K0
                subst h0
                clear hgc hx hB
                simp only [Int.natCast_zero]
                have i0 : (0 : Int) < a := by omega
                have i2 : 0 < a := by omega
                go_wp2_with fail
                refine wp_region_noPanic (wp_region_held_drew (S := (fun w' => w'.cell? ⟨w.heap.size, 0, none⟩ = some (.int .i64 co0) ∧ w'.cell? ⟨w.heap.size, 1, none⟩ = some (.int .i64 sy0) ∧ w'.cell? ⟨w.heap.size, 2, none⟩ = some (.int .i64 la0) ∧ w'.cell? ⟨w.heap.size, 3, none⟩ = some (.int .i64 mo0) ∧ w'.cell? ⟨w.heap.size, 4, none⟩ = some (.slice sc n kc) ∧ w'.cell? ⟨w.heap.size + 1, 0, none⟩ = some (.int .i64 c1) ∧ w'.cell? ⟨w.heap.size + 1, 1, none⟩ = some (.int .i64 d1) ∧ w'.cell? ⟨w.heap.size + 1, 2, none⟩ = some (.int .i64 t1) ∧ w'.cell? ⟨w.heap.size + 1, 3, none⟩ = some (.slice st q kt) ∧ w'.cell? ⟨g, 0, none⟩ = some (.int .i64 x))) (by kernel_rfl) ⟨q0, q1, q2, q3, q4, p0, p1, p2, p3, e1⟩ ?_)
                intro hS
                refine wpAnyH_take (i := 0) (v := ?va0) (nth_op rfl) (by kernel_rfl) (by kernel_rfl) (by kernel_rfl) (fun _ _ _ h => h) (Or.inl ⟨by rfl, ?ya0⟩) hS ?_
                case ya0 =>
                  intro u hu
                  try dsimp only at hu
                  go_split_ands
                  go_simp
                  try with_reducible rfl
                simp only [Act.put, List.setIfInBounds_toArray, List.set_cons_zero, List.set_cons_succ]
                refine wpAnyH_take (i := 1) (v := ?va1) (nth_op rfl) (by kernel_rfl) (by kernel_rfl) (by kernel_rfl) (fun _ _ _ h => h) (Or.inl ⟨by rfl, ?ya1⟩) hS ?_
                case ya1 =>
                  intro u hu
                  try dsimp only at hu
                  go_split_ands
                  go_simp
                  try with_reducible rfl
                simp only [Act.put, List.setIfInBounds_toArray, List.set_cons_zero, List.set_cons_succ]
                refine wpAnyH_take (i := 2) (v := ?va2) (nth_op rfl) (by kernel_rfl) (by kernel_rfl) (by kernel_rfl) (fun _ _ _ h => h) (Or.inl ⟨by rfl, ?ya2⟩) hS ?_
                case ya2 =>
                  intro u hu
                  try dsimp only at hu
                  go_split_ands
                  go_simp
                  try with_reducible rfl
                simp only [Act.put, List.setIfInBounds_toArray, List.set_cons_zero, List.set_cons_succ]
                refine wpAnyH_take (i := 3) (v := undef) (nth_op rfl) (by kernel_rfl) (by kernel_rfl) (by kernel_rfl) (fun _ _ _ h => h) (Or.inr ⟨by rfl, rfl⟩) hS ?_
                simp only [Act.put, List.setIfInBounds_toArray, List.set_cons_zero, List.set_cons_succ]
                refine wpAnyH_take (i := 4) (v := undef) (nth_op rfl) (by kernel_rfl) (by kernel_rfl) (by kernel_rfl) (fun _ _ _ h => h) (Or.inr ⟨by rfl, rfl⟩) hS ?_
                simp only [Act.put, List.setIfInBounds_toArray, List.set_cons_zero, List.set_cons_succ]
                refine wpAnyH_take (i := 5) (v := undef) (nth_op rfl) (by kernel_rfl) (by kernel_rfl) (by kernel_rfl) (fun _ _ _ h => h) (Or.inr ⟨by rfl, rfl⟩) hS ?_
                simp only [Act.put, List.setIfInBounds_toArray, List.set_cons_zero, List.set_cons_succ]
                refine wpAnyH_take (i := 6) (v := undef) (nth_op rfl) (by kernel_rfl) (by kernel_rfl) (by kernel_rfl) (fun _ _ _ h => h) (Or.inr ⟨by rfl, rfl⟩) hS ?_
                simp only [Act.put, List.setIfInBounds_toArray, List.set_cons_zero, List.set_cons_succ]
                refine wpAnyH_take (i := 7) (v := undef) (nth_op rfl) (by kernel_rfl) (by kernel_rfl) (by kernel_rfl) (fun _ _ _ h => h) (Or.inr ⟨by rfl, rfl⟩) hS ?_
                simp only [Act.put, List.setIfInBounds_toArray, List.set_cons_zero, List.set_cons_succ]
                refine wpAnyH_take (i := 8) (v := undef) (nth_op rfl) (by kernel_rfl) (by kernel_rfl) (by kernel_rfl) (fun _ _ _ h => h) (Or.inr ⟨by rfl, rfl⟩) hS ?_
                simp only [Act.put, List.setIfInBounds_toArray, List.set_cons_zero, List.set_cons_succ]
                refine wpAnyH_take (i := 9) (v := undef) (nth_op rfl) (by kernel_rfl) (by kernel_rfl) (by kernel_rfl) (fun _ _ _ h => h) (Or.inr ⟨by rfl, rfl⟩) hS ?_
                simp only [Act.put, List.setIfInBounds_toArray, List.set_cons_zero, List.set_cons_succ]
                refine wpAnyH_take (i := 10) (v := undef) (nth_op rfl) (by kernel_rfl) (by kernel_rfl) (by kernel_rfl) (fun _ _ _ h => h) (Or.inr ⟨by rfl, rfl⟩) hS ?_
                simp only [Act.put, List.setIfInBounds_toArray, List.set_cons_zero, List.set_cons_succ]
                refine wpAnyH_take (i := 11) (v := undef) (nth_op rfl) (by kernel_rfl) (by kernel_rfl) (by kernel_rfl) (fun _ _ _ h => h) (Or.inr ⟨by rfl, rfl⟩) hS ?_
                simp only [Act.put, List.setIfInBounds_toArray, List.set_cons_zero, List.set_cons_succ]
                refine wpAnyH_take (i := 12) (v := undef) (nth_op rfl) (by kernel_rfl) (by kernel_rfl) (by kernel_rfl) (fun _ _ _ h => h) (Or.inr ⟨by rfl, rfl⟩) hS ?_
                simp only [Act.put, List.setIfInBounds_toArray, List.set_cons_zero, List.set_cons_succ]
                refine wpAnyH_take (i := 13) (v := ?va13) (nth_op rfl) (by kernel_rfl) (by kernel_rfl) (by kernel_rfl) (fun _ _ _ h => h) (Or.inl ⟨by rfl, ?ya13⟩) hS ?_
                case ya13 =>
                  intro u hu
                  try dsimp only at hu
                  go_split_ands
                  go_simp
                  try with_reducible rfl
                simp only [Act.put, List.setIfInBounds_toArray, List.set_cons_zero, List.set_cons_succ]
                refine wpAnyH_take (i := 14) (v := ?va14) (nth_op rfl) (by kernel_rfl) (by kernel_rfl) (by kernel_rfl) (fun _ _ _ h => h) (Or.inl ⟨by rfl, ?ya14⟩) hS ?_
                case ya14 =>
                  intro u hu
                  try dsimp only at hu
                  go_split_ands
                  go_simp
                  try with_reducible rfl
                simp only [Act.put, List.setIfInBounds_toArray, List.set_cons_zero, List.set_cons_succ]
                refine wpAnyH_take (i := 15) (v := ?va15) (nth_op rfl) (by kernel_rfl) (by kernel_rfl) (by kernel_rfl) (fun _ _ _ h => h) (Or.inl ⟨by rfl, ?ya15⟩) hS ?_
                case ya15 =>
                  intro u hu
                  try dsimp only at hu
                  go_split_ands
                  go_simp
                  try with_reducible rfl
                simp only [Act.put, List.setIfInBounds_toArray, List.set_cons_zero, List.set_cons_succ]
                refine wpAnyH_take (i := 16) (v := ?va16) (nth_op rfl) (by kernel_rfl) (by kernel_rfl) (by kernel_rfl) (fun _ _ _ h => h) (Or.inl ⟨by rfl, ?ya16⟩) hS ?_
                case ya16 =>
                  intro u hu
                  try dsimp only at hu
                  go_split_ands
                  go_simp
                  try with_reducible rfl
                simp only [Act.put, List.setIfInBounds_toArray, List.set_cons_zero, List.set_cons_succ]
                refine wpAnyH_take (i := 17) (v := ?va17) (nth_op rfl) (by kernel_rfl) (by kernel_rfl) (by kernel_rfl) (fun _ _ _ h => h) (Or.inl ⟨by rfl, ?ya17⟩) hS ?_
                case ya17 =>
                  intro u hu
                  try dsimp only at hu
                  go_split_ands
                  go_simp
                  try with_reducible rfl
                simp only [Act.put, List.setIfInBounds_toArray, List.set_cons_zero, List.set_cons_succ]
                refine wpAnyH_take (i := 18) (v := ?va18) (nth_op rfl) (by kernel_rfl) (by kernel_rfl) (by kernel_rfl) (fun _ _ _ h => h) (Or.inl ⟨by rfl, ?ya18⟩) hS ?_
                case ya18 =>
                  intro u hu
                  try dsimp only at hu
                  go_split_ands
                  go_simp
                  try with_reducible rfl
                simp only [Act.put, List.setIfInBounds_toArray, List.set_cons_zero, List.set_cons_succ]
                refine wpAnyH_take (i := 19) (v := ?va19) (nth_op rfl) (by kernel_rfl) (by kernel_rfl) (by kernel_rfl) (fun _ _ _ h => h) (Or.inl ⟨by rfl, ?ya19⟩) hS ?_
                case ya19 =>
                  intro u hu
                  try dsimp only at hu
                  go_split_ands
                  go_simp
                  try with_reducible rfl
                simp only [Act.put, List.setIfInBounds_toArray, List.set_cons_zero, List.set_cons_succ]
                refine wpAnyH_take (i := 20) (v := ?va20) (nth_op rfl) (by kernel_rfl) (by kernel_rfl) (by kernel_rfl) (fun _ _ _ h => h) (Or.inl ⟨by rfl, ?ya20⟩) hS ?_
                case ya20 =>
                  intro u hu
                  try dsimp only at hu
                  go_split_ands
                  go_simp
                  try with_reducible rfl
                simp only [Act.put, List.setIfInBounds_toArray, List.set_cons_zero, List.set_cons_succ]
                refine wpAnyH_ready (rs := [21]) (by kernel_rfl) (by simp) ?_
                refine AllReadyH.cons (nth_op rfl) (fun K hK => ?_) AllReadyH.nil
                go_simp
                (go_at_call 21; refine (longest_any co0 sy0 la0 mo0 (.slice sc n kc) l c1 d1 t1 (.slice st q kt) m x _ (by first | exact D.out.ints | exact D.out.drew.ints) (by have := HL.out.2; omega) (by first | exact D.out.secs | exact D.out.drew.secs) (by have := HM.out.2; omega) (fun s hs => (AG.out.2.2 s hs).1)).mono ?_; rintro e w5 ⟨rfl, g5⟩; rw [HLe.out]; have D5 : Hid (Cop w co0 sy0 la0 mo0 sc n kc l c1 d1 t1 st q kt m w5) := (by first | exact D.out.below g5 | exact D.out.drew.below g5); have r0 : w5.cell? ⟨w.heap.size, 0, none⟩ = some (.int .i64 co0) := D5.out.ct.bc.cell 0; have r1 : w5.cell? ⟨w.heap.size, 1, none⟩ = some (.int .i64 sy0) := D5.out.ct.bc.cell 1; have r2 : w5.cell? ⟨w.heap.size, 2, none⟩ = some (.int .i64 la0) := D5.out.ct.bc.cell 2; have r3 : w5.cell? ⟨w.heap.size, 3, none⟩ = some (.int .i64 mo0) := D5.out.ct.bc.cell 3; have r4 : w5.cell? ⟨w.heap.size, 4, none⟩ = some (.slice sc n kc) := D5.out.ct.bc.cell 4; have tt0 : w5.cell? ⟨w.heap.size + 1, 0, none⟩ = some (.int .i64 c1) := D5.out.ct.bt.cell 0; have tt1 : w5.cell? ⟨w.heap.size + 1, 1, none⟩ = some (.int .i64 d1) := D5.out.ct.bt.cell 1; have tt2 : w5.cell? ⟨w.heap.size + 1, 2, none⟩ = some (.int .i64 t1) := D5.out.ct.bt.cell 2; have tt3 : w5.cell? ⟨w.heap.size + 1, 3, none⟩ = some (.slice st q kt) := D5.out.ct.bt.cell 3; have f1 : w5.cell? ⟨g, 0, none⟩ = some (.int .i64 x) := (by first | exact (g5.cell (p := ⟨g, 0, none⟩) (by have := B2.out.size; show g < wr.heap.size; omega)).trans e1 | exact (g5.cell (p := ⟨g, 0, none⟩) (by have := B2.out.size; show g < wr.drew.heap.size; exact (show g < wr.heap.size by omega))).trans e1); have B5 : Hid (Below w3.heap.size w3 w5) := (by first | exact btrans B2.out g5 | exact btrans B2.out (btrans ((Below.refl _ _).drew) g5)); clear g5)
                clear hS
                first | refine hK.out _ _ ⟨r0, r1, r2, r3, r4, tt0, tt1, tt2, tt3, f1⟩ (fun hS => ?_) | (go_wp2_with fail; refine hK.out _ _ ⟨r0, r1, r2, r3, r4, tt0, tt1, tt2, tt3, f1⟩ (fun hS => ?_))
                clear hK K
                try simp only [Act.put, List.setIfInBounds_toArray, List.set_cons_zero, List.set_cons_succ]
                refine wpAnyH_take (i := 22) (v := ?va22) (nth_op rfl) (by kernel_rfl) (by kernel_rfl) (by kernel_rfl) (fun _ _ _ h => h) (Or.inl ⟨by rfl, ?ya22⟩) hS ?_
                case ya22 =>
                  intro u hu
                  try dsimp only at hu
                  go_split_ands
                  go_simp
                  try with_reducible rfl
                simp only [Act.put, List.setIfInBounds_toArray, List.set_cons_zero, List.set_cons_succ]
                refine wpAnyH_take (i := 23) (v := ?va23) (nth_op rfl) (by kernel_rfl) (by kernel_rfl) (by kernel_rfl) (fun _ _ _ h => h) (Or.inl ⟨by rfl, ?ya23⟩) hS ?_
                case ya23 =>
                  intro u hu
                  try dsimp only at hu
                  go_split_ands
                  go_simp
                  try with_reducible rfl
                simp only [Act.put, List.setIfInBounds_toArray, List.set_cons_zero, List.set_cons_succ]
                refine wpAnyH_done (by kernel_rfl) (NoPanic.normal ?_) _
                go_wp2_with fail
                go_roundg (a - 1)
                case rel => exact ⟨1, by omega, by omega, by go_num, B5.out⟩
                case measure => omega
                -- ]K0
              · -- [K1
                obtain rfl : k = 1 := by omega
                obtain rfl : a = 2 := by omega
                obtain ⟨y, hy⟩ : ∃ y, A[0]? = some y := ⟨_, List.getElem?_eq_getElem (by rw [AG.out.2.1]; omega)⟩
                have e2 := hgc 0 y hy
                have hup : y < x := up_at AG.out.1.up hy hx
                have dup : decide (x ≤ y) = false := decide_eq_false (by omega)
                clear hgc hx hy hB h0
                simp only [Int.natCast_one]
                have wz : IntKind.i64.wrap 0 = 0 := rfl
                go_wp2_with fail
                refine wp_region_noPanic (wp_region_held_drew (S := (fun w' => w'.cell? ⟨w.heap.size, 0, none⟩ = some (.int .i64 co0) ∧ w'.cell? ⟨w.heap.size, 1, none⟩ = some (.int .i64 sy0) ∧ w'.cell? ⟨w.heap.size, 2, none⟩ = some (.int .i64 la0) ∧ w'.cell? ⟨w.heap.size, 3, none⟩ = some (.int .i64 mo0) ∧ w'.cell? ⟨w.heap.size, 4, none⟩ = some (.slice sc n kc) ∧ w'.cell? ⟨w.heap.size + 1, 0, none⟩ = some (.int .i64 c1) ∧ w'.cell? ⟨w.heap.size + 1, 1, none⟩ = some (.int .i64 d1) ∧ w'.cell? ⟨w.heap.size + 1, 2, none⟩ = some (.int .i64 t1) ∧ w'.cell? ⟨w.heap.size + 1, 3, none⟩ = some (.slice st q kt) ∧ w'.cell? ⟨g, 1, none⟩ = some (.int .i64 x) ∧ w'.cell? ⟨g, 0, none⟩ = some (.int .i64 y))) (by kernel_rfl) ⟨q0, q1, q2, q3, q4, p0, p1, p2, p3, e1, e2⟩ ?_)
                intro hS
                refine wpAnyH_take (i := 0) (v := ?vb0) (nth_op rfl) (by kernel_rfl) (by kernel_rfl) (by kernel_rfl) (fun _ _ _ h => h) (Or.inl ⟨by rfl, ?yb0⟩) hS ?_
                case yb0 =>
                  intro u hu
                  try dsimp only at hu
                  go_split_ands
                  go_simp
                  try with_reducible rfl
                simp only [Act.put, List.setIfInBounds_toArray, List.set_cons_zero, List.set_cons_succ]
                refine wpAnyH_take (i := 1) (v := ?vb1) (nth_op rfl) (by kernel_rfl) (by kernel_rfl) (by kernel_rfl) (fun _ _ _ h => h) (Or.inl ⟨by rfl, ?yb1⟩) hS ?_
                case yb1 =>
                  intro u hu
                  try dsimp only at hu
                  go_split_ands
                  go_simp
                  try with_reducible rfl
                simp only [Act.put, List.setIfInBounds_toArray, List.set_cons_zero, List.set_cons_succ]
                refine wpAnyH_take (i := 2) (v := ?vb2) (nth_op rfl) (by kernel_rfl) (by kernel_rfl) (by kernel_rfl) (fun _ _ _ h => h) (Or.inl ⟨by rfl, ?yb2⟩) hS ?_
                case yb2 =>
                  intro u hu
                  try dsimp only at hu
                  go_split_ands
                  go_simp
                  try with_reducible rfl
                simp only [Act.put, List.setIfInBounds_toArray, List.set_cons_zero, List.set_cons_succ]
                refine wpAnyH_take (i := 3) (v := ?vb3) (nth_op rfl) (by kernel_rfl) (by kernel_rfl) (by kernel_rfl) (fun _ _ _ h => h) (Or.inl ⟨by rfl, ?yb3⟩) hS ?_
                case yb3 =>
                  intro u hu
                  try dsimp only at hu
                  go_split_ands
                  go_simp
                  try with_reducible rfl
                simp only [Act.put, List.setIfInBounds_toArray, List.set_cons_zero, List.set_cons_succ]
                refine wpAnyH_take (i := 4) (v := ?vb4) (nth_op rfl) (by kernel_rfl) (by kernel_rfl) (by kernel_rfl) (fun _ _ _ h => h) (Or.inl ⟨by rfl, ?yb4⟩) hS ?_
                case yb4 =>
                  intro u hu
                  try dsimp only at hu
                  go_split_ands
                  go_simp
                  try with_reducible rfl
                simp only [Act.put, List.setIfInBounds_toArray, List.set_cons_zero, List.set_cons_succ]
                refine wpAnyH_take (i := 5) (v := ?vb5) (nth_op rfl) (by kernel_rfl) (by kernel_rfl) (by kernel_rfl) (fun _ _ _ h => h) (Or.inl ⟨by rfl, ?yb5⟩) hS ?_
                case yb5 =>
                  intro u hu
                  try dsimp only at hu
                  go_split_ands
                  go_simp
                  try with_reducible rfl
                simp only [Act.put, List.setIfInBounds_toArray, List.set_cons_zero, List.set_cons_succ]
                refine wpAnyH_take (i := 6) (v := ?vb6) (nth_op rfl) (by kernel_rfl) (by kernel_rfl) (by kernel_rfl) (fun _ _ _ h => h) (Or.inl ⟨by rfl, ?yb6⟩) hS ?_
                case yb6 =>
                  intro u hu
                  try dsimp only at hu
                  go_split_ands
                  go_simp
                  try with_reducible rfl
                simp only [Act.put, List.setIfInBounds_toArray, List.set_cons_zero, List.set_cons_succ]
                refine wpAnyH_take (i := 7) (v := ?vb7) (nth_op rfl) (by kernel_rfl) (by kernel_rfl) (by kernel_rfl) (fun _ _ _ h => h) (Or.inl ⟨by rfl, ?yb7⟩) hS ?_
                case yb7 =>
                  intro u hu
                  try dsimp only at hu
                  go_split_ands
                  go_simp
                  try with_reducible rfl
                simp only [Act.put, List.setIfInBounds_toArray, List.set_cons_zero, List.set_cons_succ]
                refine wpAnyH_take (i := 8) (v := ?vb8) (nth_op rfl) (by kernel_rfl) (by kernel_rfl) (by kernel_rfl) (fun _ _ _ h => h) (Or.inl ⟨by rfl, ?yb8⟩) hS ?_
                case yb8 =>
                  intro u hu
                  try dsimp only at hu
                  go_split_ands
                  go_simp
                  try with_reducible rfl
                simp only [Act.put, List.setIfInBounds_toArray, List.set_cons_zero, List.set_cons_succ]
                refine wpAnyH_take (i := 9) (v := ?vb9) (nth_op rfl) (by kernel_rfl) (by kernel_rfl) (by kernel_rfl) (fun _ _ _ h => h) (Or.inl ⟨by rfl, ?yb9⟩) hS ?_
                case yb9 =>
                  intro u hu
                  try dsimp only at hu
                  go_split_ands
                  go_simp
                  try with_reducible rfl
                simp only [Act.put, List.setIfInBounds_toArray, List.set_cons_zero, List.set_cons_succ]
                refine wpAnyH_take (i := 10) (v := ?vb10) (nth_op rfl) (by kernel_rfl) (by kernel_rfl) (by kernel_rfl) (fun _ _ _ h => h) (Or.inl ⟨by rfl, ?yb10⟩) hS ?_
                case yb10 =>
                  intro u hu
                  try dsimp only at hu
                  go_split_ands
                  go_simp
                  try with_reducible rfl
                simp only [Act.put, List.setIfInBounds_toArray, List.set_cons_zero, List.set_cons_succ]
                refine wpAnyH_take (i := 11) (v := ?vb11) (nth_op rfl) (by kernel_rfl) (by kernel_rfl) (by kernel_rfl) (fun _ _ _ h => h) (Or.inl ⟨by rfl, ?yb11⟩) hS ?_
                case yb11 =>
                  intro u hu
                  try dsimp only at hu
                  go_split_ands
                  go_simp
                  try with_reducible rfl
                simp only [Act.put, List.setIfInBounds_toArray, List.set_cons_zero, List.set_cons_succ]
                refine wpAnyH_take (i := 12) (v := ?vb12) (nth_op rfl) (by kernel_rfl) (by kernel_rfl) (by kernel_rfl) (fun _ _ _ h => h) (Or.inl ⟨by rfl, ?yb12⟩) hS ?_
                case yb12 =>
                  intro u hu
                  try dsimp only at hu
                  go_split_ands
                  go_simp
                  try with_reducible rfl
                simp only [Act.put, List.setIfInBounds_toArray, List.set_cons_zero, List.set_cons_succ]
                refine wpAnyH_take (i := 13) (v := ?vb13) (nth_op rfl) (by kernel_rfl) (by kernel_rfl) (by kernel_rfl) (fun _ _ _ h => h) (Or.inl ⟨by rfl, ?yb13⟩) hS ?_
                case yb13 =>
                  intro u hu
                  try dsimp only at hu
                  go_split_ands
                  go_simp
                  try with_reducible rfl
                simp only [Act.put, List.setIfInBounds_toArray, List.set_cons_zero, List.set_cons_succ]
                refine wpAnyH_take (i := 14) (v := ?vb14) (nth_op rfl) (by kernel_rfl) (by kernel_rfl) (by kernel_rfl) (fun _ _ _ h => h) (Or.inl ⟨by rfl, ?yb14⟩) hS ?_
                case yb14 =>
                  intro u hu
                  try dsimp only at hu
                  go_split_ands
                  go_simp
                  try with_reducible rfl
                simp only [Act.put, List.setIfInBounds_toArray, List.set_cons_zero, List.set_cons_succ]
                refine wpAnyH_take (i := 15) (v := ?vb15) (nth_op rfl) (by kernel_rfl) (by kernel_rfl) (by kernel_rfl) (fun _ _ _ h => h) (Or.inl ⟨by rfl, ?yb15⟩) hS ?_
                case yb15 =>
                  intro u hu
                  try dsimp only at hu
                  go_split_ands
                  go_simp
                  try with_reducible rfl
                simp only [Act.put, List.setIfInBounds_toArray, List.set_cons_zero, List.set_cons_succ]
                refine wpAnyH_take (i := 16) (v := ?vb16) (nth_op rfl) (by kernel_rfl) (by kernel_rfl) (by kernel_rfl) (fun _ _ _ h => h) (Or.inl ⟨by rfl, ?yb16⟩) hS ?_
                case yb16 =>
                  intro u hu
                  try dsimp only at hu
                  go_split_ands
                  go_simp
                  try with_reducible rfl
                simp only [Act.put, List.setIfInBounds_toArray, List.set_cons_zero, List.set_cons_succ]
                refine wpAnyH_take (i := 17) (v := ?vb17) (nth_op rfl) (by kernel_rfl) (by kernel_rfl) (by kernel_rfl) (fun _ _ _ h => h) (Or.inl ⟨by rfl, ?yb17⟩) hS ?_
                case yb17 =>
                  intro u hu
                  try dsimp only at hu
                  go_split_ands
                  go_simp
                  try with_reducible rfl
                simp only [Act.put, List.setIfInBounds_toArray, List.set_cons_zero, List.set_cons_succ]
                refine wpAnyH_take (i := 18) (v := ?vb18) (nth_op rfl) (by kernel_rfl) (by kernel_rfl) (by kernel_rfl) (fun _ _ _ h => h) (Or.inl ⟨by rfl, ?yb18⟩) hS ?_
                case yb18 =>
                  intro u hu
                  try dsimp only at hu
                  go_split_ands
                  go_simp
                  try with_reducible rfl
                simp only [Act.put, List.setIfInBounds_toArray, List.set_cons_zero, List.set_cons_succ]
                refine wpAnyH_take (i := 19) (v := ?vb19) (nth_op rfl) (by kernel_rfl) (by kernel_rfl) (by kernel_rfl) (fun _ _ _ h => h) (Or.inl ⟨by rfl, ?yb19⟩) hS ?_
                case yb19 =>
                  intro u hu
                  try dsimp only at hu
                  go_split_ands
                  go_simp
                  try with_reducible rfl
                simp only [Act.put, List.setIfInBounds_toArray, List.set_cons_zero, List.set_cons_succ]
                refine wpAnyH_take (i := 20) (v := ?vb20) (nth_op rfl) (by kernel_rfl) (by kernel_rfl) (by kernel_rfl) (fun _ _ _ h => h) (Or.inl ⟨by rfl, ?yb20⟩) hS ?_
                case yb20 =>
                  intro u hu
                  try dsimp only at hu
                  go_split_ands
                  go_simp
                  try with_reducible rfl
                simp only [Act.put, List.setIfInBounds_toArray, List.set_cons_zero, List.set_cons_succ]
                refine wpAnyH_ready (rs := [21]) (by kernel_rfl) (by simp) ?_
                refine AllReadyH.cons (nth_op rfl) (fun K hK => ?_) AllReadyH.nil
                go_simp
                (go_at_call 21; refine (longest_any co0 sy0 la0 mo0 (.slice sc n kc) l c1 d1 t1 (.slice st q kt) m x _ (by first | exact D.out.ints | exact D.out.drew.ints) (by have := HL.out.2; omega) (by first | exact D.out.secs | exact D.out.drew.secs) (by have := HM.out.2; omega) (fun s hs => (AG.out.2.2 s hs).1)).mono ?_; rintro e w5 ⟨rfl, g5⟩; rw [HLe.out]; have D5 : Hid (Cop w co0 sy0 la0 mo0 sc n kc l c1 d1 t1 st q kt m w5) := (by first | exact D.out.below g5 | exact D.out.drew.below g5); have r0 : w5.cell? ⟨w.heap.size, 0, none⟩ = some (.int .i64 co0) := D5.out.ct.bc.cell 0; have r1 : w5.cell? ⟨w.heap.size, 1, none⟩ = some (.int .i64 sy0) := D5.out.ct.bc.cell 1; have r2 : w5.cell? ⟨w.heap.size, 2, none⟩ = some (.int .i64 la0) := D5.out.ct.bc.cell 2; have r3 : w5.cell? ⟨w.heap.size, 3, none⟩ = some (.int .i64 mo0) := D5.out.ct.bc.cell 3; have r4 : w5.cell? ⟨w.heap.size, 4, none⟩ = some (.slice sc n kc) := D5.out.ct.bc.cell 4; have tt0 : w5.cell? ⟨w.heap.size + 1, 0, none⟩ = some (.int .i64 c1) := D5.out.ct.bt.cell 0; have tt1 : w5.cell? ⟨w.heap.size + 1, 1, none⟩ = some (.int .i64 d1) := D5.out.ct.bt.cell 1; have tt2 : w5.cell? ⟨w.heap.size + 1, 2, none⟩ = some (.int .i64 t1) := D5.out.ct.bt.cell 2; have tt3 : w5.cell? ⟨w.heap.size + 1, 3, none⟩ = some (.slice st q kt) := D5.out.ct.bt.cell 3; have f1 : w5.cell? ⟨g, 1, none⟩ = some (.int .i64 x) := (by first | exact (g5.cell (p := ⟨g, 1, none⟩) (by have := B2.out.size; show g < wr.heap.size; omega)).trans e1 | exact (g5.cell (p := ⟨g, 1, none⟩) (by have := B2.out.size; show g < wr.drew.heap.size; exact (show g < wr.heap.size by omega))).trans e1); have f2 : w5.cell? ⟨g, 0, none⟩ = some (.int .i64 y) := (by first | exact (g5.cell (p := ⟨g, 0, none⟩) (by have := B2.out.size; show g < wr.heap.size; omega)).trans e2 | exact (g5.cell (p := ⟨g, 0, none⟩) (by have := B2.out.size; show g < wr.drew.heap.size; exact (show g < wr.heap.size by omega))).trans e2); have B5 : Hid (Below w3.heap.size w3 w5) := (by first | exact btrans B2.out g5 | exact btrans B2.out (btrans ((Below.refl _ _).drew) g5)); clear g5)
                clear hS
                first | refine hK.out _ _ ⟨r0, r1, r2, r3, r4, tt0, tt1, tt2, tt3, f1, f2⟩ (fun hS => ?_) | (go_wp2_with fail; refine hK.out _ _ ⟨r0, r1, r2, r3, r4, tt0, tt1, tt2, tt3, f1, f2⟩ (fun hS => ?_))
                clear hK K
                try simp only [Act.put, List.setIfInBounds_toArray, List.set_cons_zero, List.set_cons_succ]
                refine wpAnyH_take (i := 22) (v := ?vb22) (nth_op rfl) (by kernel_rfl) (by kernel_rfl) (by kernel_rfl) (fun _ _ _ h => h) (Or.inl ⟨by rfl, ?yb22⟩) hS ?_
                case yb22 =>
                  intro u hu
                  try dsimp only at hu
                  go_split_ands
                  go_simp
                  try with_reducible rfl
                simp only [Act.put, List.setIfInBounds_toArray, List.set_cons_zero, List.set_cons_succ]
                refine wpAnyH_take (i := 23) (v := ?vb23) (nth_op rfl) (by kernel_rfl) (by kernel_rfl) (by kernel_rfl) (fun _ _ _ h => h) (Or.inl ⟨by rfl, ?yb23⟩) hS ?_
                case yb23 =>
                  intro u hu
                  try dsimp only at hu
                  go_split_ands
                  go_simp
                  try with_reducible rfl
                simp only [Act.put, List.setIfInBounds_toArray, List.set_cons_zero, List.set_cons_succ]
                refine wpAnyH_done (by kernel_rfl) (NoPanic.normal ?_) _
                go_wp2_with fail
                go_roundg 0
                case rel => exact ⟨2, by omega, by omega, by go_num, B5.out⟩
                case measure => omega
                -- ]K1
            · -- [K2
              have ka : k = a := by omega
              subst ka
              have hnil := AG.out.1.nil
              have hal := AG.out.2.1
              have hml := HM.out.2
              have dE : (decide ((k : Int) = 0) == decide ((q : Int) = 0)) = true := by rw [beq_iff_eq, decide_eq_decide]; omega
              clear hB hnil hal hml
              go_wp2_with fail
              go_ret
              exact ⟨ret_bool (by rw [Bool.eq_iff_iff]; simp only [iff_true]; first | exact dE | simpa using dE), D.out.ct.bel⟩
              -- ]K2

set_option maxRecDepth 100000 in
theorem lifted (os : Os) (started : os.Started) (H : Type) (enc : TypeId × Value → H) :
    ReturnsInHanded {} Tryd.checked os 8 .any (fun w args => (Rows.ruleAgentsSpec.pre enc Tryd.prog Tryd.f8 [] false w args ∧ laidMetH Tryd.prog laid5 w) ∧ sizedMet enc Tryd.prog Tryd.f8 (OpenSpec.ofChange Rows.ruleAgentsSpec) false w args)
      (Rows.ruleAgentsSpec.post enc Tryd.prog Tryd.f8 false true false false) := by
  refine returnsInHanded_of_change_and (C := Tryd.checked) (X := fun w _ => laidMetH Tryd.prog laid5 w) (fun _ _ _ hh h => h.of_heap hh) own started (by kernel_rfl) Tryd.func8
    (ChangeSpec.witness_shaped (enc := enc) (C := Tryd.checked) (os := os) (X := fun w _ => laidMetH Tryd.prog laid5 w) false (World.doorLaid Tryd.prog 62 os) #[.agg #[.int .i64 0, .int .i64 0, .int .i64 0, .int .i64 0, .slice none 0 0], .agg #[.int .i64 0, .int .i64 0, .int .i64 0, .slice none 0 0]] 8 rfl (World.shaped_of_RefB (by kernel_rfl) (by kernel_rfl)) (by kernel_rfl) (by kernel_rfl) (by kernel_rfl) (door_met os _)) ?_
  intro W base args ds gs before hval0 hW _ _ hL _
  have hval : ∀ (j : Nat) t v, Tryd.f8.params[j]? = some t → args[j]? = some v → Value.okWide Tryd.prog W .any base t v := hval0
  have hW' := hW
  obtain ⟨p, q, hA0, hV, rfl, hfz, hnd⟩ := hW
  have hA : DataW.TrodAll enc Tryd.prog W 0 (fun _ => true) true Tryd.f8.params.toList args.toList ds p := hA0
  rw [Tryd.params8] at hA hval
  obtain ⟨v0, vs0, d0, ds0, p0, q0, hargs, rfl, rfl, h0, r0⟩ := trodAll_cons hA
  obtain ⟨v1, vs1, d1, ds1, p1, q1, rfl, rfl, rfl, h1, r1⟩ := trodAll_cons r0
  obtain ⟨rfl, rfl, rfl⟩ := trodAll_nil r1
  obtain rfl : args = #[v0, v1] := by cases args; simp_all
  obtain ⟨rfl, rfl⟩ := trodVars_none hV
  have k0 := h0
  have lt0 : ∀ x ∈ p0, x.block < W.heap.size := by obtain ⟨m, hm⟩ := k0; exact DataW.trod_lt m _ _ _ hm
  obtain ⟨co0, sy0, la0, mo0, s0, n0, m0, z0, rfl, w0, x00, x01, x02, x03⟩ := open_config (hval 0 24 v0 rfl rfl) h0
  have k1 := h1
  have lt1 : ∀ x ∈ p1, x.block < W.heap.size := by obtain ⟨m, hm⟩ := k1; exact DataW.trod_lt m _ _ _ hm
  obtain ⟨c1, d1, t1, s1, n1, m1, z1, rfl, w1, x10, x11, x12⟩ := open_task (hval 1 27 v1 rfl rfl) h1
  clear hA0 hval0
  simp only [List.append_nil] at hW'
  refine (walk co0 sy0 la0 mo0 s0 n0 m0 z0 c1 d1 t1 s1 n1 m1 z1 W (env_of_laid hL) w0 x00 x01 x02 x03 w1 x10 x11 x12).mono fun e W' ⟨he, bel⟩ => ?_
  subst he
  exact ⟨_, rfl, _, _, _, [], _, [], hW', trodAll_mk1 (shut_bool Tryd.underlying4 _), (trodAll_cons_mk (Below.trod laidOut (by kernel_rfl) (of_decide_eq_true (by kernel_rfl)) k0 bel lt0) (trodAll_cons_mk (Below.trod laidOut (by kernel_rfl) (of_decide_eq_true (by kernel_rfl)) k1 bel lt1) trodAll_mk0)), rfl, bel.frame _, fun h => by cases h⟩

theorem over : Rows.ruleAgentsRow.holds Tryd.pinned (OpenSpec.ofChange Rows.ruleAgentsSpec) :=
  OpenClaim.holds_of_wide 8 Tryd.f8 rfl rfl rfl rfl rfl rfl rfl ⟨rfl, rfl, rfl, rfl, rfl⟩ rfl rfl rfl rfl rfl (by kernel_rfl) Tryd.func8 (by kernel_rfl)
    (of_decide_eq_true (by kernel_rfl)) (by unfold Func.isWrapper; first | (rw [if_pos (by decide +kernel)]; kernel_rfl) | (rw [if_neg (by decide +kernel)]; exact ⟨rfl, rfl⟩))
    (fun os started H enc _ => lifted os started H enc)

theorem proved : Rows.RuleAgentsCardSaid :=
  Claim7.holds_tied_plain_at .later [] [.data, .data, .data, .sentinel, .sentinel] true (true, "1a6d372db0b00892c861878746c9b402df8e3ee8bbf8bfc1e42d205f4486eca9") true
    over (fun _ h => by cases h) (by kernel_rfl) (fun _ h => by cases h) ruleAgents_row_tie rfl ⟨rfl, rfl⟩ (by kernel_rfl) rfl
    (fun f fn hf hfn => by
      obtain rfl : f = 8 := Option.some.inj ((show Tryd.prog.funcNamed "hortator/hortatorlaw7.RuleAgents" = some 8 by kernel_rfl).symm.trans hf) |>.symm
      obtain rfl : fn = Tryd.f8 := (Option.some.inj (Tryd.func8.symm.trans hfn)).symm
      exact ⟨by kernel_rfl, fun j t ht => by
        rw [Tryd.params8] at ht
        match j, ht with
        | 0, ht => obtain rfl : t = 24 := by simpa using ht.symm
                   exact (show Tryd.prog.wantsStandIn 24 = false by kernel_rfl)
        | 1, ht => obtain rfl : t = 27 := by simpa using ht.symm
                   exact (show Tryd.prog.wantsStandIn 27 = false by kernel_rfl)
        | (_ + 2), ht => simp at ht⟩)
    (by kernel_rfl)
end Go.Proofs.YtfhhpmnohbmnoaaDoor.ruleAgents
