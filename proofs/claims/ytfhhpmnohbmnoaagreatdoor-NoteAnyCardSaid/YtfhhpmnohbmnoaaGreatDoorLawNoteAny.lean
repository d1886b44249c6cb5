/-
PROVED: the statement hortatorlaw7.NoteAny answers true over the landed packages: any text is a configuration's, a task's, just its, or none's; so is one that was turned.
  CONDITIONS: the listed variables of strconv and math/bits hold what the program's text lays (the card ties them).
-/
import Derived.Test.YtfhhpmnohbmnoaaGreatDoorRows
import Derived.Test.YtfhhpmnohbmnoaaGreatDoorTie
import Derived.Test.YtfhhpmnohbmnoaaGreatDoorCards
import Derived.WalkKit
import Derived.ProofKit
import Derived.OpenShut
import Derived.ShutString
import Derived.ChangeOld
import Derived.Below
import Derived.SevenTiedAt
import Derived.Test.YtfhhpmnohbmnoaaGreatDoorLaid
import Derived.Carry
import Derived.Deep.Cut
import Derived.Deep.CutRange
import Derived.Deep.RegionWith
import Derived.Deep.RegionHeld3
import Derived.Deep.LoopGhost
import Derived.Deep.QuietTactic
import Derived.BigQuiet
import Derived.Test.YtfhhpmnohbmnoaaGreatDoorNB
import Derived.Test.YtfhhpmnohbmnoaaGreatDoorTwo
import Derived.Test.YtfhhpmnohbmnoaaGreatDoorArgs
namespace Go.Proofs.YtfhhpmnohbmnoaaGreatDoor.noteAny
open Go.ChangeShapes Go.WideShapes Go.ChangeAt Go.RowKit
open Go.ChangeMaps (open_string shut_string)
set_option linter.unusedVariables false

theorem own : ownKnob Tryz.prog.godebug = none := by kernel_rfl
theorem laidOut : laidOutB Tryz.prog = true := by kernel_rfl

set_option maxHeartbeats 8000000 in
set_option maxRecDepth 100000 in
theorem walk (y0 : ByteArray) (co1 sy1 la1 mo1 : Int) (s1 : Option Addr) (n1 m1 : Nat) (z1 : List Int) (c2 d2 t2 : Int) (s2 : Option Addr) (n2 m2 : Nat) (z2 : List Sec) (a3 : Int) (a4 : Int) (w : World) (hE : Env w) (w0 : y0.size ≤ maxLen) (w1 : AInts w s1 n1 m1 z1) (x10 : (Lit.int .i64 co1).wf = true) (x11 : (Lit.int .i64 sy1).wf = true) (x12 : (Lit.int .i64 la1).wf = true) (x13 : (Lit.int .i64 mo1).wf = true) (w2 : ASecs w s2 n2 m2 z2) (x20 : (Lit.int .i64 c2).wf = true) (x21 : (Lit.int .i64 d2).wf = true) (x22 : (Lit.int .i64 t2).wf = true) (w3 : (Lit.int .i64 a3).wf = true) (w4 : (Lit.int .u8 a4).wf = true) :
    Calls Tryz.prog 5 #[.string y0, .agg #[.int .i64 co1, .int .i64 sy1, .int .i64 la1, .int .i64 mo1, .slice s1 n1 m1], .agg #[.int .i64 c2, .int .i64 d2, .int .i64 t2, .slice s2 n2 m2], .int .i64 a3, .int .u8 a4] w fun e w' => e = .returned (.bool true) ∧ Below w.heap.size w w' := by
  obtain ⟨b1, b2⟩ := bounds_i64 w3
  unfold maxLen at w0
  have E0 : Hid (CT w #[.int .i64 co1, .int .i64 sy1, .int .i64 la1, .int .i64 mo1, .slice s1 n1 m1] #[.int .i64 c2, .int .i64 d2, .int .i64 t2, .slice s2 n2 m2] ((w.alloc (.cells #[.int .i64 co1, .int .i64 sy1, .int .i64 la1, .int .i64 mo1, .slice s1 n1 m1] 24)).alloc (.cells #[.int .i64 c2, .int .i64 d2, .int .i64 t2, .slice s2 n2 m2] 27))) := CT.start hE _ _
  have AC : Hid (AInts w s1 n1 m1 z1) := w1
  have AT : Hid (ASecs w s2 n2 m2 z2) := w2
  obtain ⟨l, hl⟩ : ∃ l, z1.take 8 = l := ⟨_, rfl⟩
  obtain ⟨m, hm⟩ : ∃ m, z2.take 4 = m := ⟨_, rfl⟩
  obtain ⟨n, hn⟩ : ∃ n, l.length = n := ⟨_, rfl⟩
  obtain ⟨q, hq⟩ : ∃ q, m.length = q := ⟨_, rfl⟩
  have n8 : n ≤ 8 := by rw [← hn, ← hl, List.length_take]; omega
  have q4 : q ≤ 4 := by rw [← hq, ← hm, List.length_take]; omega
  have HL : Hid (z1.take 8 = l ∧ l.length = n) := ⟨hl, hn⟩
  have HM : Hid (z2.take 4 = m ∧ m.length = q) := ⟨hm, hq⟩
  clear hE w1 w2 hl hm hn hq
  obtain ⟨j, hj⟩ : ∃ j : Nat, min (y0.size : Int) 60 = (j : Int) := ⟨min y0.size 60, by omega⟩
  have j60 : j ≤ 60 := by omega
  have jy : (j : Int) ≤ y0.size := by omega
  go_enter Tryz.func5, Tryz.ntmps5
  go_wp2_with fail
  refine (begun7_any _ E0.out.env).mono ?_
  rintro e v1 ⟨rfl, g1⟩
  have E1 : Hid (CT w #[.int .i64 co1, .int .i64 sy1, .int .i64 la1, .int .i64 mo1, .slice s1 n1 m1] #[.int .i64 c2, .int .i64 d2, .int .i64 t2, .slice s2 n2 m2] v1) := E0.out.below g1
  clear g1 E0
  go_upto_region 5 with fail
  have ys : (y0.extract 0 j).size ≤ 60 := by simp; omega
  generalize y0.extract 0 j = y at ys ⊢
  clear hj jy j60 w0
  go_cut [] from 23 to 26 (fun wx => ∃ sc kc st kt, Cop w co1 sy1 la1 mo1 sc n kc l c2 d2 t2 st q kt m wx)
  case first =>
    -- [A0
    have q0 : v1.cell? ⟨w.heap.size, 0, none⟩ = some (.int .i64 co1) := E1.out.bc.cell 0
    have q1 : v1.cell? ⟨w.heap.size, 1, none⟩ = some (.int .i64 sy1) := E1.out.bc.cell 1
    have q2 : v1.cell? ⟨w.heap.size, 2, none⟩ = some (.int .i64 la1) := E1.out.bc.cell 2
    have q3 : v1.cell? ⟨w.heap.size, 3, none⟩ = some (.int .i64 mo1) := E1.out.bc.cell 3
    have q4 : v1.cell? ⟨w.heap.size, 4, none⟩ = some (.slice s1 n1 m1) := E1.out.bc.cell 4
    have p0 : v1.cell? ⟨w.heap.size + 1, 0, none⟩ = some (.int .i64 c2) := E1.out.bt.cell 0
    have p1 : v1.cell? ⟨w.heap.size + 1, 1, none⟩ = some (.int .i64 d2) := E1.out.bt.cell 1
    have p2 : v1.cell? ⟨w.heap.size + 1, 2, none⟩ = some (.int .i64 t2) := E1.out.bt.cell 2
    have p3 : v1.cell? ⟨w.heap.size + 1, 3, none⟩ = some (.slice s2 n2 m2) := E1.out.bt.cell 3
    go_region_with (first
      | (go_at_call 8; refine (lconfig_at co1 sy1 la1 mo1 s1 n1 m1 z1 l n HL.out.1 HL.out.2 _ (AC.out.below E1.out.drew.bel)).mono ?_; rintro e v2 ⟨sc, kc, rfl, own2, g2⟩; have O2 : Hid (v2.ownsRow v1.drew.heap.size 3 1 (.slice sc n kc) n (l.map mkI) ∧ Below v1.drew.heap.size v1.drew v2) := ⟨own2, g2⟩; have F2 : Hid (CT w #[.int .i64 co1, .int .i64 sy1, .int .i64 la1, .int .i64 mo1, .slice s1 n1 m1] #[.int .i64 c2, .int .i64 d2, .int .i64 t2, .slice s2 n2 m2] v2) := E1.out.drew.below g2; clear own2 g2; have q0 : v2.cell? ⟨w.heap.size, 0, none⟩ = some (.int .i64 co1) := F2.out.bc.cell 0; have q1 : v2.cell? ⟨w.heap.size, 1, none⟩ = some (.int .i64 sy1) := F2.out.bc.cell 1; have q2 : v2.cell? ⟨w.heap.size, 2, none⟩ = some (.int .i64 la1) := F2.out.bc.cell 2; have q3 : v2.cell? ⟨w.heap.size, 3, none⟩ = some (.int .i64 mo1) := F2.out.bc.cell 3; have q4 : v2.cell? ⟨w.heap.size, 4, none⟩ = some (.slice s1 n1 m1) := F2.out.bc.cell 4; have p0 : v2.cell? ⟨w.heap.size + 1, 0, none⟩ = some (.int .i64 c2) := F2.out.bt.cell 0; have p1 : v2.cell? ⟨w.heap.size + 1, 1, none⟩ = some (.int .i64 d2) := F2.out.bt.cell 1; have p2 : v2.cell? ⟨w.heap.size + 1, 2, none⟩ = some (.int .i64 t2) := F2.out.bt.cell 2; have p3 : v2.cell? ⟨w.heap.size + 1, 3, none⟩ = some (.slice s2 n2 m2) := F2.out.bt.cell 3)
      | (go_at_call 9; refine (ltask_at c2 d2 t2 s2 n2 m2 z2 m q HM.out.1 HM.out.2 _ (AT.out.below F2.out.bel)).mono ?_; rintro e v3 ⟨st, kt, rfl, own3, g3⟩; have O3 : Hid (v3.ownsRow v2.heap.size 57 3 (.slice st q kt) q (secC m) ∧ Below v2.heap.size v2 v3) := ⟨own3, g3⟩; have F3 : Hid (CT w #[.int .i64 co1, .int .i64 sy1, .int .i64 la1, .int .i64 mo1, .slice s1 n1 m1] #[.int .i64 c2, .int .i64 d2, .int .i64 t2, .slice s2 n2 m2] v3) := F2.out.below g3; have l3 := F3.out.bt.lt; clear own3 g3; have q0 : v3.cell? ⟨w.heap.size, 0, none⟩ = some (.int .i64 co1) := F3.out.bc.cell 0; have fq0 := F3.out.bc.frozen 0; have q1 : v3.cell? ⟨w.heap.size, 1, none⟩ = some (.int .i64 sy1) := F3.out.bc.cell 1; have fq1 := F3.out.bc.frozen 1; have q2 : v3.cell? ⟨w.heap.size, 2, none⟩ = some (.int .i64 la1) := F3.out.bc.cell 2; have fq2 := F3.out.bc.frozen 2; have q3 : v3.cell? ⟨w.heap.size, 3, none⟩ = some (.int .i64 mo1) := F3.out.bc.cell 3; have fq3 := F3.out.bc.frozen 3; have q4 : v3.cell? ⟨w.heap.size, 4, none⟩ = some (.slice s1 n1 m1) := F3.out.bc.cell 4; have fq4 := F3.out.bc.frozen 4; have p0 : v3.cell? ⟨w.heap.size + 1, 0, none⟩ = some (.int .i64 c2) := F3.out.bt.cell 0; have fp0 := F3.out.bt.frozen 0; have p1 : v3.cell? ⟨w.heap.size + 1, 1, none⟩ = some (.int .i64 d2) := F3.out.bt.cell 1; have fp1 := F3.out.bt.frozen 1; have p2 : v3.cell? ⟨w.heap.size + 1, 2, none⟩ = some (.int .i64 t2) := F3.out.bt.cell 2; have fp2 := F3.out.bt.frozen 2; have p3 : v3.cell? ⟨w.heap.size + 1, 3, none⟩ = some (.slice s2 n2 m2) := F3.out.bt.cell 3; have fp3 := F3.out.bt.frozen 3))
    all_goals (go_wp2_with fail; go_meet)
    all_goals exact ⟨sc, kc, st, kt, Cop.made E1.out.drew HL.out.2 HM.out.2 O2.out.1 O2.out.2 O3.out.1 O3.out.2⟩
    -- ]A0
  case rest =>
    obtain ⟨sc, kc, st, kt, hC⟩ := hcut
    have C : Hid (Cop w co1 sy1 la1 mo1 sc n kc l c2 d2 t2 st q kt m wc) := hC
    have lw := C.out.ct.bt.lt
    clear hC E1 AC AT
    have q0 : wc.cell? ⟨w.heap.size, 0, none⟩ = some (.int .i64 co1) := C.out.ct.bc.cell 0
    have q1 : wc.cell? ⟨w.heap.size, 1, none⟩ = some (.int .i64 sy1) := C.out.ct.bc.cell 1
    have q2 : wc.cell? ⟨w.heap.size, 2, none⟩ = some (.int .i64 la1) := C.out.ct.bc.cell 2
    have q3 : wc.cell? ⟨w.heap.size, 3, none⟩ = some (.int .i64 mo1) := C.out.ct.bc.cell 3
    have q4 : wc.cell? ⟨w.heap.size, 4, none⟩ = some (.slice sc n kc) := C.out.ct.bc.cell 4
    have p0 : wc.cell? ⟨w.heap.size + 1, 0, none⟩ = some (.int .i64 c2) := C.out.ct.bt.cell 0
    have p1 : wc.cell? ⟨w.heap.size + 1, 1, none⟩ = some (.int .i64 d2) := C.out.ct.bt.cell 1
    have p2 : wc.cell? ⟨w.heap.size + 1, 2, none⟩ = some (.int .i64 t2) := C.out.ct.bt.cell 2
    have p3 : wc.cell? ⟨w.heap.size + 1, 3, none⟩ = some (.slice st q kt) := C.out.ct.bt.cell 3
    obtain ⟨X, hX⟩ : ∃ X, cfgB ⟨co1, sy1, la1, mo1, l⟩ = X := ⟨_, rfl⟩
    have HX : Hid (cfgB ⟨co1, sy1, la1, mo1, l⟩ = X) := hX
    clear hX
    go_wp2_with fail
    refine (refConfig_any co1 sy1 la1 mo1 (.slice sc n kc) l wc C.out.ints (by have := HL.out.2; omega)).mono ?_
    rintro e w4 ⟨rfl, g4⟩
    rw [HX.out]
    have C4 : Hid (Cop w co1 sy1 la1 mo1 sc n kc l c2 d2 t2 st q kt m w4) := C.out.below g4
    clear g4 C lw q0 q1 q2 q3 q4 p0 p1 p2 p3
    have q0 : w4.cell? ⟨w.heap.size, 0, none⟩ = some (.int .i64 co1) := C4.out.ct.bc.cell 0
    have fq0 := C4.out.ct.bc.frozen 0
    have q1 : w4.cell? ⟨w.heap.size, 1, none⟩ = some (.int .i64 sy1) := C4.out.ct.bc.cell 1
    have fq1 := C4.out.ct.bc.frozen 1
    have q2 : w4.cell? ⟨w.heap.size, 2, none⟩ = some (.int .i64 la1) := C4.out.ct.bc.cell 2
    have fq2 := C4.out.ct.bc.frozen 2
    have q3 : w4.cell? ⟨w.heap.size, 3, none⟩ = some (.int .i64 mo1) := C4.out.ct.bc.cell 3
    have fq3 := C4.out.ct.bc.frozen 3
    have q4 : w4.cell? ⟨w.heap.size, 4, none⟩ = some (.slice sc n kc) := C4.out.ct.bc.cell 4
    have fq4 := C4.out.ct.bc.frozen 4
    have p0 : w4.cell? ⟨w.heap.size + 1, 0, none⟩ = some (.int .i64 c2) := C4.out.ct.bt.cell 0
    have fp0 := C4.out.ct.bt.frozen 0
    have p1 : w4.cell? ⟨w.heap.size + 1, 1, none⟩ = some (.int .i64 d2) := C4.out.ct.bt.cell 1
    have fp1 := C4.out.ct.bt.frozen 1
    have p2 : w4.cell? ⟨w.heap.size + 1, 2, none⟩ = some (.int .i64 t2) := C4.out.ct.bt.cell 2
    have fp2 := C4.out.ct.bt.frozen 2
    have p3 : w4.cell? ⟨w.heap.size + 1, 3, none⟩ = some (.slice st q kt) := C4.out.ct.bt.cell 3
    have fp3 := C4.out.ct.bt.frozen 3
    have lw := C4.out.ct.bt.lt
    go_upto_if 29 with fail
    go_cut [] from 30 to 30 (fun wx => ∃ (co sy la mo : Int) (sa : Option Addr) (na ka : Nat) (li : List Int), cfgB ⟨co, sy, la, mo, li⟩ = true ∧ na ≤ 8 ∧ Cop w co sy la mo sa na ka li c2 d2 t2 st q kt m wx)
    case first =>
      -- [A1
      cases X
      · go_wp2_with fail
        go_meet
        exact ⟨1, 0, 0, 0, none, 0, 0, [], by decide, by omega, C4.out.one⟩
      · go_wp2_with fail
        go_meet
        exact ⟨co1, sy1, la1, mo1, sc, n, kc, l, HX.out, n8, C4.out⟩
      -- ]A1
    case rest =>
      obtain ⟨co, sy, la, mo, sa, na, ka, li, hb, na8, hC⟩ := hcut
      have D : Hid (Cop w co sy la mo sa na ka li c2 d2 t2 st q kt m wc) := hC
      have HB : Hid (cfgB ⟨co, sy, la, mo, li⟩ = true) := hb
      clear hC C4 HX hb lw q0 q1 q2 q3 q4 p0 p1 p2 p3 fq0 fq1 fq2 fq3 fq4 fp0 fp1 fp2 fp3
      have lw := D.out.ct.bt.lt
      have LL : Hid (li.length ≤ 1000000 ∧ m.length ≤ 1000000) := ⟨by have := D.out.lc; omega, by have := D.out.lt; omega⟩
      have q0 : wc.cell? ⟨w.heap.size, 0, none⟩ = some (.int .i64 co) := D.out.ct.bc.cell 0
      have q1 : wc.cell? ⟨w.heap.size, 1, none⟩ = some (.int .i64 sy) := D.out.ct.bc.cell 1
      have q2 : wc.cell? ⟨w.heap.size, 2, none⟩ = some (.int .i64 la) := D.out.ct.bc.cell 2
      have q3 : wc.cell? ⟨w.heap.size, 3, none⟩ = some (.int .i64 mo) := D.out.ct.bc.cell 3
      have q4 : wc.cell? ⟨w.heap.size, 4, none⟩ = some (.slice sa na ka) := D.out.ct.bc.cell 4
      have p0 : wc.cell? ⟨w.heap.size + 1, 0, none⟩ = some (.int .i64 c2) := D.out.ct.bt.cell 0
      have p1 : wc.cell? ⟨w.heap.size + 1, 1, none⟩ = some (.int .i64 d2) := D.out.ct.bt.cell 1
      have p2 : wc.cell? ⟨w.heap.size + 1, 2, none⟩ = some (.int .i64 t2) := D.out.ct.bt.cell 2
      have p3 : wc.cell? ⟨w.heap.size + 1, 3, none⟩ = some (.slice st q kt) := D.out.ct.bt.cell 3
      go_wp2_with fail
      refine (tells_any co sy la mo (.slice sa na ka) li y wc (by omega) D.out.ct.env D.out.ints HB.out).mono ?_
      rintro e w5 ⟨rfl, g5⟩
      have D5 : Hid (Cop w co sy la mo sa na ka li c2 d2 t2 st q kt m w5) := D.out.below g5
      clear g5 D lw q0 q1 q2 q3 q4 p0 p1 p2 p3
      have lw := D5.out.ct.bt.lt
      have q0 : w5.cell? ⟨w.heap.size, 0, none⟩ = some (.int .i64 co) := D5.out.ct.bc.cell 0
      have q1 : w5.cell? ⟨w.heap.size, 1, none⟩ = some (.int .i64 sy) := D5.out.ct.bc.cell 1
      have q2 : w5.cell? ⟨w.heap.size, 2, none⟩ = some (.int .i64 la) := D5.out.ct.bc.cell 2
      have q3 : w5.cell? ⟨w.heap.size, 3, none⟩ = some (.int .i64 mo) := D5.out.ct.bc.cell 3
      have q4 : w5.cell? ⟨w.heap.size, 4, none⟩ = some (.slice sa na ka) := D5.out.ct.bc.cell 4
      have p0 : w5.cell? ⟨w.heap.size + 1, 0, none⟩ = some (.int .i64 c2) := D5.out.ct.bt.cell 0
      have p1 : w5.cell? ⟨w.heap.size + 1, 1, none⟩ = some (.int .i64 d2) := D5.out.ct.bt.cell 1
      have p2 : w5.cell? ⟨w.heap.size + 1, 2, none⟩ = some (.int .i64 t2) := D5.out.ct.bt.cell 2
      have p3 : w5.cell? ⟨w.heap.size + 1, 3, none⟩ = some (.slice st q kt) := D5.out.ct.bt.cell 3
      go_upto_region 10 with fail
      go_cut [39, 40, 41] from 35 to 41 (fun u39 u40 u41 wx => ∃ g p r, u39 = .slice (some ⟨g, 0, none⟩) 2 2 ∧ u40 = .int .i64 2 ∧ u41 = .int .i64 0 ∧ ByteArray.size p ≤ 100 ∧ ByteArray.size r ≤ 100 ∧ Rn w co sy la mo sa na ka li c2 d2 t2 st q kt m g p r wx)
      case first =>
        -- [A2
        go_region_with (first
          | (go_at_call 22; refine (putCfg_any co sy la mo (.slice sa na ka) li _ D5.out.drew.ints LL.out.1).mono ?_; rintro e v2 ⟨p, rfl, hp, g2⟩; have ps := cfg_size hp; have D6 : Hid (Cop w co sy la mo sa na ka li c2 d2 t2 st q kt m v2) := D5.out.drew.below g2; clear hp g2; have q0 : v2.cell? ⟨w.heap.size, 0, none⟩ = some (.int .i64 co) := D6.out.ct.bc.cell 0; have q1 : v2.cell? ⟨w.heap.size, 1, none⟩ = some (.int .i64 sy) := D6.out.ct.bc.cell 1; have q2 : v2.cell? ⟨w.heap.size, 2, none⟩ = some (.int .i64 la) := D6.out.ct.bc.cell 2; have q3 : v2.cell? ⟨w.heap.size, 3, none⟩ = some (.int .i64 mo) := D6.out.ct.bc.cell 3; have q4 : v2.cell? ⟨w.heap.size, 4, none⟩ = some (.slice sa na ka) := D6.out.ct.bc.cell 4; have p0 : v2.cell? ⟨w.heap.size + 1, 0, none⟩ = some (.int .i64 c2) := D6.out.ct.bt.cell 0; have p1 : v2.cell? ⟨w.heap.size + 1, 1, none⟩ = some (.int .i64 d2) := D6.out.ct.bt.cell 1; have p2 : v2.cell? ⟨w.heap.size + 1, 2, none⟩ = some (.int .i64 t2) := D6.out.ct.bt.cell 2; have p3 : v2.cell? ⟨w.heap.size + 1, 3, none⟩ = some (.slice st q kt) := D6.out.ct.bt.cell 3)
          | (go_at_call 23; refine (putTsk_any c2 d2 t2 (.slice st q kt) m _ D6.out.ct.env D6.out.secs LL.out.2).mono ?_; rintro e v3 ⟨r, rfl, hr, g3⟩; have rs := tsk_size hr; have D7 : Hid (Cop w co sy la mo sa na ka li c2 d2 t2 st q kt m v3) := D6.out.below g3; clear hr g3))
        all_goals (go_wp2_with fail; go_meet)
        all_goals exact ⟨_, p, r, rfl, rfl, rfl, by omega, by omega, Rn.made D7.out⟩
        -- ]A2
      case rest =>
        obtain ⟨g, p, r, rfl, rfl, rfl, ps, rs, hR⟩ := hcut
        have R0 : Hid (Rn w co sy la mo sa na ka li c2 d2 t2 st q kt m g p r wc) := hR
        clear hR D5 lw q0 q1 q2 q3 q4 p0 p1 p2 p3
        go_wp2_with fail
        go_loopg [41] 2 (fun gk i wr => ∃ k : Nat, k ≤ 2 ∧ gk + k = 2 ∧ i = .int .i64 k ∧ Rn w co sy la mo sa na ka li c2 d2 t2 st q kt m g p r wr)
        case atStart => exact ⟨0, by omega, by omega, rfl, R0.out⟩
        case round =>
          obtain ⟨k, hk, hgk, rfl, hR⟩ := hrel
          have R1 : Hid (Rn w co sy la mo sa na ka li c2 d2 t2 st q kt m g p r wr) := hR
          clear hR R0
          by_cases hlt : k < 2
          · obtain ⟨s, hs, hsp⟩ := R1.out.text hlt
            have ss : s.size ≤ 100 := by rcases hsp with rfl | rfl <;> assumption
            clear hsp
            by_cases e0 : s = ⟨#[]⟩
            · -- [B0
              subst e0
              go_wp2_with fail
              go_roundg (2 - (k + 1))
              case rel => exact ⟨k + 1, by omega, by omega, by go_num, R1.out⟩
              case measure => omega
              -- ]B0
            have NE : ¬ s.toList = [] := put_yes2 e0
            have NE2 : s.toList.isEmpty = false := by simpa using NE
            by_cases ha : a3 < 0
            · -- [B1
              go_wp2_with fail
              go_roundg (2 - (k + 1))
              case rel => exact ⟨k + 1, by omega, by omega, by go_num, R1.out⟩
              case measure => omega
              -- ]B1
            · -- [B2
              have hsz : 0 < s.size := by
                rcases Nat.eq_zero_or_pos s.size with h | h
                · exact absurd (ByteArray.size_eq_zero_iff.1 h) e0
                · exact h
              obtain ⟨kk, hkk⟩ : ∃ kk : Nat, a3 % (s.size : Int) = (kk : Int) := ⟨(a3 % (s.size : Int)).toNat, by have := Int.emod_nonneg a3 (b := (s.size : Int)) (by omega); omega⟩
              have k1 : kk < s.size := by have := Int.emod_lt_of_pos a3 (show 0 < (s.size : Int) by omega); omega
              have k2 : (kk : Int) < s.size := by omega
              have hcv := bt_conv
              go_upto_region 15 with fail
              clear hcv
              have B0 : Hid (Rn w co sy la mo sa na ka li c2 d2 t2 st q kt m g p r _ ∧ Bt _ wr.heap.size s.size _ ∧ Below wr.heap.size wr _) := Bt.born (s := s) R1.out (grownCap wr s.size 0 5)
              generalize hW : World.drew (World.alloc wr _) = W5 at B0 ⊢
              obtain ⟨gb, hG⟩ : ∃ gb, wr.heap.size = gb := ⟨_, rfl⟩
              have HG : Hid (wr.heap.size = gb) := hG
              rw [hG]
              have BT : Hid (Bt W5 gb s.size (s.data.toList.map (fun b => (b.toNat : Int)))) := by have := B0.out.2.1; rw [hG] at this; exact this
              generalize grownCap wr s.size 0 5 = cap
              clear hW hG hs
              obtain ⟨x0, hx0⟩ : ∃ x0 : Int, (s.data.toList.map (fun b => (b.toNat : Int))).getD kk 0 = x0 := ⟨_, rfl⟩
              have cb : W5.cell? ⟨gb, kk, none⟩ = some (.int .u8 x0) := by rw [← hx0]; exact BT.out.cell k1
              have fb : W5.frozen? ⟨gb, kk, none⟩ = false := BT.out.frozen k1
              have lb : gb < W5.heap.size := BT.out.lt
              clear hx0
              have BW : Hid (Below wr.heap.size wr W5) := B0.out.2.2
              go_wp2_with fail
              generalize bits BinOp.xor IntKind.u8 x0 a4 = xv
              have R2 : Hid (Rn w co sy la mo sa na ka li c2 d2 t2 st q kt m g p r (W5.setCell ⟨gb, kk, none⟩ (.int .u8 xv)) ∧ Bt (W5.setCell ⟨gb, kk, none⟩ (.int .u8 xv)) gb s.size ((s.data.toList.map (fun b => (b.toNat : Int))).set kk xv)) := Bt.turn R1.out HG.out BT.out BW.out k1 xv
              generalize (s.data.toList.map (fun b => (b.toNat : Int))).set kk xv = xs at R2
              generalize hZ : World.setCell _ _ _ = Z at R2 ⊢
              clear hZ cb fb lb BT BW B0 R1 HG
              obtain ⟨B, hB⟩ : ∃ B, strOfNums xs = B := ⟨_, rfl⟩
              have HT : Hid (strOfNums xs = B) := hB
              have Bs : B.size ≤ 100 := by rw [← hB, strOfNums_size, R2.out.2.len]; omega
              clear hB
              have es : (s.extract 0 kk).size ≤ 100 := by simp; omega
              have ay : (s ++ y).size ≤ 200 := by rw [ByteArray.size_append]; omega
              have ad : ¬ 9223372036854775807 < s.size + y.size := by omega
              have HE : Hid ((s.extract 0 kk).size ≤ 100 ∧ (s ++ y).size ≤ 200) := ⟨es, ay⟩
              clear es ay
              have e1 : ¬ s = ByteArray.empty := e0
              have k3 : kk ≤ s.size := by omega
              have htm : a3.tmod (s.size : Int) = (kk : Int) := by rw [Int.tmod_eq_emod_of_nonneg (by omega)]; exact hkk
              have q0 : Z.cell? ⟨w.heap.size, 0, none⟩ = some (.int .i64 co) := R2.out.1.cop.ct.bc.cell 0
              have q1 : Z.cell? ⟨w.heap.size, 1, none⟩ = some (.int .i64 sy) := R2.out.1.cop.ct.bc.cell 1
              have q2 : Z.cell? ⟨w.heap.size, 2, none⟩ = some (.int .i64 la) := R2.out.1.cop.ct.bc.cell 2
              have q3 : Z.cell? ⟨w.heap.size, 3, none⟩ = some (.int .i64 mo) := R2.out.1.cop.ct.bc.cell 3
              have q4 : Z.cell? ⟨w.heap.size, 4, none⟩ = some (.slice sa na ka) := R2.out.1.cop.ct.bc.cell 4
              have q5 := R2.out.2.drew.text cap
              rw [HT.out] at q5
              refine wp_region_noPanic (wp_region_held_drew (S := (fun w' => w'.cell? ⟨w.heap.size, 0, none⟩ = some (.int .i64 co) ∧ w'.cell? ⟨w.heap.size, 1, none⟩ = some (.int .i64 sy) ∧ w'.cell? ⟨w.heap.size, 2, none⟩ = some (.int .i64 la) ∧ w'.cell? ⟨w.heap.size, 3, none⟩ = some (.int .i64 mo) ∧ w'.cell? ⟨w.heap.size, 4, none⟩ = some (.slice sa na ka) ∧ (convert 53 9 (.slice (some ⟨gb, 0, none⟩) s.size cap)).run Tryz.prog w' = .ok (.string B) w')) (by kernel_rfl) ⟨q0, q1, q2, q3, q4, q5⟩ ?_)
              intro hS
              refine wpAnyH_take (i := 0) (v := ?va0) (nth_op rfl) (by kernel_rfl) (by kernel_rfl) (by kernel_rfl) (fun _ _ _ h => h) (Or.inl ⟨by rfl, ?ya0⟩) hS ?_
              case ya0 =>
                intro u hu
                try dsimp only at hu
                go_split_ands
                go_simp
                try with_reducible rfl
              simp only [Act.put, List.setIfInBounds_toArray, List.set_cons_zero, List.set_cons_succ]
              refine wpAnyH_take (i := 1) (v := ?va1) (nth_op rfl) (by kernel_rfl) (by kernel_rfl) (by kernel_rfl) (fun _ _ _ h => h) (Or.inl ⟨by rfl, ?ya1⟩) hS ?_
              case ya1 =>
                intro u hu
                try dsimp only at hu
                go_split_ands
                go_simp
                try with_reducible rfl
              simp only [Act.put, List.setIfInBounds_toArray, List.set_cons_zero, List.set_cons_succ]
              refine wpAnyH_take (i := 2) (v := ?va2) (nth_op rfl) (by kernel_rfl) (by kernel_rfl) (by kernel_rfl) (fun _ _ _ h => h) (Or.inl ⟨by rfl, ?ya2⟩) hS ?_
              case ya2 =>
                intro u hu
                try dsimp only at hu
                go_split_ands
                go_simp
                try with_reducible rfl
              simp only [Act.put, List.setIfInBounds_toArray, List.set_cons_zero, List.set_cons_succ]
              refine wpAnyH_ready (rs := [3]) (by kernel_rfl) (by simp) ?_
              refine AllReadyH.cons (nth_op rfl) (fun K hK => ?_) AllReadyH.nil
              go_simp
              refine Calls.mono (tells_any co sy la mo (.slice sa na ka) li _ _ ?sz1 R2.out.1.drew.cop.ct.env R2.out.1.drew.cop.ints HB.out) ?_
              case sz1 => exact by omega
              rintro e w7 ⟨rfl, g1⟩
              have R3 : Hid (Rn w co sy la mo sa na ka li c2 d2 t2 st q kt m g p r w7 ∧ Bt w7 gb s.size xs) := ⟨R2.out.1.drew.below g1, R2.out.2.drew.below g1⟩
              clear g1
              have r0 : w7.cell? ⟨w.heap.size, 0, none⟩ = some (.int .i64 co) := R3.out.1.cop.ct.bc.cell 0
              have r1 : w7.cell? ⟨w.heap.size, 1, none⟩ = some (.int .i64 sy) := R3.out.1.cop.ct.bc.cell 1
              have r2 : w7.cell? ⟨w.heap.size, 2, none⟩ = some (.int .i64 la) := R3.out.1.cop.ct.bc.cell 2
              have r3 : w7.cell? ⟨w.heap.size, 3, none⟩ = some (.int .i64 mo) := R3.out.1.cop.ct.bc.cell 3
              have r4 : w7.cell? ⟨w.heap.size, 4, none⟩ = some (.slice sa na ka) := R3.out.1.cop.ct.bc.cell 4
              have r5 := R3.out.2.text cap
              rw [HT.out] at r5
              clear hS
              first | refine hK.out _ _ ⟨r0, r1, r2, r3, r4, r5⟩ (fun hS => ?_) | (go_wp2_with fail; refine hK.out _ _ ⟨r0, r1, r2, r3, r4, r5⟩ (fun hS => ?_))
              clear hK K
              try simp only [Act.put, List.setIfInBounds_toArray, List.set_cons_zero, List.set_cons_succ]
              refine wpAnyH_take (i := 4) (v := ?va4) (nth_op rfl) (by kernel_rfl) (by kernel_rfl) (by kernel_rfl) (fun _ _ _ h => h) (Or.inl ⟨by rfl, ?ya4⟩) hS ?_
              case ya4 =>
                intro u hu
                try dsimp only at hu
                go_split_ands
                go_simp
                try with_reducible rfl
              simp only [Act.put, List.setIfInBounds_toArray, List.set_cons_zero, List.set_cons_succ]
              refine wpAnyH_take (i := 5) (v := ?va5) (nth_op rfl) (by kernel_rfl) (by kernel_rfl) (by kernel_rfl) (fun _ _ _ h => h) (Or.inl ⟨by rfl, ?ya5⟩) hS ?_
              case ya5 =>
                intro u hu
                try dsimp only at hu
                go_split_ands
                go_simp
                try with_reducible rfl
              simp only [Act.put, List.setIfInBounds_toArray, List.set_cons_zero, List.set_cons_succ]
              refine wpAnyH_take (i := 6) (v := ?va6) (nth_op rfl) (by kernel_rfl) (by kernel_rfl) (by kernel_rfl) (fun _ _ _ h => h) (Or.inl ⟨by rfl, ?ya6⟩) hS ?_
              case ya6 =>
                intro u hu
                try dsimp only at hu
                go_split_ands
                go_simp
                try with_reducible rfl
              simp only [Act.put, List.setIfInBounds_toArray, List.set_cons_zero, List.set_cons_succ]
              refine wpAnyH_take (i := 7) (v := ?va7) (nth_op rfl) (by kernel_rfl) (by kernel_rfl) (by kernel_rfl) (fun _ _ _ h => h) (Or.inl ⟨by rfl, ?ya7⟩) hS ?_
              case ya7 =>
                intro u hu
                try dsimp only at hu
                go_split_ands
                go_simp
                try with_reducible rfl
              simp only [Act.put, List.setIfInBounds_toArray, List.set_cons_zero, List.set_cons_succ]
              refine wpAnyH_take (i := 8) (v := ?va8) (nth_op rfl) (by kernel_rfl) (by kernel_rfl) (by kernel_rfl) (fun _ _ _ h => h) (Or.inl ⟨by rfl, ?ya8⟩) hS ?_
              case ya8 =>
                intro u hu
                try dsimp only at hu
                go_split_ands
                go_simp
                try with_reducible rfl
              simp only [Act.put, List.setIfInBounds_toArray, List.set_cons_zero, List.set_cons_succ]
              refine wpAnyH_take (i := 9) (v := ?va9) (nth_op rfl) (by kernel_rfl) (by kernel_rfl) (by kernel_rfl) (fun _ _ _ h => h) (Or.inl ⟨by rfl, ?ya9⟩) hS ?_
              case ya9 =>
                intro u hu
                try dsimp only at hu
                go_split_ands
                go_simp
                try with_reducible rfl
              simp only [Act.put, List.setIfInBounds_toArray, List.set_cons_zero, List.set_cons_succ]
              refine wpAnyH_take (i := 10) (v := ?va10) (nth_op rfl) (by kernel_rfl) (by kernel_rfl) (by kernel_rfl) (fun _ _ _ h => h) (Or.inl ⟨by rfl, ?ya10⟩) hS ?_
              case ya10 =>
                intro u hu
                try dsimp only at hu
                go_split_ands
                go_simp
                try with_reducible rfl
              simp only [Act.put, List.setIfInBounds_toArray, List.set_cons_zero, List.set_cons_succ]
              refine wpAnyH_take (i := 11) (v := ?va11) (nth_op rfl) (by kernel_rfl) (by kernel_rfl) (by kernel_rfl) (fun _ _ _ h => h) (Or.inl ⟨by rfl, ?ya11⟩) hS ?_
              case ya11 =>
                intro u hu
                try dsimp only at hu
                go_split_ands
                go_simp
                try with_reducible rfl
              simp only [Act.put, List.setIfInBounds_toArray, List.set_cons_zero, List.set_cons_succ]
              refine wpAnyH_take (i := 12) (v := ?va12) (nth_op rfl) (by kernel_rfl) (by kernel_rfl) (by kernel_rfl) (fun _ _ _ h => h) (Or.inl ⟨by rfl, ?ya12⟩) hS ?_
              case ya12 =>
                intro u hu
                try dsimp only at hu
                go_split_ands
                go_simp
                try with_reducible rfl
              simp only [Act.put, List.setIfInBounds_toArray, List.set_cons_zero, List.set_cons_succ]
              refine wpAnyH_ready (rs := [13]) (by kernel_rfl) (by simp) ?_
              refine AllReadyH.cons (nth_op rfl) (fun K hK => ?_) AllReadyH.nil
              go_simp
              refine Calls.mono (tells_any co sy la mo (.slice sa na ka) li _ _ ?sz2 R3.out.1.cop.ct.env R3.out.1.cop.ints HB.out) ?_
              case sz2 => exact by have := HE.out.1; omega
              rintro e w8 ⟨rfl, g2⟩
              have R4 : Hid (Rn w co sy la mo sa na ka li c2 d2 t2 st q kt m g p r w8 ∧ Bt w8 gb s.size xs) := ⟨R3.out.1.below g2, R3.out.2.below g2⟩
              clear g2
              have v0 : w8.cell? ⟨w.heap.size, 0, none⟩ = some (.int .i64 co) := R4.out.1.cop.ct.bc.cell 0
              have v1 : w8.cell? ⟨w.heap.size, 1, none⟩ = some (.int .i64 sy) := R4.out.1.cop.ct.bc.cell 1
              have v2 : w8.cell? ⟨w.heap.size, 2, none⟩ = some (.int .i64 la) := R4.out.1.cop.ct.bc.cell 2
              have v3 : w8.cell? ⟨w.heap.size, 3, none⟩ = some (.int .i64 mo) := R4.out.1.cop.ct.bc.cell 3
              have v4 : w8.cell? ⟨w.heap.size, 4, none⟩ = some (.slice sa na ka) := R4.out.1.cop.ct.bc.cell 4
              have v5 := R4.out.2.text cap
              rw [HT.out] at v5
              clear hS
              first | refine hK.out _ _ ⟨v0, v1, v2, v3, v4, v5⟩ (fun hS => ?_) | (go_wp2_with fail; refine hK.out _ _ ⟨v0, v1, v2, v3, v4, v5⟩ (fun hS => ?_))
              clear hK K
              try simp only [Act.put, List.setIfInBounds_toArray, List.set_cons_zero, List.set_cons_succ]
              refine wpAnyH_take (i := 14) (v := ?va14) (nth_op rfl) (by kernel_rfl) (by kernel_rfl) (by kernel_rfl) (fun _ _ _ h => h) (Or.inl ⟨by rfl, ?ya14⟩) hS ?_
              case ya14 =>
                intro u hu
                try dsimp only at hu
                go_split_ands
                go_simp
                try with_reducible rfl
              simp only [Act.put, List.setIfInBounds_toArray, List.set_cons_zero, List.set_cons_succ]
              refine wpAnyH_take (i := 15) (v := ?va15) (nth_op rfl) (by kernel_rfl) (by kernel_rfl) (by kernel_rfl) (fun _ _ _ h => h) (Or.inl ⟨by rfl, ?ya15⟩) hS ?_
              case ya15 =>
                intro u hu
                try dsimp only at hu
                go_split_ands
                go_simp
                try with_reducible rfl
              simp only [Act.put, List.setIfInBounds_toArray, List.set_cons_zero, List.set_cons_succ]
              refine wpAnyH_take (i := 16) (v := ?va16) (nth_op rfl) (by kernel_rfl) (by kernel_rfl) (by kernel_rfl) (fun _ _ _ h => h) (Or.inl ⟨by rfl, ?ya16⟩) hS ?_
              case ya16 =>
                intro u hu
                try dsimp only at hu
                go_split_ands
                go_simp
                try with_reducible rfl
              simp only [Act.put, List.setIfInBounds_toArray, List.set_cons_zero, List.set_cons_succ]
              refine wpAnyH_take (i := 17) (v := ?va17) (nth_op rfl) (by kernel_rfl) (by kernel_rfl) (by kernel_rfl) (fun _ _ _ h => h) (Or.inl ⟨by rfl, ?ya17⟩) hS ?_
              case ya17 =>
                intro u hu
                try dsimp only at hu
                go_split_ands
                go_simp
                try with_reducible rfl
              simp only [Act.put, List.setIfInBounds_toArray, List.set_cons_zero, List.set_cons_succ]
              refine wpAnyH_take (i := 18) (v := ?va18) (nth_op rfl) (by kernel_rfl) (by kernel_rfl) (by kernel_rfl) (fun _ _ _ h => h) (Or.inl ⟨by rfl, ?ya18⟩) hS ?_
              case ya18 =>
                intro u hu
                try dsimp only at hu
                go_split_ands
                go_simp
                try with_reducible rfl
              simp only [Act.put, List.setIfInBounds_toArray, List.set_cons_zero, List.set_cons_succ]
              refine wpAnyH_take (i := 19) (v := ?va19) (nth_op rfl) (by kernel_rfl) (by kernel_rfl) (by kernel_rfl) (fun _ _ _ h => h) (Or.inl ⟨by rfl, ?ya19⟩) hS ?_
              case ya19 =>
                intro u hu
                try dsimp only at hu
                go_split_ands
                go_simp
                try with_reducible rfl
              simp only [Act.put, List.setIfInBounds_toArray, List.set_cons_zero, List.set_cons_succ]
              refine wpAnyH_take (i := 20) (v := ?va20) (nth_op rfl) (by kernel_rfl) (by kernel_rfl) (by kernel_rfl) (fun _ _ _ h => h) (Or.inl ⟨by rfl, ?ya20⟩) hS ?_
              case ya20 =>
                intro u hu
                try dsimp only at hu
                go_split_ands
                go_simp
                try with_reducible rfl
              simp only [Act.put, List.setIfInBounds_toArray, List.set_cons_zero, List.set_cons_succ]
              refine wpAnyH_ready (rs := [21]) (by kernel_rfl) (by simp) ?_
              refine AllReadyH.cons (nth_op rfl) (fun K hK => ?_) AllReadyH.nil
              go_simp
              refine Calls.mono (tells_any co sy la mo (.slice sa na ka) li _ _ ?sz3 R4.out.1.cop.ct.env R4.out.1.cop.ints HB.out) ?_
              case sz3 => exact by have := HE.out.2; omega
              rintro e w9 ⟨rfl, g3⟩
              have R5 : Hid (Rn w co sy la mo sa na ka li c2 d2 t2 st q kt m g p r w9 ∧ Bt w9 gb s.size xs) := ⟨R4.out.1.below g3, R4.out.2.below g3⟩
              clear g3
              have vv0 : w9.cell? ⟨w.heap.size, 0, none⟩ = some (.int .i64 co) := R5.out.1.cop.ct.bc.cell 0
              have vv1 : w9.cell? ⟨w.heap.size, 1, none⟩ = some (.int .i64 sy) := R5.out.1.cop.ct.bc.cell 1
              have vv2 : w9.cell? ⟨w.heap.size, 2, none⟩ = some (.int .i64 la) := R5.out.1.cop.ct.bc.cell 2
              have vv3 : w9.cell? ⟨w.heap.size, 3, none⟩ = some (.int .i64 mo) := R5.out.1.cop.ct.bc.cell 3
              have vv4 : w9.cell? ⟨w.heap.size, 4, none⟩ = some (.slice sa na ka) := R5.out.1.cop.ct.bc.cell 4
              have vv5 := R5.out.2.text cap
              rw [HT.out] at vv5
              clear hS
              first | refine hK.out _ _ ⟨vv0, vv1, vv2, vv3, vv4, vv5⟩ (fun hS => ?_) | (go_wp2_with fail; refine hK.out _ _ ⟨vv0, vv1, vv2, vv3, vv4, vv5⟩ (fun hS => ?_))
              clear hK K
              try simp only [Act.put, List.setIfInBounds_toArray, List.set_cons_zero, List.set_cons_succ]
              refine wpAnyH_take (i := 22) (v := ?va22) (nth_op rfl) (by kernel_rfl) (by kernel_rfl) (by kernel_rfl) (fun _ _ _ h => h) (Or.inl ⟨by rfl, ?ya22⟩) hS ?_
              case ya22 =>
                intro u hu
                try dsimp only at hu
                go_split_ands
                go_simp
                try with_reducible rfl
              simp only [Act.put, List.setIfInBounds_toArray, List.set_cons_zero, List.set_cons_succ]
              refine wpAnyH_take (i := 23) (v := ?va23) (nth_op rfl) (by kernel_rfl) (by kernel_rfl) (by kernel_rfl) (fun _ _ _ h => h) (Or.inl ⟨by rfl, ?ya23⟩) hS ?_
              case ya23 =>
                intro u hu
                try dsimp only at hu
                go_split_ands
                go_simp
                try with_reducible rfl
              simp only [Act.put, List.setIfInBounds_toArray, List.set_cons_zero, List.set_cons_succ]
              refine wpAnyH_done (by kernel_rfl) (NoPanic.normal ?_) _
              have RR : Hid (Rn w co sy la mo sa na ka li c2 d2 t2 st q kt m g p r w9) := R5.out.1
              go_wp2_with fail
              go_roundg (2 - (k + 1))
              case rel => exact ⟨k + 1, by omega, by omega, by go_num, RR.out⟩
              case measure => omega
              -- ]B2
          · -- [B3
            obtain rfl : k = 2 := by omega
            go_wp2_with fail
            go_ret
            exact ⟨ret_bool (by rfl), R1.out.cop.ct.bel⟩
            -- ]B3

set_option maxRecDepth 100000 in
theorem lifted (os : Os) (started : os.Started) (H : Type) (enc : TypeId × Value → H) :
    ReturnsInHanded {} Tryz.checked os 5 .any (fun w args => (Rows.noteAnySpec.pre enc Tryz.prog Tryz.f5 [] false w args ∧ laidMetH Tryz.prog laid5 w) ∧ sizedMet enc Tryz.prog Tryz.f5 (OpenSpec.ofChange Rows.noteAnySpec) false w args)
      (Rows.noteAnySpec.post enc Tryz.prog Tryz.f5 false true false false) := by
  refine returnsInHanded_of_change_and (C := Tryz.checked) (X := fun w _ => laidMetH Tryz.prog laid5 w) (fun _ _ _ hh h => h.of_heap hh) own started (by kernel_rfl) Tryz.func5
    (ChangeSpec.witness_shaped (enc := enc) (C := Tryz.checked) (os := os) (X := fun w _ => laidMetH Tryz.prog laid5 w) false (World.doorLaid Tryz.prog 62 os) #[.string ⟨#[]⟩, .agg #[.int .i64 0, .int .i64 0, .int .i64 0, .int .i64 0, .slice none 0 0], .agg #[.int .i64 0, .int .i64 0, .int .i64 0, .slice none 0 0], .int .i64 0, .int .u8 0] 8 rfl (World.shaped_of_RefB (by kernel_rfl) (by kernel_rfl)) (by kernel_rfl) (by kernel_rfl) (by kernel_rfl) (door_met os _)) ?_
  intro W base args ds gs before hval0 hW _ _ hL _
  have hval : ∀ (j : Nat) t v, Tryz.f5.params[j]? = some t → args[j]? = some v → Value.okWide Tryz.prog W .any base t v := hval0
  have hW' := hW
  obtain ⟨p, q, hA0, hV, rfl, hfz, hnd⟩ := hW
  have hA : DataW.TrodAll enc Tryz.prog W 0 (fun _ => true) true Tryz.f5.params.toList args.toList ds p := hA0
  rw [Tryz.params5] at hA hval
  obtain ⟨v0, vs0, d0, ds0, p0, q0, hargs, rfl, rfl, h0, r0⟩ := trodAll_cons hA
  obtain ⟨v1, vs1, d1, ds1, p1, q1, rfl, rfl, rfl, h1, r1⟩ := trodAll_cons r0
  obtain ⟨v2, vs2, d2, ds2, p2, q2, rfl, rfl, rfl, h2, r2⟩ := trodAll_cons r1
  obtain ⟨v3, vs3, d3, ds3, p3, q3, rfl, rfl, rfl, h3, r3⟩ := trodAll_cons r2
  obtain ⟨v4, vs4, d4, ds4, p4, q4, rfl, rfl, rfl, h4, r4⟩ := trodAll_cons r3
  obtain ⟨rfl, rfl, rfl⟩ := trodAll_nil r4
  obtain rfl : args = #[v0, v1, v2, v3, v4] := by cases args; simp_all
  obtain ⟨rfl, rfl⟩ := trodVars_none hV
  obtain ⟨y0, rfl, rfl, rfl, w0⟩ := open_string Tryz.underlying9 (hval 0 9 v0 rfl rfl) h0
  have k1 := h1
  have lt1 : ∀ x ∈ p1, x.block < W.heap.size := by obtain ⟨m, hm⟩ := k1; exact DataW.trod_lt m _ _ _ hm
  obtain ⟨co1, sy1, la1, mo1, s1, n1, m1, z1, rfl, w1, x10, x11, x12, x13⟩ := open_config (hval 1 24 v1 rfl rfl) h1
  have k2 := h2
  have lt2 : ∀ x ∈ p2, x.block < W.heap.size := by obtain ⟨m, hm⟩ := k2; exact DataW.trod_lt m _ _ _ hm
  obtain ⟨c2, d2, t2, s2, n2, m2, z2, rfl, w2, x20, x21, x22⟩ := open_task (hval 2 27 v2 rfl rfl) h2
  obtain ⟨a3, rfl, rfl, rfl, w3⟩ := open_int Tryz.underlying3 (hval 3 3 v3 rfl rfl) h3
  obtain ⟨a4, rfl, rfl, rfl, w4⟩ := open_int Tryz.underlying5 (hval 4 5 v4 rfl rfl) h4
  clear hA0 hval0
  simp only [List.append_nil] at hW'
  refine (walk y0 co1 sy1 la1 mo1 s1 n1 m1 z1 c2 d2 t2 s2 n2 m2 z2 a3 a4 W (env_of_laid hL) w0 w1 x10 x11 x12 x13 w2 x20 x21 x22 w3 w4).mono fun e W' ⟨he, bel⟩ => ?_
  subst he
  exact ⟨_, rfl, _, _, _, [], _, [], hW', trodAll_mk1 (shut_bool Tryz.underlying4 _), (trodAll_cons_mk (shut_string Tryz.underlying9 w0) (trodAll_cons_mk (Below.trod laidOut (by kernel_rfl) (of_decide_eq_true (by kernel_rfl)) k1 bel lt1) (trodAll_cons_mk (Below.trod laidOut (by kernel_rfl) (of_decide_eq_true (by kernel_rfl)) k2 bel lt2) (trodAll_cons_mk (shut_int Tryz.underlying3 w3) (trodAll_cons_mk (shut_int Tryz.underlying5 w4) trodAll_mk0))))), rfl, bel.frame _, fun h => by cases h⟩

theorem over : Rows.noteAnyRow.holds Tryz.pinned (OpenSpec.ofChange Rows.noteAnySpec) :=
  OpenClaim.holds_of_wide 5 Tryz.f5 rfl rfl rfl rfl rfl rfl rfl ⟨rfl, rfl, rfl, rfl, rfl⟩ rfl rfl rfl rfl rfl (by kernel_rfl) Tryz.func5 (by kernel_rfl)
    (of_decide_eq_true (by kernel_rfl)) (by unfold Func.isWrapper; first | (rw [if_pos (by decide +kernel)]; kernel_rfl) | (rw [if_neg (by decide +kernel)]; exact ⟨rfl, rfl⟩))
    (fun os started H enc _ => lifted os started H enc)

theorem proved : Rows.NoteAnyCardSaid :=
  Claim7.holds_tied_plain_at .later [] [.data, .data, .data, .sentinel, .sentinel] true (true, "37abfd0d7052d27f0f6d9d400e10e68c1c6c8f4ab53814c658e974c9b51592ad") true
    over (fun _ h => by cases h) (by kernel_rfl) (fun _ h => by cases h) noteAny_row_tie rfl ⟨rfl, rfl⟩ (by kernel_rfl) rfl
    (fun f fn hf hfn => by
      obtain rfl : f = 5 := Option.some.inj ((show Tryz.prog.funcNamed "hortator/hortatorlaw7.NoteAny" = some 5 by kernel_rfl).symm.trans hf) |>.symm
      obtain rfl : fn = Tryz.f5 := (Option.some.inj (Tryz.func5.symm.trans hfn)).symm
      exact ⟨by kernel_rfl, fun j t ht => by
        rw [Tryz.params5] at ht
        match j, ht with
        | 0, ht => obtain rfl : t = 9 := by simpa using ht.symm
                   exact (show Tryz.prog.wantsStandIn 9 = false by kernel_rfl)
        | 1, ht => obtain rfl : t = 24 := by simpa using ht.symm
                   exact (show Tryz.prog.wantsStandIn 24 = false by kernel_rfl)
        | 2, ht => obtain rfl : t = 27 := by simpa using ht.symm
                   exact (show Tryz.prog.wantsStandIn 27 = false by kernel_rfl)
        | 3, ht => obtain rfl : t = 3 := by simpa using ht.symm
                   exact (show Tryz.prog.wantsStandIn 3 = false by kernel_rfl)
        | 4, ht => obtain rfl : t = 5 := by simpa using ht.symm
                   exact (show Tryz.prog.wantsStandIn 5 = false by kernel_rfl)
        | (_ + 5), ht => simp at ht⟩)
    (by kernel_rfl)
end Go.Proofs.YtfhhpmnohbmnoaaGreatDoor.noteAny
