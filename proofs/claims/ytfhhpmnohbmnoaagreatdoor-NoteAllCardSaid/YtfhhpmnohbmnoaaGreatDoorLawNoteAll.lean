/-
PROVED: the statement hortatorlaw7.NoteAll answers true over the landed packages: configurations and tasks go to text and back; unlike ones have unlike texts.
  CONDITIONS: the listed variables of strconv and math/bits hold what the program's text lays (the card ties them).
-/
import Derived.Test.YtfhhpmnohbmnoaaGreatDoorRows
import Derived.Test.YtfhhpmnohbmnoaaGreatDoorTie
import Derived.Test.YtfhhpmnohbmnoaaGreatDoorCards
import Derived.WalkKit
import Derived.ProofKit
import Derived.OpenShut
import Derived.ShutString
import Derived.ChangeOld
import Derived.Below
import Derived.SevenTiedAt
import Derived.Test.YtfhhpmnohbmnoaaGreatDoorLaid
import Derived.Carry
import Derived.Deep.Cut
import Derived.Deep.CutRange
import Derived.Deep.RegionWith
import Derived.Deep.RegionHeld3
import Derived.Deep.LoopGhost
import Derived.Deep.QuietTactic
import Derived.BigQuiet
import Derived.Test.YtfhhpmnohbmnoaaGreatDoorFour
import Derived.Test.YtfhhpmnohbmnoaaGreatDoorRunsZ
import Derived.Test.YtfhhpmnohbmnoaaGreatDoorTells
import Derived.Test.YtfhhpmnohbmnoaaGreatDoorArgs
import Derived.Test.YtfhhpmnohbmnoaaGreatDoorNA
namespace Go.Proofs.YtfhhpmnohbmnoaaGreatDoor.noteAll
open Go.ChangeShapes Go.WideShapes Go.ChangeAt Go.RowKit
open Go.ChangeMaps (open_string shut_string)
set_option linter.unusedVariables false

theorem own : ownKnob Tryz.prog.godebug = none := by kernel_rfl
theorem laidOut : laidOutB Tryz.prog = true := by kernel_rfl

set_option maxHeartbeats 8000000 in
set_option maxRecDepth 100000 in
theorem walk (co0 sy0 la0 mo0 : Int) (s0 : Option Addr) (n0 m0 : Nat) (z0 : List Int) (co1 sy1 la1 mo1 : Int) (s1 : Option Addr) (n1 m1 : Nat) (z1 : List Int) (c2 d2 t2 : Int) (s2 : Option Addr) (n2 m2 : Nat) (z2 : List Sec) (c3 d3 t3 : Int) (s3 : Option Addr) (n3 m3 : Nat) (z3 : List Sec) (w : World) (hE : Env w) (w0 : AInts w s0 n0 m0 z0) (x00 : (Lit.int .i64 co0).wf = true) (x01 : (Lit.int .i64 sy0).wf = true) (x02 : (Lit.int .i64 la0).wf = true) (x03 : (Lit.int .i64 mo0).wf = true) (w1 : AInts w s1 n1 m1 z1) (x10 : (Lit.int .i64 co1).wf = true) (x11 : (Lit.int .i64 sy1).wf = true) (x12 : (Lit.int .i64 la1).wf = true) (x13 : (Lit.int .i64 mo1).wf = true) (w2 : ASecs w s2 n2 m2 z2) (x20 : (Lit.int .i64 c2).wf = true) (x21 : (Lit.int .i64 d2).wf = true) (x22 : (Lit.int .i64 t2).wf = true) (w3 : ASecs w s3 n3 m3 z3) (x30 : (Lit.int .i64 c3).wf = true) (x31 : (Lit.int .i64 d3).wf = true) (x32 : (Lit.int .i64 t3).wf = true) :
    Calls Tryz.prog 4 #[.agg #[.int .i64 co0, .int .i64 sy0, .int .i64 la0, .int .i64 mo0, .slice s0 n0 m0], .agg #[.int .i64 co1, .int .i64 sy1, .int .i64 la1, .int .i64 mo1, .slice s1 n1 m1], .agg #[.int .i64 c2, .int .i64 d2, .int .i64 t2, .slice s2 n2 m2], .agg #[.int .i64 c3, .int .i64 d3, .int .i64 t3, .slice s3 n3 m3]] w fun e w' => e = .returned (.bool true) ∧ Below w.heap.size w w' := by
  have E0 : Hid (R4 w #[.int .i64 co0, .int .i64 sy0, .int .i64 la0, .int .i64 mo0, .slice s0 n0 m0] #[.int .i64 co1, .int .i64 sy1, .int .i64 la1, .int .i64 mo1, .slice s1 n1 m1] #[.int .i64 c2, .int .i64 d2, .int .i64 t2, .slice s2 n2 m2] #[.int .i64 c3, .int .i64 d3, .int .i64 t3, .slice s3 n3 m3] ((((w.alloc (.cells #[.int .i64 co0, .int .i64 sy0, .int .i64 la0, .int .i64 mo0, .slice s0 n0 m0] 24)).alloc (.cells #[.int .i64 co1, .int .i64 sy1, .int .i64 la1, .int .i64 mo1, .slice s1 n1 m1] 24)).alloc (.cells #[.int .i64 c2, .int .i64 d2, .int .i64 t2, .slice s2 n2 m2] 27)).alloc (.cells #[.int .i64 c3, .int .i64 d3, .int .i64 t3, .slice s3 n3 m3] 27))) := R4.start hE _ _ _ _
  have AC : Hid (AInts w s0 n0 m0 z0) := w0
  have AD : Hid (AInts w s1 n1 m1 z1) := w1
  have AT : Hid (ASecs w s2 n2 m2 z2) := w2
  have AU : Hid (ASecs w s3 n3 m3 z3) := w3
  obtain ⟨l, e1⟩ : ∃ l, z0.take 8 = l := ⟨_, rfl⟩
  obtain ⟨n, e2⟩ : ∃ n, l.length = n := ⟨_, rfl⟩
  have HLb : n ≤ 8 := by rw [← e2, ← e1, List.length_take]; omega
  have HL : Hid (z0.take 8 = l ∧ l.length = n) := ⟨e1, e2⟩
  clear e1 e2
  obtain ⟨l', e1⟩ : ∃ l, z1.take 8 = l := ⟨_, rfl⟩
  obtain ⟨n', e2⟩ : ∃ n, l'.length = n := ⟨_, rfl⟩
  have HDb : n' ≤ 8 := by rw [← e2, ← e1, List.length_take]; omega
  have HD : Hid (z1.take 8 = l' ∧ l'.length = n') := ⟨e1, e2⟩
  clear e1 e2
  obtain ⟨m, e1⟩ : ∃ l, z2.take 4 = l := ⟨_, rfl⟩
  obtain ⟨q, e2⟩ : ∃ n, m.length = n := ⟨_, rfl⟩
  have HMb : q ≤ 4 := by rw [← e2, ← e1, List.length_take]; omega
  have HM : Hid (z2.take 4 = m ∧ m.length = q) := ⟨e1, e2⟩
  clear e1 e2
  obtain ⟨m', e1⟩ : ∃ l, z3.take 4 = l := ⟨_, rfl⟩
  obtain ⟨q', e2⟩ : ∃ n, m'.length = n := ⟨_, rfl⟩
  have HUb : q' ≤ 4 := by rw [← e2, ← e1, List.length_take]; omega
  have HU : Hid (z3.take 4 = m' ∧ m'.length = q') := ⟨e1, e2⟩
  clear e1 e2
  clear hE w0 w1 w2 w3
  go_enter Tryz.func4, Tryz.ntmps4
  go_wp2_with fail
  refine (begun7_any _ E0.out.env).mono ?_
  rintro e v1 ⟨rfl, g1⟩
  have E1 : Hid (R4 w #[.int .i64 co0, .int .i64 sy0, .int .i64 la0, .int .i64 mo0, .slice s0 n0 m0] #[.int .i64 co1, .int .i64 sy1, .int .i64 la1, .int .i64 mo1, .slice s1 n1 m1] #[.int .i64 c2, .int .i64 d2, .int .i64 t2, .slice s2 n2 m2] #[.int .i64 c3, .int .i64 d3, .int .i64 t3, .slice s3 n3 m3] v1) := E0.out.below g1
  clear g1 E0
  go_upto_region 4 with fail
  go_cut [] from 21 to 28 (fun wx => ∃ sc kc sd kd st kt su ku, Cop4 w co0 sy0 la0 mo0 sc n kc l co1 sy1 la1 mo1 sd n' kd l' c2 d2 t2 st q kt m c3 d3 t3 su q' ku m' wx)
  case first =>
    -- [Z0
    have qx0 : v1.cell? ⟨w.heap.size, 0, none⟩ = some (.int .i64 co0) := E1.out.bc.cell 0
    have qx1 : v1.cell? ⟨w.heap.size, 1, none⟩ = some (.int .i64 sy0) := E1.out.bc.cell 1
    have qx2 : v1.cell? ⟨w.heap.size, 2, none⟩ = some (.int .i64 la0) := E1.out.bc.cell 2
    have qx3 : v1.cell? ⟨w.heap.size, 3, none⟩ = some (.int .i64 mo0) := E1.out.bc.cell 3
    have qx4 : v1.cell? ⟨w.heap.size, 4, none⟩ = some (.slice s0 n0 m0) := E1.out.bc.cell 4
    have px0 : v1.cell? ⟨w.heap.size + 1, 0, none⟩ = some (.int .i64 co1) := E1.out.bd.cell 0
    have px1 : v1.cell? ⟨w.heap.size + 1, 1, none⟩ = some (.int .i64 sy1) := E1.out.bd.cell 1
    have px2 : v1.cell? ⟨w.heap.size + 1, 2, none⟩ = some (.int .i64 la1) := E1.out.bd.cell 2
    have px3 : v1.cell? ⟨w.heap.size + 1, 3, none⟩ = some (.int .i64 mo1) := E1.out.bd.cell 3
    have px4 : v1.cell? ⟨w.heap.size + 1, 4, none⟩ = some (.slice s1 n1 m1) := E1.out.bd.cell 4
    have rx0 : v1.cell? ⟨w.heap.size + 2, 0, none⟩ = some (.int .i64 c2) := E1.out.bt.cell 0
    have rx1 : v1.cell? ⟨w.heap.size + 2, 1, none⟩ = some (.int .i64 d2) := E1.out.bt.cell 1
    have rx2 : v1.cell? ⟨w.heap.size + 2, 2, none⟩ = some (.int .i64 t2) := E1.out.bt.cell 2
    have rx3 : v1.cell? ⟨w.heap.size + 2, 3, none⟩ = some (.slice s2 n2 m2) := E1.out.bt.cell 3
    have sx0 : v1.cell? ⟨w.heap.size + 3, 0, none⟩ = some (.int .i64 c3) := E1.out.bu.cell 0
    have sx1 : v1.cell? ⟨w.heap.size + 3, 1, none⟩ = some (.int .i64 d3) := E1.out.bu.cell 1
    have sx2 : v1.cell? ⟨w.heap.size + 3, 2, none⟩ = some (.int .i64 t3) := E1.out.bu.cell 2
    have sx3 : v1.cell? ⟨w.heap.size + 3, 3, none⟩ = some (.slice s3 n3 m3) := E1.out.bu.cell 3
    refine wp_region_noPanic (wp_region_runsZ (S := (fun w' => w'.cell? ⟨w.heap.size, 0, none⟩ = some (.int .i64 co0) ∧ w'.cell? ⟨w.heap.size, 1, none⟩ = some (.int .i64 sy0) ∧ w'.cell? ⟨w.heap.size, 2, none⟩ = some (.int .i64 la0) ∧ w'.cell? ⟨w.heap.size, 3, none⟩ = some (.int .i64 mo0) ∧ w'.cell? ⟨w.heap.size, 4, none⟩ = some (.slice s0 n0 m0) ∧ w'.cell? ⟨w.heap.size + 1, 0, none⟩ = some (.int .i64 co1) ∧ w'.cell? ⟨w.heap.size + 1, 1, none⟩ = some (.int .i64 sy1) ∧ w'.cell? ⟨w.heap.size + 1, 2, none⟩ = some (.int .i64 la1) ∧ w'.cell? ⟨w.heap.size + 1, 3, none⟩ = some (.int .i64 mo1) ∧ w'.cell? ⟨w.heap.size + 1, 4, none⟩ = some (.slice s1 n1 m1) ∧ w'.cell? ⟨w.heap.size + 2, 0, none⟩ = some (.int .i64 c2) ∧ w'.cell? ⟨w.heap.size + 2, 1, none⟩ = some (.int .i64 d2) ∧ w'.cell? ⟨w.heap.size + 2, 2, none⟩ = some (.int .i64 t2) ∧ w'.cell? ⟨w.heap.size + 2, 3, none⟩ = some (.slice s2 n2 m2) ∧ w'.cell? ⟨w.heap.size + 3, 0, none⟩ = some (.int .i64 c3) ∧ w'.cell? ⟨w.heap.size + 3, 1, none⟩ = some (.int .i64 d3) ∧ w'.cell? ⟨w.heap.size + 3, 2, none⟩ = some (.int .i64 t3) ∧ w'.cell? ⟨w.heap.size + 3, 3, none⟩ = some (.slice s3 n3 m3))) (Z := [8, 9, 10, 11]) (by kernel_rfl) ?_)
    have hS : (fun w' => w'.cell? ⟨w.heap.size, 0, none⟩ = some (.int .i64 co0) ∧ w'.cell? ⟨w.heap.size, 1, none⟩ = some (.int .i64 sy0) ∧ w'.cell? ⟨w.heap.size, 2, none⟩ = some (.int .i64 la0) ∧ w'.cell? ⟨w.heap.size, 3, none⟩ = some (.int .i64 mo0) ∧ w'.cell? ⟨w.heap.size, 4, none⟩ = some (.slice s0 n0 m0) ∧ w'.cell? ⟨w.heap.size + 1, 0, none⟩ = some (.int .i64 co1) ∧ w'.cell? ⟨w.heap.size + 1, 1, none⟩ = some (.int .i64 sy1) ∧ w'.cell? ⟨w.heap.size + 1, 2, none⟩ = some (.int .i64 la1) ∧ w'.cell? ⟨w.heap.size + 1, 3, none⟩ = some (.int .i64 mo1) ∧ w'.cell? ⟨w.heap.size + 1, 4, none⟩ = some (.slice s1 n1 m1) ∧ w'.cell? ⟨w.heap.size + 2, 0, none⟩ = some (.int .i64 c2) ∧ w'.cell? ⟨w.heap.size + 2, 1, none⟩ = some (.int .i64 d2) ∧ w'.cell? ⟨w.heap.size + 2, 2, none⟩ = some (.int .i64 t2) ∧ w'.cell? ⟨w.heap.size + 2, 3, none⟩ = some (.slice s2 n2 m2) ∧ w'.cell? ⟨w.heap.size + 3, 0, none⟩ = some (.int .i64 c3) ∧ w'.cell? ⟨w.heap.size + 3, 1, none⟩ = some (.int .i64 d3) ∧ w'.cell? ⟨w.heap.size + 3, 2, none⟩ = some (.int .i64 t3) ∧ w'.cell? ⟨w.heap.size + 3, 3, none⟩ = some (.slice s3 n3 m3)) v1.drew := ⟨qx0, qx1, qx2, qx3, qx4, px0, px1, px2, px3, px4, rx0, rx1, rx2, rx3, sx0, sx1, sx2, sx3⟩
    refine RunsZ.take 12 (i := 0) (v := ?v0) (nth_op rfl) (by kernel_rfl) (by kernel_rfl) (by kernel_rfl) (by kernel_rfl) (by kernel_rfl) (fun _ _ _ h => h) (Or.inl ⟨by rfl, ?y0⟩) hS ?_
    case y0 =>
      intro u hu
      try dsimp only at hu
      go_split_ands
      go_simp
      try with_reducible rfl
    simp only [Act.put, List.setIfInBounds_toArray, List.set_cons_zero, List.set_cons_succ]
    refine RunsZ.take 12 (i := 2) (v := ?v2) (nth_op rfl) (by kernel_rfl) (by kernel_rfl) (by kernel_rfl) (by kernel_rfl) (by kernel_rfl) (fun _ _ _ h => h) (Or.inl ⟨by rfl, ?y2⟩) hS ?_
    case y2 =>
      intro u hu
      try dsimp only at hu
      go_split_ands
      go_simp
      try with_reducible rfl
    simp only [Act.put, List.setIfInBounds_toArray, List.set_cons_zero, List.set_cons_succ]
    refine RunsZ.take 12 (i := 4) (v := ?v4) (nth_op rfl) (by kernel_rfl) (by kernel_rfl) (by kernel_rfl) (by kernel_rfl) (by kernel_rfl) (fun _ _ _ h => h) (Or.inl ⟨by rfl, ?y4⟩) hS ?_
    case y4 =>
      intro u hu
      try dsimp only at hu
      go_split_ands
      go_simp
      try with_reducible rfl
    simp only [Act.put, List.setIfInBounds_toArray, List.set_cons_zero, List.set_cons_succ]
    refine RunsZ.take 12 (i := 6) (v := ?v6) (nth_op rfl) (by kernel_rfl) (by kernel_rfl) (by kernel_rfl) (by kernel_rfl) (by kernel_rfl) (fun _ _ _ h => h) (Or.inl ⟨by rfl, ?y6⟩) hS ?_
    case y6 =>
      intro u hu
      try dsimp only at hu
      go_split_ands
      go_simp
      try with_reducible rfl
    simp only [Act.put, List.setIfInBounds_toArray, List.set_cons_zero, List.set_cons_succ]
    refine RunsZ.one (i := 1) (by kernel_rfl) (nth_op rfl) (by rfl) (fun K hK => ?_)
    go_simp
    refine (lconfig_at co0 sy0 la0 mo0 s0 n0 m0 z0 l n HL.out.1 HL.out.2 _ (AC.out.below E1.out.drew.bel)).mono ?_
    rintro e v2 ⟨sc, kc, rfl, own, g⟩
    have O2 : Hid (v2.ownsRow v1.drew.heap.size 3 1 (.slice sc n kc) n (l.map mkI) ∧ Below v1.drew.heap.size v1.drew v2) := ⟨own, g⟩
    have F2 : Hid (R4 w #[.int .i64 co0, .int .i64 sy0, .int .i64 la0, .int .i64 mo0, .slice s0 n0 m0] #[.int .i64 co1, .int .i64 sy1, .int .i64 la1, .int .i64 mo1, .slice s1 n1 m1] #[.int .i64 c2, .int .i64 d2, .int .i64 t2, .slice s2 n2 m2] #[.int .i64 c3, .int .i64 d3, .int .i64 t3, .slice s3 n3 m3] v2) := E1.out.drew.below g
    clear own g hS
    have aqx0 : v2.cell? ⟨w.heap.size, 0, none⟩ = some (.int .i64 co0) := F2.out.bc.cell 0
    have aqx1 : v2.cell? ⟨w.heap.size, 1, none⟩ = some (.int .i64 sy0) := F2.out.bc.cell 1
    have aqx2 : v2.cell? ⟨w.heap.size, 2, none⟩ = some (.int .i64 la0) := F2.out.bc.cell 2
    have aqx3 : v2.cell? ⟨w.heap.size, 3, none⟩ = some (.int .i64 mo0) := F2.out.bc.cell 3
    have aqx4 : v2.cell? ⟨w.heap.size, 4, none⟩ = some (.slice s0 n0 m0) := F2.out.bc.cell 4
    have apx0 : v2.cell? ⟨w.heap.size + 1, 0, none⟩ = some (.int .i64 co1) := F2.out.bd.cell 0
    have apx1 : v2.cell? ⟨w.heap.size + 1, 1, none⟩ = some (.int .i64 sy1) := F2.out.bd.cell 1
    have apx2 : v2.cell? ⟨w.heap.size + 1, 2, none⟩ = some (.int .i64 la1) := F2.out.bd.cell 2
    have apx3 : v2.cell? ⟨w.heap.size + 1, 3, none⟩ = some (.int .i64 mo1) := F2.out.bd.cell 3
    have apx4 : v2.cell? ⟨w.heap.size + 1, 4, none⟩ = some (.slice s1 n1 m1) := F2.out.bd.cell 4
    have arx0 : v2.cell? ⟨w.heap.size + 2, 0, none⟩ = some (.int .i64 c2) := F2.out.bt.cell 0
    have arx1 : v2.cell? ⟨w.heap.size + 2, 1, none⟩ = some (.int .i64 d2) := F2.out.bt.cell 1
    have arx2 : v2.cell? ⟨w.heap.size + 2, 2, none⟩ = some (.int .i64 t2) := F2.out.bt.cell 2
    have arx3 : v2.cell? ⟨w.heap.size + 2, 3, none⟩ = some (.slice s2 n2 m2) := F2.out.bt.cell 3
    have asx0 : v2.cell? ⟨w.heap.size + 3, 0, none⟩ = some (.int .i64 c3) := F2.out.bu.cell 0
    have asx1 : v2.cell? ⟨w.heap.size + 3, 1, none⟩ = some (.int .i64 d3) := F2.out.bu.cell 1
    have asx2 : v2.cell? ⟨w.heap.size + 3, 2, none⟩ = some (.int .i64 t3) := F2.out.bu.cell 2
    have asx3 : v2.cell? ⟨w.heap.size + 3, 3, none⟩ = some (.slice s3 n3 m3) := F2.out.bu.cell 3
    first | refine hK.out _ _ (fun _ => ⟨aqx0, aqx1, aqx2, aqx3, aqx4, apx0, apx1, apx2, apx3, apx4, arx0, arx1, arx2, arx3, asx0, asx1, asx2, asx3⟩) ?_ | (go_wp2_with fail; refine hK.out _ _ (fun _ => ⟨aqx0, aqx1, aqx2, aqx3, aqx4, apx0, apx1, apx2, apx3, apx4, arx0, arx1, arx2, arx3, asx0, asx1, asx2, asx3⟩) ?_)
    clear hK K
    try simp only [Act.put, List.setIfInBounds_toArray, List.set_cons_zero, List.set_cons_succ]
    refine RunsZ.one (i := 3) (by kernel_rfl) (nth_op rfl) (by rfl) (fun K hK => ?_)
    go_simp
    refine (lconfig_at co1 sy1 la1 mo1 s1 n1 m1 z1 l' n' HD.out.1 HD.out.2 _ (AD.out.below F2.out.bel)).mono ?_
    rintro e v3 ⟨sd, kd, rfl, own, g⟩
    have O3 : Hid (v3.ownsRow v2.heap.size 3 1 (.slice sd n' kd) n' (l'.map mkI) ∧ Below v2.heap.size v2 v3) := ⟨own, g⟩
    have F3 : Hid (R4 w #[.int .i64 co0, .int .i64 sy0, .int .i64 la0, .int .i64 mo0, .slice s0 n0 m0] #[.int .i64 co1, .int .i64 sy1, .int .i64 la1, .int .i64 mo1, .slice s1 n1 m1] #[.int .i64 c2, .int .i64 d2, .int .i64 t2, .slice s2 n2 m2] #[.int .i64 c3, .int .i64 d3, .int .i64 t3, .slice s3 n3 m3] v3) := F2.out.below g
    clear own g
    have bqx0 : v3.cell? ⟨w.heap.size, 0, none⟩ = some (.int .i64 co0) := F3.out.bc.cell 0
    have bqx1 : v3.cell? ⟨w.heap.size, 1, none⟩ = some (.int .i64 sy0) := F3.out.bc.cell 1
    have bqx2 : v3.cell? ⟨w.heap.size, 2, none⟩ = some (.int .i64 la0) := F3.out.bc.cell 2
    have bqx3 : v3.cell? ⟨w.heap.size, 3, none⟩ = some (.int .i64 mo0) := F3.out.bc.cell 3
    have bqx4 : v3.cell? ⟨w.heap.size, 4, none⟩ = some (.slice s0 n0 m0) := F3.out.bc.cell 4
    have bpx0 : v3.cell? ⟨w.heap.size + 1, 0, none⟩ = some (.int .i64 co1) := F3.out.bd.cell 0
    have bpx1 : v3.cell? ⟨w.heap.size + 1, 1, none⟩ = some (.int .i64 sy1) := F3.out.bd.cell 1
    have bpx2 : v3.cell? ⟨w.heap.size + 1, 2, none⟩ = some (.int .i64 la1) := F3.out.bd.cell 2
    have bpx3 : v3.cell? ⟨w.heap.size + 1, 3, none⟩ = some (.int .i64 mo1) := F3.out.bd.cell 3
    have bpx4 : v3.cell? ⟨w.heap.size + 1, 4, none⟩ = some (.slice s1 n1 m1) := F3.out.bd.cell 4
    have brx0 : v3.cell? ⟨w.heap.size + 2, 0, none⟩ = some (.int .i64 c2) := F3.out.bt.cell 0
    have brx1 : v3.cell? ⟨w.heap.size + 2, 1, none⟩ = some (.int .i64 d2) := F3.out.bt.cell 1
    have brx2 : v3.cell? ⟨w.heap.size + 2, 2, none⟩ = some (.int .i64 t2) := F3.out.bt.cell 2
    have brx3 : v3.cell? ⟨w.heap.size + 2, 3, none⟩ = some (.slice s2 n2 m2) := F3.out.bt.cell 3
    have bsx0 : v3.cell? ⟨w.heap.size + 3, 0, none⟩ = some (.int .i64 c3) := F3.out.bu.cell 0
    have bsx1 : v3.cell? ⟨w.heap.size + 3, 1, none⟩ = some (.int .i64 d3) := F3.out.bu.cell 1
    have bsx2 : v3.cell? ⟨w.heap.size + 3, 2, none⟩ = some (.int .i64 t3) := F3.out.bu.cell 2
    have bsx3 : v3.cell? ⟨w.heap.size + 3, 3, none⟩ = some (.slice s3 n3 m3) := F3.out.bu.cell 3
    first | refine hK.out _ _ (fun _ => ⟨bqx0, bqx1, bqx2, bqx3, bqx4, bpx0, bpx1, bpx2, bpx3, bpx4, brx0, brx1, brx2, brx3, bsx0, bsx1, bsx2, bsx3⟩) ?_ | (go_wp2_with fail; refine hK.out _ _ (fun _ => ⟨bqx0, bqx1, bqx2, bqx3, bqx4, bpx0, bpx1, bpx2, bpx3, bpx4, brx0, brx1, brx2, brx3, bsx0, bsx1, bsx2, bsx3⟩) ?_)
    clear hK K
    try simp only [Act.put, List.setIfInBounds_toArray, List.set_cons_zero, List.set_cons_succ]
    refine RunsZ.one (i := 5) (by kernel_rfl) (nth_op rfl) (by rfl) (fun K hK => ?_)
    go_simp
    refine (ltask_at c2 d2 t2 s2 n2 m2 z2 m q HM.out.1 HM.out.2 _ (AT.out.below F3.out.bel)).mono ?_
    rintro e v4 ⟨st, kt, rfl, own, g⟩
    have O4 : Hid (v4.ownsRow v3.heap.size 57 3 (.slice st q kt) q (secC m) ∧ Below v3.heap.size v3 v4) := ⟨own, g⟩
    have F4 : Hid (R4 w #[.int .i64 co0, .int .i64 sy0, .int .i64 la0, .int .i64 mo0, .slice s0 n0 m0] #[.int .i64 co1, .int .i64 sy1, .int .i64 la1, .int .i64 mo1, .slice s1 n1 m1] #[.int .i64 c2, .int .i64 d2, .int .i64 t2, .slice s2 n2 m2] #[.int .i64 c3, .int .i64 d3, .int .i64 t3, .slice s3 n3 m3] v4) := F3.out.below g
    clear own g
    have cqx0 : v4.cell? ⟨w.heap.size, 0, none⟩ = some (.int .i64 co0) := F4.out.bc.cell 0
    have cqx1 : v4.cell? ⟨w.heap.size, 1, none⟩ = some (.int .i64 sy0) := F4.out.bc.cell 1
    have cqx2 : v4.cell? ⟨w.heap.size, 2, none⟩ = some (.int .i64 la0) := F4.out.bc.cell 2
    have cqx3 : v4.cell? ⟨w.heap.size, 3, none⟩ = some (.int .i64 mo0) := F4.out.bc.cell 3
    have cqx4 : v4.cell? ⟨w.heap.size, 4, none⟩ = some (.slice s0 n0 m0) := F4.out.bc.cell 4
    have cpx0 : v4.cell? ⟨w.heap.size + 1, 0, none⟩ = some (.int .i64 co1) := F4.out.bd.cell 0
    have cpx1 : v4.cell? ⟨w.heap.size + 1, 1, none⟩ = some (.int .i64 sy1) := F4.out.bd.cell 1
    have cpx2 : v4.cell? ⟨w.heap.size + 1, 2, none⟩ = some (.int .i64 la1) := F4.out.bd.cell 2
    have cpx3 : v4.cell? ⟨w.heap.size + 1, 3, none⟩ = some (.int .i64 mo1) := F4.out.bd.cell 3
    have cpx4 : v4.cell? ⟨w.heap.size + 1, 4, none⟩ = some (.slice s1 n1 m1) := F4.out.bd.cell 4
    have crx0 : v4.cell? ⟨w.heap.size + 2, 0, none⟩ = some (.int .i64 c2) := F4.out.bt.cell 0
    have crx1 : v4.cell? ⟨w.heap.size + 2, 1, none⟩ = some (.int .i64 d2) := F4.out.bt.cell 1
    have crx2 : v4.cell? ⟨w.heap.size + 2, 2, none⟩ = some (.int .i64 t2) := F4.out.bt.cell 2
    have crx3 : v4.cell? ⟨w.heap.size + 2, 3, none⟩ = some (.slice s2 n2 m2) := F4.out.bt.cell 3
    have csx0 : v4.cell? ⟨w.heap.size + 3, 0, none⟩ = some (.int .i64 c3) := F4.out.bu.cell 0
    have csx1 : v4.cell? ⟨w.heap.size + 3, 1, none⟩ = some (.int .i64 d3) := F4.out.bu.cell 1
    have csx2 : v4.cell? ⟨w.heap.size + 3, 2, none⟩ = some (.int .i64 t3) := F4.out.bu.cell 2
    have csx3 : v4.cell? ⟨w.heap.size + 3, 3, none⟩ = some (.slice s3 n3 m3) := F4.out.bu.cell 3
    first | refine hK.out _ _ (fun _ => ⟨cqx0, cqx1, cqx2, cqx3, cqx4, cpx0, cpx1, cpx2, cpx3, cpx4, crx0, crx1, crx2, crx3, csx0, csx1, csx2, csx3⟩) ?_ | (go_wp2_with fail; refine hK.out _ _ (fun _ => ⟨cqx0, cqx1, cqx2, cqx3, cqx4, cpx0, cpx1, cpx2, cpx3, cpx4, crx0, crx1, crx2, crx3, csx0, csx1, csx2, csx3⟩) ?_)
    clear hK K
    try simp only [Act.put, List.setIfInBounds_toArray, List.set_cons_zero, List.set_cons_succ]
    refine RunsZ.one (i := 7) (by kernel_rfl) (nth_op rfl) (by rfl) (fun K hK => ?_)
    go_simp
    refine (ltask_at c3 d3 t3 s3 n3 m3 z3 m' q' HU.out.1 HU.out.2 _ (AU.out.below F4.out.bel)).mono ?_
    rintro e v5 ⟨su, ku, rfl, own, g⟩
    have O5 : Hid (v5.ownsRow v4.heap.size 57 3 (.slice su q' ku) q' (secC m') ∧ Below v4.heap.size v4 v5) := ⟨own, g⟩
    have F5 : Hid (R4 w #[.int .i64 co0, .int .i64 sy0, .int .i64 la0, .int .i64 mo0, .slice s0 n0 m0] #[.int .i64 co1, .int .i64 sy1, .int .i64 la1, .int .i64 mo1, .slice s1 n1 m1] #[.int .i64 c2, .int .i64 d2, .int .i64 t2, .slice s2 n2 m2] #[.int .i64 c3, .int .i64 d3, .int .i64 t3, .slice s3 n3 m3] v5) := F4.out.below g
    clear own g
    have dqx0 : v5.cell? ⟨w.heap.size, 0, none⟩ = some (.int .i64 co0) := F5.out.bc.cell 0
    have fdqx0 := F5.out.bc.frozen 0
    have dqx1 : v5.cell? ⟨w.heap.size, 1, none⟩ = some (.int .i64 sy0) := F5.out.bc.cell 1
    have fdqx1 := F5.out.bc.frozen 1
    have dqx2 : v5.cell? ⟨w.heap.size, 2, none⟩ = some (.int .i64 la0) := F5.out.bc.cell 2
    have fdqx2 := F5.out.bc.frozen 2
    have dqx3 : v5.cell? ⟨w.heap.size, 3, none⟩ = some (.int .i64 mo0) := F5.out.bc.cell 3
    have fdqx3 := F5.out.bc.frozen 3
    have dqx4 : v5.cell? ⟨w.heap.size, 4, none⟩ = some (.slice s0 n0 m0) := F5.out.bc.cell 4
    have fdqx4 := F5.out.bc.frozen 4
    have dpx0 : v5.cell? ⟨w.heap.size + 1, 0, none⟩ = some (.int .i64 co1) := F5.out.bd.cell 0
    have fdpx0 := F5.out.bd.frozen 0
    have dpx1 : v5.cell? ⟨w.heap.size + 1, 1, none⟩ = some (.int .i64 sy1) := F5.out.bd.cell 1
    have fdpx1 := F5.out.bd.frozen 1
    have dpx2 : v5.cell? ⟨w.heap.size + 1, 2, none⟩ = some (.int .i64 la1) := F5.out.bd.cell 2
    have fdpx2 := F5.out.bd.frozen 2
    have dpx3 : v5.cell? ⟨w.heap.size + 1, 3, none⟩ = some (.int .i64 mo1) := F5.out.bd.cell 3
    have fdpx3 := F5.out.bd.frozen 3
    have dpx4 : v5.cell? ⟨w.heap.size + 1, 4, none⟩ = some (.slice s1 n1 m1) := F5.out.bd.cell 4
    have fdpx4 := F5.out.bd.frozen 4
    have drx0 : v5.cell? ⟨w.heap.size + 2, 0, none⟩ = some (.int .i64 c2) := F5.out.bt.cell 0
    have fdrx0 := F5.out.bt.frozen 0
    have drx1 : v5.cell? ⟨w.heap.size + 2, 1, none⟩ = some (.int .i64 d2) := F5.out.bt.cell 1
    have fdrx1 := F5.out.bt.frozen 1
    have drx2 : v5.cell? ⟨w.heap.size + 2, 2, none⟩ = some (.int .i64 t2) := F5.out.bt.cell 2
    have fdrx2 := F5.out.bt.frozen 2
    have drx3 : v5.cell? ⟨w.heap.size + 2, 3, none⟩ = some (.slice s2 n2 m2) := F5.out.bt.cell 3
    have fdrx3 := F5.out.bt.frozen 3
    have dsx0 : v5.cell? ⟨w.heap.size + 3, 0, none⟩ = some (.int .i64 c3) := F5.out.bu.cell 0
    have fdsx0 := F5.out.bu.frozen 0
    have dsx1 : v5.cell? ⟨w.heap.size + 3, 1, none⟩ = some (.int .i64 d3) := F5.out.bu.cell 1
    have fdsx1 := F5.out.bu.frozen 1
    have dsx2 : v5.cell? ⟨w.heap.size + 3, 2, none⟩ = some (.int .i64 t3) := F5.out.bu.cell 2
    have fdsx2 := F5.out.bu.frozen 2
    have dsx3 : v5.cell? ⟨w.heap.size + 3, 3, none⟩ = some (.slice s3 n3 m3) := F5.out.bu.cell 3
    have fdsx3 := F5.out.bu.frozen 3
    first | refine hK.out _ _ (fun _ => ⟨dqx0, dqx1, dqx2, dqx3, dqx4, dpx0, dpx1, dpx2, dpx3, dpx4, drx0, drx1, drx2, drx3, dsx0, dsx1, dsx2, dsx3⟩) ?_ | (go_wp2_with fail; refine hK.out _ _ (fun _ => ⟨dqx0, dqx1, dqx2, dqx3, dqx4, dpx0, dpx1, dpx2, dpx3, dpx4, drx0, drx1, drx2, drx3, dsx0, dsx1, dsx2, dsx3⟩) ?_)
    clear hK K
    try simp only [Act.put, List.setIfInBounds_toArray, List.set_cons_zero, List.set_cons_succ]
    have l5 := F5.out.bu.lt
    refine RunsZ.one (i := 8) (by kernel_rfl) (nth_op rfl) (by rfl) (fun K hK => ?_)
    go_simp
    refine hK.out _ _ (fun h => absurd (by decide) h) ?_
    clear hK K
    try simp only [Act.put, List.setIfInBounds_toArray, List.set_cons_zero, List.set_cons_succ]
    refine RunsZ.one (i := 9) (by kernel_rfl) (nth_op rfl) (by rfl) (fun K hK => ?_)
    go_simp
    refine hK.out _ _ (fun h => absurd (by decide) h) ?_
    clear hK K
    try simp only [Act.put, List.setIfInBounds_toArray, List.set_cons_zero, List.set_cons_succ]
    refine RunsZ.one (i := 10) (by kernel_rfl) (nth_op rfl) (by rfl) (fun K hK => ?_)
    go_simp
    refine hK.out _ _ (fun h => absurd (by decide) h) ?_
    clear hK K
    try simp only [Act.put, List.setIfInBounds_toArray, List.set_cons_zero, List.set_cons_succ]
    refine RunsZ.one (i := 11) (by kernel_rfl) (nth_op rfl) (by rfl) (fun K hK => ?_)
    go_simp
    refine hK.out _ _ (fun h => absurd (by decide) h) ?_
    clear hK K
    try simp only [Act.put, List.setIfInBounds_toArray, List.set_cons_zero, List.set_cons_succ]
    refine RunsZ.done (by kernel_rfl) (NoPanic.normal ?_)
    go_wp2_with fail
    go_meet
    exact ⟨sc, kc, sd, kd, st, kt, su, ku, Cop4.made E1.out.drew HL.out.2 HD.out.2 HM.out.2 HU.out.2 O2.out.1 O2.out.2 O3.out.1 O3.out.2 O4.out.1 O4.out.2 O5.out.1 O5.out.2⟩
    -- ]Z0
  case rest =>
    obtain ⟨sc, kc, sd, kd, st, kt, su, ku, hC⟩ := hcut
    have G0 : Hid (Cop4 w co0 sy0 la0 mo0 sc n kc l co1 sy1 la1 mo1 sd n' kd l' c2 d2 t2 st q kt m c3 d3 t3 su q' ku m' wc) := hC
    clear hC E1 AC AD AT AU
    have LL : Hid (l.length ≤ 1000000 ∧ l'.length ≤ 1000000 ∧ m.length ≤ 1000000 ∧ m'.length ≤ 1000000) := ⟨by have := HL.out.2; omega, by have := HD.out.2; omega, by have := HM.out.2; omega, by have := HU.out.2; omega⟩
    have eqx0 : wc.cell? ⟨w.heap.size, 0, none⟩ = some (.int .i64 co0) := G0.out.r4.bc.cell 0
    have eqx1 : wc.cell? ⟨w.heap.size, 1, none⟩ = some (.int .i64 sy0) := G0.out.r4.bc.cell 1
    have eqx2 : wc.cell? ⟨w.heap.size, 2, none⟩ = some (.int .i64 la0) := G0.out.r4.bc.cell 2
    have eqx3 : wc.cell? ⟨w.heap.size, 3, none⟩ = some (.int .i64 mo0) := G0.out.r4.bc.cell 3
    have eqx4 : wc.cell? ⟨w.heap.size, 4, none⟩ = some (.slice sc n kc) := G0.out.r4.bc.cell 4
    have epx0 : wc.cell? ⟨w.heap.size + 1, 0, none⟩ = some (.int .i64 co1) := G0.out.r4.bd.cell 0
    have epx1 : wc.cell? ⟨w.heap.size + 1, 1, none⟩ = some (.int .i64 sy1) := G0.out.r4.bd.cell 1
    have epx2 : wc.cell? ⟨w.heap.size + 1, 2, none⟩ = some (.int .i64 la1) := G0.out.r4.bd.cell 2
    have epx3 : wc.cell? ⟨w.heap.size + 1, 3, none⟩ = some (.int .i64 mo1) := G0.out.r4.bd.cell 3
    have epx4 : wc.cell? ⟨w.heap.size + 1, 4, none⟩ = some (.slice sd n' kd) := G0.out.r4.bd.cell 4
    go_wp2_with fail
    go_region_held3 (fun w' => w'.cell? ⟨w.heap.size, 0, none⟩ = some (.int .i64 co0) ∧ w'.cell? ⟨w.heap.size, 1, none⟩ = some (.int .i64 sy0) ∧ w'.cell? ⟨w.heap.size, 2, none⟩ = some (.int .i64 la0) ∧ w'.cell? ⟨w.heap.size, 3, none⟩ = some (.int .i64 mo0) ∧ w'.cell? ⟨w.heap.size, 4, none⟩ = some (.slice sc n kc) ∧ w'.cell? ⟨w.heap.size + 1, 0, none⟩ = some (.int .i64 co1) ∧ w'.cell? ⟨w.heap.size + 1, 1, none⟩ = some (.int .i64 sy1) ∧ w'.cell? ⟨w.heap.size + 1, 2, none⟩ = some (.int .i64 la1) ∧ w'.cell? ⟨w.heap.size + 1, 3, none⟩ = some (.int .i64 mo1) ∧ w'.cell? ⟨w.heap.size + 1, 4, none⟩ = some (.slice sd n' kd)) (first | exact ⟨eqx0, eqx1, eqx2, eqx3, eqx4, epx0, epx1, epx2, epx3, epx4⟩ | exact ⟨fqx0, fqx1, fqx2, fqx3, fqx4, fpx0, fpx1, fpx2, fpx3, fpx4⟩ | exact ⟨gqx0, gqx1, gqx2, gqx3, gqx4, gpx0, gpx1, gpx2, gpx3, gpx4⟩ | go_keep) (first | (go_at_call_of 22 (Value.slice sc n kc); refine (putCfg_any co0 sy0 la0 mo0 (.slice sc n kc) l _ (by first | exact G0.out.intc | exact G0.out.drew.intc) LL.out.1).mono ?_; rintro e w11 ⟨p, rfl, hp, g⟩; have HP : Hid (p.data.toList = putCfgL ⟨co0, sy0, la0, mo0, l⟩) := hp; have G1 : Hid (Cop4 w co0 sy0 la0 mo0 sc n kc l co1 sy1 la1 mo1 sd n' kd l' c2 d2 t2 st q kt m c3 d3 t3 su q' ku m' w11) := (by first | exact G0.out.below g | exact G0.out.drew.below g); clear hp g; have fqx0 : w11.cell? ⟨w.heap.size, 0, none⟩ = some (.int .i64 co0) := G1.out.r4.bc.cell 0; have fqx1 : w11.cell? ⟨w.heap.size, 1, none⟩ = some (.int .i64 sy0) := G1.out.r4.bc.cell 1; have fqx2 : w11.cell? ⟨w.heap.size, 2, none⟩ = some (.int .i64 la0) := G1.out.r4.bc.cell 2; have fqx3 : w11.cell? ⟨w.heap.size, 3, none⟩ = some (.int .i64 mo0) := G1.out.r4.bc.cell 3; have fqx4 : w11.cell? ⟨w.heap.size, 4, none⟩ = some (.slice sc n kc) := G1.out.r4.bc.cell 4; have fpx0 : w11.cell? ⟨w.heap.size + 1, 0, none⟩ = some (.int .i64 co1) := G1.out.r4.bd.cell 0; have fpx1 : w11.cell? ⟨w.heap.size + 1, 1, none⟩ = some (.int .i64 sy1) := G1.out.r4.bd.cell 1; have fpx2 : w11.cell? ⟨w.heap.size + 1, 2, none⟩ = some (.int .i64 la1) := G1.out.r4.bd.cell 2; have fpx3 : w11.cell? ⟨w.heap.size + 1, 3, none⟩ = some (.int .i64 mo1) := G1.out.r4.bd.cell 3; have fpx4 : w11.cell? ⟨w.heap.size + 1, 4, none⟩ = some (.slice sd n' kd) := G1.out.r4.bd.cell 4) | (go_at_call_of 22 (Value.slice sd n' kd); refine (putCfg_any co1 sy1 la1 mo1 (.slice sd n' kd) l' _ (by first | exact G1.out.intd | exact G1.out.drew.intd) LL.out.2.1).mono ?_; rintro e w12 ⟨p', rfl, hp, g⟩; have HQ : Hid (p'.data.toList = putCfgL ⟨co1, sy1, la1, mo1, l'⟩) := hp; have G2 : Hid (Cop4 w co0 sy0 la0 mo0 sc n kc l co1 sy1 la1 mo1 sd n' kd l' c2 d2 t2 st q kt m c3 d3 t3 su q' ku m' w12) := (by first | exact G1.out.below g | exact G1.out.drew.below g); clear hp g; have gqx0 : w12.cell? ⟨w.heap.size, 0, none⟩ = some (.int .i64 co0) := G2.out.r4.bc.cell 0; have gqx1 : w12.cell? ⟨w.heap.size, 1, none⟩ = some (.int .i64 sy0) := G2.out.r4.bc.cell 1; have gqx2 : w12.cell? ⟨w.heap.size, 2, none⟩ = some (.int .i64 la0) := G2.out.r4.bc.cell 2; have gqx3 : w12.cell? ⟨w.heap.size, 3, none⟩ = some (.int .i64 mo0) := G2.out.r4.bc.cell 3; have gqx4 : w12.cell? ⟨w.heap.size, 4, none⟩ = some (.slice sc n kc) := G2.out.r4.bc.cell 4; have gpx0 : w12.cell? ⟨w.heap.size + 1, 0, none⟩ = some (.int .i64 co1) := G2.out.r4.bd.cell 0; have gpx1 : w12.cell? ⟨w.heap.size + 1, 1, none⟩ = some (.int .i64 sy1) := G2.out.r4.bd.cell 1; have gpx2 : w12.cell? ⟨w.heap.size + 1, 2, none⟩ = some (.int .i64 la1) := G2.out.r4.bd.cell 2; have gpx3 : w12.cell? ⟨w.heap.size + 1, 3, none⟩ = some (.int .i64 mo1) := G2.out.r4.bd.cell 3; have gpx4 : w12.cell? ⟨w.heap.size + 1, 4, none⟩ = some (.slice sd n' kd) := G2.out.r4.bd.cell 4))
    clear G0 G1 eqx0 eqx1 eqx2 eqx3 eqx4 epx0 epx1 epx2 epx3 epx4 fqx0 fqx1 fqx2 fqx3 fqx4 fpx0 fpx1 fpx2 fpx3 fpx4 gqx0 gqx1 gqx2 gqx3 gqx4 gpx0 gpx1 gpx2 gpx3 gpx4
    have erx0 : w12.cell? ⟨w.heap.size + 2, 0, none⟩ = some (.int .i64 c2) := G2.out.r4.bt.cell 0
    have erx1 : w12.cell? ⟨w.heap.size + 2, 1, none⟩ = some (.int .i64 d2) := G2.out.r4.bt.cell 1
    have erx2 : w12.cell? ⟨w.heap.size + 2, 2, none⟩ = some (.int .i64 t2) := G2.out.r4.bt.cell 2
    have erx3 : w12.cell? ⟨w.heap.size + 2, 3, none⟩ = some (.slice st q kt) := G2.out.r4.bt.cell 3
    have esx0 : w12.cell? ⟨w.heap.size + 3, 0, none⟩ = some (.int .i64 c3) := G2.out.r4.bu.cell 0
    have esx1 : w12.cell? ⟨w.heap.size + 3, 1, none⟩ = some (.int .i64 d3) := G2.out.r4.bu.cell 1
    have esx2 : w12.cell? ⟨w.heap.size + 3, 2, none⟩ = some (.int .i64 t3) := G2.out.r4.bu.cell 2
    have esx3 : w12.cell? ⟨w.heap.size + 3, 3, none⟩ = some (.slice su q' ku) := G2.out.r4.bu.cell 3
    go_wp2_with fail
    go_region_held3 (fun w' => w'.cell? ⟨w.heap.size + 2, 0, none⟩ = some (.int .i64 c2) ∧ w'.cell? ⟨w.heap.size + 2, 1, none⟩ = some (.int .i64 d2) ∧ w'.cell? ⟨w.heap.size + 2, 2, none⟩ = some (.int .i64 t2) ∧ w'.cell? ⟨w.heap.size + 2, 3, none⟩ = some (.slice st q kt) ∧ w'.cell? ⟨w.heap.size + 3, 0, none⟩ = some (.int .i64 c3) ∧ w'.cell? ⟨w.heap.size + 3, 1, none⟩ = some (.int .i64 d3) ∧ w'.cell? ⟨w.heap.size + 3, 2, none⟩ = some (.int .i64 t3) ∧ w'.cell? ⟨w.heap.size + 3, 3, none⟩ = some (.slice su q' ku)) (first | exact ⟨erx0, erx1, erx2, erx3, esx0, esx1, esx2, esx3⟩ | exact ⟨frx0, frx1, frx2, frx3, fsx0, fsx1, fsx2, fsx3⟩ | exact ⟨grx0, grx1, grx2, grx3, gsx0, gsx1, gsx2, gsx3⟩ | go_keep) (first | (go_at_call_of 23 (Value.slice st q kt); refine (putTsk_any c2 d2 t2 (.slice st q kt) m _ (by first | exact G2.out.r4.env | exact G2.out.drew.r4.env) (by first | exact G2.out.sect | exact G2.out.drew.sect) LL.out.2.2.1).mono ?_; rintro e w13 ⟨r, rfl, hp, g⟩; have HR : Hid (r.data.toList = putTskL ⟨c2, d2, t2, m⟩) := hp; have G3 : Hid (Cop4 w co0 sy0 la0 mo0 sc n kc l co1 sy1 la1 mo1 sd n' kd l' c2 d2 t2 st q kt m c3 d3 t3 su q' ku m' w13) := (by first | exact G2.out.below g | exact G2.out.drew.below g); clear hp g; have frx0 : w13.cell? ⟨w.heap.size + 2, 0, none⟩ = some (.int .i64 c2) := G3.out.r4.bt.cell 0; have frx1 : w13.cell? ⟨w.heap.size + 2, 1, none⟩ = some (.int .i64 d2) := G3.out.r4.bt.cell 1; have frx2 : w13.cell? ⟨w.heap.size + 2, 2, none⟩ = some (.int .i64 t2) := G3.out.r4.bt.cell 2; have frx3 : w13.cell? ⟨w.heap.size + 2, 3, none⟩ = some (.slice st q kt) := G3.out.r4.bt.cell 3; have fsx0 : w13.cell? ⟨w.heap.size + 3, 0, none⟩ = some (.int .i64 c3) := G3.out.r4.bu.cell 0; have fsx1 : w13.cell? ⟨w.heap.size + 3, 1, none⟩ = some (.int .i64 d3) := G3.out.r4.bu.cell 1; have fsx2 : w13.cell? ⟨w.heap.size + 3, 2, none⟩ = some (.int .i64 t3) := G3.out.r4.bu.cell 2; have fsx3 : w13.cell? ⟨w.heap.size + 3, 3, none⟩ = some (.slice su q' ku) := G3.out.r4.bu.cell 3) | (go_at_call_of 23 (Value.slice su q' ku); refine (putTsk_any c3 d3 t3 (.slice su q' ku) m' _ (by first | exact G3.out.r4.env | exact G3.out.drew.r4.env) (by first | exact G3.out.secu | exact G3.out.drew.secu) LL.out.2.2.2).mono ?_; rintro e w14 ⟨r', rfl, hp, g⟩; have HS : Hid (r'.data.toList = putTskL ⟨c3, d3, t3, m'⟩) := hp; have G4 : Hid (Cop4 w co0 sy0 la0 mo0 sc n kc l co1 sy1 la1 mo1 sd n' kd l' c2 d2 t2 st q kt m c3 d3 t3 su q' ku m' w14) := (by first | exact G3.out.below g | exact G3.out.drew.below g); clear hp g; have grx0 : w14.cell? ⟨w.heap.size + 2, 0, none⟩ = some (.int .i64 c2) := G4.out.r4.bt.cell 0; have grx1 : w14.cell? ⟨w.heap.size + 2, 1, none⟩ = some (.int .i64 d2) := G4.out.r4.bt.cell 1; have grx2 : w14.cell? ⟨w.heap.size + 2, 2, none⟩ = some (.int .i64 t2) := G4.out.r4.bt.cell 2; have grx3 : w14.cell? ⟨w.heap.size + 2, 3, none⟩ = some (.slice st q kt) := G4.out.r4.bt.cell 3; have gsx0 : w14.cell? ⟨w.heap.size + 3, 0, none⟩ = some (.int .i64 c3) := G4.out.r4.bu.cell 0; have gsx1 : w14.cell? ⟨w.heap.size + 3, 1, none⟩ = some (.int .i64 d3) := G4.out.r4.bu.cell 1; have gsx2 : w14.cell? ⟨w.heap.size + 3, 2, none⟩ = some (.int .i64 t3) := G4.out.r4.bu.cell 2; have gsx3 : w14.cell? ⟨w.heap.size + 3, 3, none⟩ = some (.slice su q' ku) := G4.out.r4.bu.cell 3))
    clear G2 G3 erx0 erx1 erx2 erx3 esx0 esx1 esx2 esx3 frx0 frx1 frx2 frx3 fsx0 fsx1 fsx2 fsx3 grx0 grx1 grx2 grx3 gsx0 gsx1 gsx2 gsx3
    have eqx0 : w14.cell? ⟨w.heap.size, 0, none⟩ = some (.int .i64 co0) := G4.out.r4.bc.cell 0
    have eqx1 : w14.cell? ⟨w.heap.size, 1, none⟩ = some (.int .i64 sy0) := G4.out.r4.bc.cell 1
    have eqx2 : w14.cell? ⟨w.heap.size, 2, none⟩ = some (.int .i64 la0) := G4.out.r4.bc.cell 2
    have eqx3 : w14.cell? ⟨w.heap.size, 3, none⟩ = some (.int .i64 mo0) := G4.out.r4.bc.cell 3
    have eqx4 : w14.cell? ⟨w.heap.size, 4, none⟩ = some (.slice sc n kc) := G4.out.r4.bc.cell 4
    have epx0 : w14.cell? ⟨w.heap.size + 1, 0, none⟩ = some (.int .i64 co1) := G4.out.r4.bd.cell 0
    have epx1 : w14.cell? ⟨w.heap.size + 1, 1, none⟩ = some (.int .i64 sy1) := G4.out.r4.bd.cell 1
    have epx2 : w14.cell? ⟨w.heap.size + 1, 2, none⟩ = some (.int .i64 la1) := G4.out.r4.bd.cell 2
    have epx3 : w14.cell? ⟨w.heap.size + 1, 3, none⟩ = some (.int .i64 mo1) := G4.out.r4.bd.cell 3
    have epx4 : w14.cell? ⟨w.heap.size + 1, 4, none⟩ = some (.slice sd n' kd) := G4.out.r4.bd.cell 4
    have erx0 : w14.cell? ⟨w.heap.size + 2, 0, none⟩ = some (.int .i64 c2) := G4.out.r4.bt.cell 0
    have erx1 : w14.cell? ⟨w.heap.size + 2, 1, none⟩ = some (.int .i64 d2) := G4.out.r4.bt.cell 1
    have erx2 : w14.cell? ⟨w.heap.size + 2, 2, none⟩ = some (.int .i64 t2) := G4.out.r4.bt.cell 2
    have erx3 : w14.cell? ⟨w.heap.size + 2, 3, none⟩ = some (.slice st q kt) := G4.out.r4.bt.cell 3
    have esx0 : w14.cell? ⟨w.heap.size + 3, 0, none⟩ = some (.int .i64 c3) := G4.out.r4.bu.cell 0
    have esx1 : w14.cell? ⟨w.heap.size + 3, 1, none⟩ = some (.int .i64 d3) := G4.out.r4.bu.cell 1
    have esx2 : w14.cell? ⟨w.heap.size + 3, 2, none⟩ = some (.int .i64 t3) := G4.out.r4.bu.cell 2
    have esx3 : w14.cell? ⟨w.heap.size + 3, 3, none⟩ = some (.slice su q' ku) := G4.out.r4.bu.cell 3
    have lw := G4.out.r4.bu.lt
    clear HLb HDb HMb HUb
    go_upto_region 7 with fail
    go_cut [80] from 37 to 80 (fun c7 wx => c7 = .bool false ∧ Cop4 w co0 sy0 la0 mo0 sc n kc l co1 sy1 la1 mo1 sd n' kd l' c2 d2 t2 st q kt m c3 d3 t3 su q' ku m' wx)
    case first =>
      cases hc : cfgB (⟨co0, sy0, la0, mo0, l⟩ : Cfg)
      · cases ht : tskB 6 (⟨c2, d2, t2, m⟩ : Tsk)
        · -- [LAA
          obtain rfl : p = ⟨#[]⟩ := put_no HP.out hc
          obtain rfl : r = ⟨#[]⟩ := putt_no HR.out ht
          go_wp2_with fail
          refine (refPutCfg_s co0 sy0 la0 mo0 (.slice sc n kc) l ⟨#[]⟩ _ G4.out.r4.env G4.out.intc LL.out.1 HP.out).mono ?_
          rintro e w15 ⟨rfl, g⟩
          have G5 : Hid (Cop4 w co0 sy0 la0 mo0 sc n kc l co1 sy1 la1 mo1 sd n' kd l' c2 d2 t2 st q kt m c3 d3 t3 su q' ku m' w15) := G4.out.below g
          clear g
          have eqx0 : w15.cell? ⟨w.heap.size, 0, none⟩ = some (.int .i64 co0) := G5.out.r4.bc.cell 0
          have eqx1 : w15.cell? ⟨w.heap.size, 1, none⟩ = some (.int .i64 sy0) := G5.out.r4.bc.cell 1
          have eqx2 : w15.cell? ⟨w.heap.size, 2, none⟩ = some (.int .i64 la0) := G5.out.r4.bc.cell 2
          have eqx3 : w15.cell? ⟨w.heap.size, 3, none⟩ = some (.int .i64 mo0) := G5.out.r4.bc.cell 3
          have eqx4 : w15.cell? ⟨w.heap.size, 4, none⟩ = some (.slice sc n kc) := G5.out.r4.bc.cell 4
          have epx0 : w15.cell? ⟨w.heap.size + 1, 0, none⟩ = some (.int .i64 co1) := G5.out.r4.bd.cell 0
          have epx1 : w15.cell? ⟨w.heap.size + 1, 1, none⟩ = some (.int .i64 sy1) := G5.out.r4.bd.cell 1
          have epx2 : w15.cell? ⟨w.heap.size + 1, 2, none⟩ = some (.int .i64 la1) := G5.out.r4.bd.cell 2
          have epx3 : w15.cell? ⟨w.heap.size + 1, 3, none⟩ = some (.int .i64 mo1) := G5.out.r4.bd.cell 3
          have epx4 : w15.cell? ⟨w.heap.size + 1, 4, none⟩ = some (.slice sd n' kd) := G5.out.r4.bd.cell 4
          have erx0 : w15.cell? ⟨w.heap.size + 2, 0, none⟩ = some (.int .i64 c2) := G5.out.r4.bt.cell 0
          have erx1 : w15.cell? ⟨w.heap.size + 2, 1, none⟩ = some (.int .i64 d2) := G5.out.r4.bt.cell 1
          have erx2 : w15.cell? ⟨w.heap.size + 2, 2, none⟩ = some (.int .i64 t2) := G5.out.r4.bt.cell 2
          have erx3 : w15.cell? ⟨w.heap.size + 2, 3, none⟩ = some (.slice st q kt) := G5.out.r4.bt.cell 3
          have esx0 : w15.cell? ⟨w.heap.size + 3, 0, none⟩ = some (.int .i64 c3) := G5.out.r4.bu.cell 0
          have esx1 : w15.cell? ⟨w.heap.size + 3, 1, none⟩ = some (.int .i64 d3) := G5.out.r4.bu.cell 1
          have esx2 : w15.cell? ⟨w.heap.size + 3, 2, none⟩ = some (.int .i64 t3) := G5.out.r4.bu.cell 2
          have esx3 : w15.cell? ⟨w.heap.size + 3, 3, none⟩ = some (.slice su q' ku) := G5.out.r4.bu.cell 3
          go_wp2_with fail
          refine (refPutTsk_s c2 d2 t2 (.slice st q kt) m ⟨#[]⟩ _ G5.out.r4.env G5.out.sect LL.out.2.2.1 HR.out).mono ?_
          rintro e w16 ⟨rfl, g⟩
          have G6 : Hid (Cop4 w co0 sy0 la0 mo0 sc n kc l co1 sy1 la1 mo1 sd n' kd l' c2 d2 t2 st q kt m c3 d3 t3 su q' ku m' w16) := G5.out.below g
          clear g
          have eqx0 : w16.cell? ⟨w.heap.size, 0, none⟩ = some (.int .i64 co0) := G6.out.r4.bc.cell 0
          have eqx1 : w16.cell? ⟨w.heap.size, 1, none⟩ = some (.int .i64 sy0) := G6.out.r4.bc.cell 1
          have eqx2 : w16.cell? ⟨w.heap.size, 2, none⟩ = some (.int .i64 la0) := G6.out.r4.bc.cell 2
          have eqx3 : w16.cell? ⟨w.heap.size, 3, none⟩ = some (.int .i64 mo0) := G6.out.r4.bc.cell 3
          have eqx4 : w16.cell? ⟨w.heap.size, 4, none⟩ = some (.slice sc n kc) := G6.out.r4.bc.cell 4
          have epx0 : w16.cell? ⟨w.heap.size + 1, 0, none⟩ = some (.int .i64 co1) := G6.out.r4.bd.cell 0
          have epx1 : w16.cell? ⟨w.heap.size + 1, 1, none⟩ = some (.int .i64 sy1) := G6.out.r4.bd.cell 1
          have epx2 : w16.cell? ⟨w.heap.size + 1, 2, none⟩ = some (.int .i64 la1) := G6.out.r4.bd.cell 2
          have epx3 : w16.cell? ⟨w.heap.size + 1, 3, none⟩ = some (.int .i64 mo1) := G6.out.r4.bd.cell 3
          have epx4 : w16.cell? ⟨w.heap.size + 1, 4, none⟩ = some (.slice sd n' kd) := G6.out.r4.bd.cell 4
          have erx0 : w16.cell? ⟨w.heap.size + 2, 0, none⟩ = some (.int .i64 c2) := G6.out.r4.bt.cell 0
          have erx1 : w16.cell? ⟨w.heap.size + 2, 1, none⟩ = some (.int .i64 d2) := G6.out.r4.bt.cell 1
          have erx2 : w16.cell? ⟨w.heap.size + 2, 2, none⟩ = some (.int .i64 t2) := G6.out.r4.bt.cell 2
          have erx3 : w16.cell? ⟨w.heap.size + 2, 3, none⟩ = some (.slice st q kt) := G6.out.r4.bt.cell 3
          have esx0 : w16.cell? ⟨w.heap.size + 3, 0, none⟩ = some (.int .i64 c3) := G6.out.r4.bu.cell 0
          have esx1 : w16.cell? ⟨w.heap.size + 3, 1, none⟩ = some (.int .i64 d3) := G6.out.r4.bu.cell 1
          have esx2 : w16.cell? ⟨w.heap.size + 3, 2, none⟩ = some (.int .i64 t3) := G6.out.r4.bu.cell 2
          have esx3 : w16.cell? ⟨w.heap.size + 3, 3, none⟩ = some (.slice su q' ku) := G6.out.r4.bu.cell 3
          go_wp2_with fail
          go_meet
          exact ⟨rfl, G6.out⟩
          -- ]LAA
        · cases hu : tskB 6 (⟨c3, d3, t3, m'⟩ : Tsk)
          · -- [LAB
            obtain rfl : p = ⟨#[]⟩ := put_no HP.out hc
            have hr := putt_yes HR.out ht
            have NAhr : ¬ r.toList = [] := put_yes2 (hr)
            have NBhr : r.toList.isEmpty = false := by simpa using NAhr
            obtain rfl : r' = ⟨#[]⟩ := putt_no HS.out hu
            go_wp2_with fail
            refine (refPutCfg_s co0 sy0 la0 mo0 (.slice sc n kc) l ⟨#[]⟩ _ G4.out.r4.env G4.out.intc LL.out.1 HP.out).mono ?_
            rintro e w15 ⟨rfl, g⟩
            have G5 : Hid (Cop4 w co0 sy0 la0 mo0 sc n kc l co1 sy1 la1 mo1 sd n' kd l' c2 d2 t2 st q kt m c3 d3 t3 su q' ku m' w15) := G4.out.below g
            clear g
            have eqx0 : w15.cell? ⟨w.heap.size, 0, none⟩ = some (.int .i64 co0) := G5.out.r4.bc.cell 0
            have eqx1 : w15.cell? ⟨w.heap.size, 1, none⟩ = some (.int .i64 sy0) := G5.out.r4.bc.cell 1
            have eqx2 : w15.cell? ⟨w.heap.size, 2, none⟩ = some (.int .i64 la0) := G5.out.r4.bc.cell 2
            have eqx3 : w15.cell? ⟨w.heap.size, 3, none⟩ = some (.int .i64 mo0) := G5.out.r4.bc.cell 3
            have eqx4 : w15.cell? ⟨w.heap.size, 4, none⟩ = some (.slice sc n kc) := G5.out.r4.bc.cell 4
            have epx0 : w15.cell? ⟨w.heap.size + 1, 0, none⟩ = some (.int .i64 co1) := G5.out.r4.bd.cell 0
            have epx1 : w15.cell? ⟨w.heap.size + 1, 1, none⟩ = some (.int .i64 sy1) := G5.out.r4.bd.cell 1
            have epx2 : w15.cell? ⟨w.heap.size + 1, 2, none⟩ = some (.int .i64 la1) := G5.out.r4.bd.cell 2
            have epx3 : w15.cell? ⟨w.heap.size + 1, 3, none⟩ = some (.int .i64 mo1) := G5.out.r4.bd.cell 3
            have epx4 : w15.cell? ⟨w.heap.size + 1, 4, none⟩ = some (.slice sd n' kd) := G5.out.r4.bd.cell 4
            have erx0 : w15.cell? ⟨w.heap.size + 2, 0, none⟩ = some (.int .i64 c2) := G5.out.r4.bt.cell 0
            have erx1 : w15.cell? ⟨w.heap.size + 2, 1, none⟩ = some (.int .i64 d2) := G5.out.r4.bt.cell 1
            have erx2 : w15.cell? ⟨w.heap.size + 2, 2, none⟩ = some (.int .i64 t2) := G5.out.r4.bt.cell 2
            have erx3 : w15.cell? ⟨w.heap.size + 2, 3, none⟩ = some (.slice st q kt) := G5.out.r4.bt.cell 3
            have esx0 : w15.cell? ⟨w.heap.size + 3, 0, none⟩ = some (.int .i64 c3) := G5.out.r4.bu.cell 0
            have esx1 : w15.cell? ⟨w.heap.size + 3, 1, none⟩ = some (.int .i64 d3) := G5.out.r4.bu.cell 1
            have esx2 : w15.cell? ⟨w.heap.size + 3, 2, none⟩ = some (.int .i64 t3) := G5.out.r4.bu.cell 2
            have esx3 : w15.cell? ⟨w.heap.size + 3, 3, none⟩ = some (.slice su q' ku) := G5.out.r4.bu.cell 3
            go_wp2_with fail
            refine (refPutTsk_s c2 d2 t2 (.slice st q kt) m r _ G5.out.r4.env G5.out.sect LL.out.2.2.1 HR.out).mono ?_
            rintro e w16 ⟨rfl, g⟩
            have G6 : Hid (Cop4 w co0 sy0 la0 mo0 sc n kc l co1 sy1 la1 mo1 sd n' kd l' c2 d2 t2 st q kt m c3 d3 t3 su q' ku m' w16) := G5.out.below g
            clear g
            have eqx0 : w16.cell? ⟨w.heap.size, 0, none⟩ = some (.int .i64 co0) := G6.out.r4.bc.cell 0
            have eqx1 : w16.cell? ⟨w.heap.size, 1, none⟩ = some (.int .i64 sy0) := G6.out.r4.bc.cell 1
            have eqx2 : w16.cell? ⟨w.heap.size, 2, none⟩ = some (.int .i64 la0) := G6.out.r4.bc.cell 2
            have eqx3 : w16.cell? ⟨w.heap.size, 3, none⟩ = some (.int .i64 mo0) := G6.out.r4.bc.cell 3
            have eqx4 : w16.cell? ⟨w.heap.size, 4, none⟩ = some (.slice sc n kc) := G6.out.r4.bc.cell 4
            have epx0 : w16.cell? ⟨w.heap.size + 1, 0, none⟩ = some (.int .i64 co1) := G6.out.r4.bd.cell 0
            have epx1 : w16.cell? ⟨w.heap.size + 1, 1, none⟩ = some (.int .i64 sy1) := G6.out.r4.bd.cell 1
            have epx2 : w16.cell? ⟨w.heap.size + 1, 2, none⟩ = some (.int .i64 la1) := G6.out.r4.bd.cell 2
            have epx3 : w16.cell? ⟨w.heap.size + 1, 3, none⟩ = some (.int .i64 mo1) := G6.out.r4.bd.cell 3
            have epx4 : w16.cell? ⟨w.heap.size + 1, 4, none⟩ = some (.slice sd n' kd) := G6.out.r4.bd.cell 4
            have erx0 : w16.cell? ⟨w.heap.size + 2, 0, none⟩ = some (.int .i64 c2) := G6.out.r4.bt.cell 0
            have erx1 : w16.cell? ⟨w.heap.size + 2, 1, none⟩ = some (.int .i64 d2) := G6.out.r4.bt.cell 1
            have erx2 : w16.cell? ⟨w.heap.size + 2, 2, none⟩ = some (.int .i64 t2) := G6.out.r4.bt.cell 2
            have erx3 : w16.cell? ⟨w.heap.size + 2, 3, none⟩ = some (.slice st q kt) := G6.out.r4.bt.cell 3
            have esx0 : w16.cell? ⟨w.heap.size + 3, 0, none⟩ = some (.int .i64 c3) := G6.out.r4.bu.cell 0
            have esx1 : w16.cell? ⟨w.heap.size + 3, 1, none⟩ = some (.int .i64 d3) := G6.out.r4.bu.cell 1
            have esx2 : w16.cell? ⟨w.heap.size + 3, 2, none⟩ = some (.int .i64 t3) := G6.out.r4.bu.cell 2
            have esx3 : w16.cell? ⟨w.heap.size + 3, 3, none⟩ = some (.slice su q' ku) := G6.out.r4.bu.cell 3
            go_wp2_with fail
            go_meet
            exact ⟨rfl, G6.out⟩
            -- ]LAB
          · by_cases hv : (⟨c2, d2, t2, m⟩ : Tsk) = (⟨c3, d3, t3, m'⟩ : Tsk)
            · -- [LAC
              obtain rfl : p = ⟨#[]⟩ := put_no HP.out hc
              have hr := putt_yes HR.out ht
              have NAhr : ¬ r.toList = [] := put_yes2 (hr)
              have NBhr : r.toList.isEmpty = false := by simpa using NAhr
              have hs := putt_yes HS.out hu
              have NAhs : ¬ r'.toList = [] := put_yes2 (hs)
              have NBhs : r'.toList.isEmpty = false := by simpa using NAhs
              obtain rfl := tsk_alike HR.out HS.out hv
              go_wp2_with fail
              refine (refPutCfg_s co0 sy0 la0 mo0 (.slice sc n kc) l ⟨#[]⟩ _ G4.out.r4.env G4.out.intc LL.out.1 HP.out).mono ?_
              rintro e w15 ⟨rfl, g⟩
              have G5 : Hid (Cop4 w co0 sy0 la0 mo0 sc n kc l co1 sy1 la1 mo1 sd n' kd l' c2 d2 t2 st q kt m c3 d3 t3 su q' ku m' w15) := G4.out.below g
              clear g
              have eqx0 : w15.cell? ⟨w.heap.size, 0, none⟩ = some (.int .i64 co0) := G5.out.r4.bc.cell 0
              have eqx1 : w15.cell? ⟨w.heap.size, 1, none⟩ = some (.int .i64 sy0) := G5.out.r4.bc.cell 1
              have eqx2 : w15.cell? ⟨w.heap.size, 2, none⟩ = some (.int .i64 la0) := G5.out.r4.bc.cell 2
              have eqx3 : w15.cell? ⟨w.heap.size, 3, none⟩ = some (.int .i64 mo0) := G5.out.r4.bc.cell 3
              have eqx4 : w15.cell? ⟨w.heap.size, 4, none⟩ = some (.slice sc n kc) := G5.out.r4.bc.cell 4
              have epx0 : w15.cell? ⟨w.heap.size + 1, 0, none⟩ = some (.int .i64 co1) := G5.out.r4.bd.cell 0
              have epx1 : w15.cell? ⟨w.heap.size + 1, 1, none⟩ = some (.int .i64 sy1) := G5.out.r4.bd.cell 1
              have epx2 : w15.cell? ⟨w.heap.size + 1, 2, none⟩ = some (.int .i64 la1) := G5.out.r4.bd.cell 2
              have epx3 : w15.cell? ⟨w.heap.size + 1, 3, none⟩ = some (.int .i64 mo1) := G5.out.r4.bd.cell 3
              have epx4 : w15.cell? ⟨w.heap.size + 1, 4, none⟩ = some (.slice sd n' kd) := G5.out.r4.bd.cell 4
              have erx0 : w15.cell? ⟨w.heap.size + 2, 0, none⟩ = some (.int .i64 c2) := G5.out.r4.bt.cell 0
              have erx1 : w15.cell? ⟨w.heap.size + 2, 1, none⟩ = some (.int .i64 d2) := G5.out.r4.bt.cell 1
              have erx2 : w15.cell? ⟨w.heap.size + 2, 2, none⟩ = some (.int .i64 t2) := G5.out.r4.bt.cell 2
              have erx3 : w15.cell? ⟨w.heap.size + 2, 3, none⟩ = some (.slice st q kt) := G5.out.r4.bt.cell 3
              have esx0 : w15.cell? ⟨w.heap.size + 3, 0, none⟩ = some (.int .i64 c3) := G5.out.r4.bu.cell 0
              have esx1 : w15.cell? ⟨w.heap.size + 3, 1, none⟩ = some (.int .i64 d3) := G5.out.r4.bu.cell 1
              have esx2 : w15.cell? ⟨w.heap.size + 3, 2, none⟩ = some (.int .i64 t3) := G5.out.r4.bu.cell 2
              have esx3 : w15.cell? ⟨w.heap.size + 3, 3, none⟩ = some (.slice su q' ku) := G5.out.r4.bu.cell 3
              go_wp2_with fail
              refine (refPutTsk_s c2 d2 t2 (.slice st q kt) m r _ G5.out.r4.env G5.out.sect LL.out.2.2.1 HR.out).mono ?_
              rintro e w16 ⟨rfl, g⟩
              have G6 : Hid (Cop4 w co0 sy0 la0 mo0 sc n kc l co1 sy1 la1 mo1 sd n' kd l' c2 d2 t2 st q kt m c3 d3 t3 su q' ku m' w16) := G5.out.below g
              clear g
              have eqx0 : w16.cell? ⟨w.heap.size, 0, none⟩ = some (.int .i64 co0) := G6.out.r4.bc.cell 0
              have eqx1 : w16.cell? ⟨w.heap.size, 1, none⟩ = some (.int .i64 sy0) := G6.out.r4.bc.cell 1
              have eqx2 : w16.cell? ⟨w.heap.size, 2, none⟩ = some (.int .i64 la0) := G6.out.r4.bc.cell 2
              have eqx3 : w16.cell? ⟨w.heap.size, 3, none⟩ = some (.int .i64 mo0) := G6.out.r4.bc.cell 3
              have eqx4 : w16.cell? ⟨w.heap.size, 4, none⟩ = some (.slice sc n kc) := G6.out.r4.bc.cell 4
              have epx0 : w16.cell? ⟨w.heap.size + 1, 0, none⟩ = some (.int .i64 co1) := G6.out.r4.bd.cell 0
              have epx1 : w16.cell? ⟨w.heap.size + 1, 1, none⟩ = some (.int .i64 sy1) := G6.out.r4.bd.cell 1
              have epx2 : w16.cell? ⟨w.heap.size + 1, 2, none⟩ = some (.int .i64 la1) := G6.out.r4.bd.cell 2
              have epx3 : w16.cell? ⟨w.heap.size + 1, 3, none⟩ = some (.int .i64 mo1) := G6.out.r4.bd.cell 3
              have epx4 : w16.cell? ⟨w.heap.size + 1, 4, none⟩ = some (.slice sd n' kd) := G6.out.r4.bd.cell 4
              have erx0 : w16.cell? ⟨w.heap.size + 2, 0, none⟩ = some (.int .i64 c2) := G6.out.r4.bt.cell 0
              have erx1 : w16.cell? ⟨w.heap.size + 2, 1, none⟩ = some (.int .i64 d2) := G6.out.r4.bt.cell 1
              have erx2 : w16.cell? ⟨w.heap.size + 2, 2, none⟩ = some (.int .i64 t2) := G6.out.r4.bt.cell 2
              have erx3 : w16.cell? ⟨w.heap.size + 2, 3, none⟩ = some (.slice st q kt) := G6.out.r4.bt.cell 3
              have esx0 : w16.cell? ⟨w.heap.size + 3, 0, none⟩ = some (.int .i64 c3) := G6.out.r4.bu.cell 0
              have esx1 : w16.cell? ⟨w.heap.size + 3, 1, none⟩ = some (.int .i64 d3) := G6.out.r4.bu.cell 1
              have esx2 : w16.cell? ⟨w.heap.size + 3, 2, none⟩ = some (.int .i64 t3) := G6.out.r4.bu.cell 2
              have esx3 : w16.cell? ⟨w.heap.size + 3, 3, none⟩ = some (.slice su q' ku) := G6.out.r4.bu.cell 3
              go_wp2_with fail
              refine (sameTsk_at c2 d2 t2 c3 d3 t3 (.slice st q kt) (.slice su q' ku) m m' _ G6.out.sect G6.out.secu LL.out.2.2.1 LL.out.2.2.2 true (decide_eq_true hv)).mono ?_
              rintro e w18 ⟨rfl, g⟩
              have G8 : Hid (Cop4 w co0 sy0 la0 mo0 sc n kc l co1 sy1 la1 mo1 sd n' kd l' c2 d2 t2 st q kt m c3 d3 t3 su q' ku m' w18) := G6.out.below g
              clear g
              have eqx0 : w18.cell? ⟨w.heap.size, 0, none⟩ = some (.int .i64 co0) := G8.out.r4.bc.cell 0
              have eqx1 : w18.cell? ⟨w.heap.size, 1, none⟩ = some (.int .i64 sy0) := G8.out.r4.bc.cell 1
              have eqx2 : w18.cell? ⟨w.heap.size, 2, none⟩ = some (.int .i64 la0) := G8.out.r4.bc.cell 2
              have eqx3 : w18.cell? ⟨w.heap.size, 3, none⟩ = some (.int .i64 mo0) := G8.out.r4.bc.cell 3
              have eqx4 : w18.cell? ⟨w.heap.size, 4, none⟩ = some (.slice sc n kc) := G8.out.r4.bc.cell 4
              have epx0 : w18.cell? ⟨w.heap.size + 1, 0, none⟩ = some (.int .i64 co1) := G8.out.r4.bd.cell 0
              have epx1 : w18.cell? ⟨w.heap.size + 1, 1, none⟩ = some (.int .i64 sy1) := G8.out.r4.bd.cell 1
              have epx2 : w18.cell? ⟨w.heap.size + 1, 2, none⟩ = some (.int .i64 la1) := G8.out.r4.bd.cell 2
              have epx3 : w18.cell? ⟨w.heap.size + 1, 3, none⟩ = some (.int .i64 mo1) := G8.out.r4.bd.cell 3
              have epx4 : w18.cell? ⟨w.heap.size + 1, 4, none⟩ = some (.slice sd n' kd) := G8.out.r4.bd.cell 4
              have erx0 : w18.cell? ⟨w.heap.size + 2, 0, none⟩ = some (.int .i64 c2) := G8.out.r4.bt.cell 0
              have erx1 : w18.cell? ⟨w.heap.size + 2, 1, none⟩ = some (.int .i64 d2) := G8.out.r4.bt.cell 1
              have erx2 : w18.cell? ⟨w.heap.size + 2, 2, none⟩ = some (.int .i64 t2) := G8.out.r4.bt.cell 2
              have erx3 : w18.cell? ⟨w.heap.size + 2, 3, none⟩ = some (.slice st q kt) := G8.out.r4.bt.cell 3
              have esx0 : w18.cell? ⟨w.heap.size + 3, 0, none⟩ = some (.int .i64 c3) := G8.out.r4.bu.cell 0
              have esx1 : w18.cell? ⟨w.heap.size + 3, 1, none⟩ = some (.int .i64 d3) := G8.out.r4.bu.cell 1
              have esx2 : w18.cell? ⟨w.heap.size + 3, 2, none⟩ = some (.int .i64 t3) := G8.out.r4.bu.cell 2
              have esx3 : w18.cell? ⟨w.heap.size + 3, 3, none⟩ = some (.slice su q' ku) := G8.out.r4.bu.cell 3
              go_wp2_with fail
              go_meet
              exact ⟨rfl, G8.out⟩
              -- ]LAC
            · -- [LAD
              obtain rfl : p = ⟨#[]⟩ := put_no HP.out hc
              have hr := putt_yes HR.out ht
              have NAhr : ¬ r.toList = [] := put_yes2 (hr)
              have NBhr : r.toList.isEmpty = false := by simpa using NAhr
              have hs := putt_yes HS.out hu
              have NAhs : ¬ r'.toList = [] := put_yes2 (hs)
              have NBhs : r'.toList.isEmpty = false := by simpa using NAhs
              have hrs := tsk_ne HR.out ht HS.out hu hv
              have k1hrs : ¬ r.toList = r'.toList := toL_ne hrs
              have k2hrs : decide (r.toList = r'.toList) = false := decide_eq_false k1hrs
              have k3hrs : (r.toList == r'.toList) = false := by simpa using k1hrs
              go_wp2_with fail
              refine (refPutCfg_s co0 sy0 la0 mo0 (.slice sc n kc) l ⟨#[]⟩ _ G4.out.r4.env G4.out.intc LL.out.1 HP.out).mono ?_
              rintro e w15 ⟨rfl, g⟩
              have G5 : Hid (Cop4 w co0 sy0 la0 mo0 sc n kc l co1 sy1 la1 mo1 sd n' kd l' c2 d2 t2 st q kt m c3 d3 t3 su q' ku m' w15) := G4.out.below g
              clear g
              have eqx0 : w15.cell? ⟨w.heap.size, 0, none⟩ = some (.int .i64 co0) := G5.out.r4.bc.cell 0
              have eqx1 : w15.cell? ⟨w.heap.size, 1, none⟩ = some (.int .i64 sy0) := G5.out.r4.bc.cell 1
              have eqx2 : w15.cell? ⟨w.heap.size, 2, none⟩ = some (.int .i64 la0) := G5.out.r4.bc.cell 2
              have eqx3 : w15.cell? ⟨w.heap.size, 3, none⟩ = some (.int .i64 mo0) := G5.out.r4.bc.cell 3
              have eqx4 : w15.cell? ⟨w.heap.size, 4, none⟩ = some (.slice sc n kc) := G5.out.r4.bc.cell 4
              have epx0 : w15.cell? ⟨w.heap.size + 1, 0, none⟩ = some (.int .i64 co1) := G5.out.r4.bd.cell 0
              have epx1 : w15.cell? ⟨w.heap.size + 1, 1, none⟩ = some (.int .i64 sy1) := G5.out.r4.bd.cell 1
              have epx2 : w15.cell? ⟨w.heap.size + 1, 2, none⟩ = some (.int .i64 la1) := G5.out.r4.bd.cell 2
              have epx3 : w15.cell? ⟨w.heap.size + 1, 3, none⟩ = some (.int .i64 mo1) := G5.out.r4.bd.cell 3
              have epx4 : w15.cell? ⟨w.heap.size + 1, 4, none⟩ = some (.slice sd n' kd) := G5.out.r4.bd.cell 4
              have erx0 : w15.cell? ⟨w.heap.size + 2, 0, none⟩ = some (.int .i64 c2) := G5.out.r4.bt.cell 0
              have erx1 : w15.cell? ⟨w.heap.size + 2, 1, none⟩ = some (.int .i64 d2) := G5.out.r4.bt.cell 1
              have erx2 : w15.cell? ⟨w.heap.size + 2, 2, none⟩ = some (.int .i64 t2) := G5.out.r4.bt.cell 2
              have erx3 : w15.cell? ⟨w.heap.size + 2, 3, none⟩ = some (.slice st q kt) := G5.out.r4.bt.cell 3
              have esx0 : w15.cell? ⟨w.heap.size + 3, 0, none⟩ = some (.int .i64 c3) := G5.out.r4.bu.cell 0
              have esx1 : w15.cell? ⟨w.heap.size + 3, 1, none⟩ = some (.int .i64 d3) := G5.out.r4.bu.cell 1
              have esx2 : w15.cell? ⟨w.heap.size + 3, 2, none⟩ = some (.int .i64 t3) := G5.out.r4.bu.cell 2
              have esx3 : w15.cell? ⟨w.heap.size + 3, 3, none⟩ = some (.slice su q' ku) := G5.out.r4.bu.cell 3
              go_wp2_with fail
              refine (refPutTsk_s c2 d2 t2 (.slice st q kt) m r _ G5.out.r4.env G5.out.sect LL.out.2.2.1 HR.out).mono ?_
              rintro e w16 ⟨rfl, g⟩
              have G6 : Hid (Cop4 w co0 sy0 la0 mo0 sc n kc l co1 sy1 la1 mo1 sd n' kd l' c2 d2 t2 st q kt m c3 d3 t3 su q' ku m' w16) := G5.out.below g
              clear g
              have eqx0 : w16.cell? ⟨w.heap.size, 0, none⟩ = some (.int .i64 co0) := G6.out.r4.bc.cell 0
              have eqx1 : w16.cell? ⟨w.heap.size, 1, none⟩ = some (.int .i64 sy0) := G6.out.r4.bc.cell 1
              have eqx2 : w16.cell? ⟨w.heap.size, 2, none⟩ = some (.int .i64 la0) := G6.out.r4.bc.cell 2
              have eqx3 : w16.cell? ⟨w.heap.size, 3, none⟩ = some (.int .i64 mo0) := G6.out.r4.bc.cell 3
              have eqx4 : w16.cell? ⟨w.heap.size, 4, none⟩ = some (.slice sc n kc) := G6.out.r4.bc.cell 4
              have epx0 : w16.cell? ⟨w.heap.size + 1, 0, none⟩ = some (.int .i64 co1) := G6.out.r4.bd.cell 0
              have epx1 : w16.cell? ⟨w.heap.size + 1, 1, none⟩ = some (.int .i64 sy1) := G6.out.r4.bd.cell 1
              have epx2 : w16.cell? ⟨w.heap.size + 1, 2, none⟩ = some (.int .i64 la1) := G6.out.r4.bd.cell 2
              have epx3 : w16.cell? ⟨w.heap.size + 1, 3, none⟩ = some (.int .i64 mo1) := G6.out.r4.bd.cell 3
              have epx4 : w16.cell? ⟨w.heap.size + 1, 4, none⟩ = some (.slice sd n' kd) := G6.out.r4.bd.cell 4
              have erx0 : w16.cell? ⟨w.heap.size + 2, 0, none⟩ = some (.int .i64 c2) := G6.out.r4.bt.cell 0
              have erx1 : w16.cell? ⟨w.heap.size + 2, 1, none⟩ = some (.int .i64 d2) := G6.out.r4.bt.cell 1
              have erx2 : w16.cell? ⟨w.heap.size + 2, 2, none⟩ = some (.int .i64 t2) := G6.out.r4.bt.cell 2
              have erx3 : w16.cell? ⟨w.heap.size + 2, 3, none⟩ = some (.slice st q kt) := G6.out.r4.bt.cell 3
              have esx0 : w16.cell? ⟨w.heap.size + 3, 0, none⟩ = some (.int .i64 c3) := G6.out.r4.bu.cell 0
              have esx1 : w16.cell? ⟨w.heap.size + 3, 1, none⟩ = some (.int .i64 d3) := G6.out.r4.bu.cell 1
              have esx2 : w16.cell? ⟨w.heap.size + 3, 2, none⟩ = some (.int .i64 t3) := G6.out.r4.bu.cell 2
              have esx3 : w16.cell? ⟨w.heap.size + 3, 3, none⟩ = some (.slice su q' ku) := G6.out.r4.bu.cell 3
              go_wp2_with fail
              refine (sameTsk_at c2 d2 t2 c3 d3 t3 (.slice st q kt) (.slice su q' ku) m m' _ G6.out.sect G6.out.secu LL.out.2.2.1 LL.out.2.2.2 false (decide_eq_false hv)).mono ?_
              rintro e w18 ⟨rfl, g⟩
              have G8 : Hid (Cop4 w co0 sy0 la0 mo0 sc n kc l co1 sy1 la1 mo1 sd n' kd l' c2 d2 t2 st q kt m c3 d3 t3 su q' ku m' w18) := G6.out.below g
              clear g
              have eqx0 : w18.cell? ⟨w.heap.size, 0, none⟩ = some (.int .i64 co0) := G8.out.r4.bc.cell 0
              have eqx1 : w18.cell? ⟨w.heap.size, 1, none⟩ = some (.int .i64 sy0) := G8.out.r4.bc.cell 1
              have eqx2 : w18.cell? ⟨w.heap.size, 2, none⟩ = some (.int .i64 la0) := G8.out.r4.bc.cell 2
              have eqx3 : w18.cell? ⟨w.heap.size, 3, none⟩ = some (.int .i64 mo0) := G8.out.r4.bc.cell 3
              have eqx4 : w18.cell? ⟨w.heap.size, 4, none⟩ = some (.slice sc n kc) := G8.out.r4.bc.cell 4
              have epx0 : w18.cell? ⟨w.heap.size + 1, 0, none⟩ = some (.int .i64 co1) := G8.out.r4.bd.cell 0
              have epx1 : w18.cell? ⟨w.heap.size + 1, 1, none⟩ = some (.int .i64 sy1) := G8.out.r4.bd.cell 1
              have epx2 : w18.cell? ⟨w.heap.size + 1, 2, none⟩ = some (.int .i64 la1) := G8.out.r4.bd.cell 2
              have epx3 : w18.cell? ⟨w.heap.size + 1, 3, none⟩ = some (.int .i64 mo1) := G8.out.r4.bd.cell 3
              have epx4 : w18.cell? ⟨w.heap.size + 1, 4, none⟩ = some (.slice sd n' kd) := G8.out.r4.bd.cell 4
              have erx0 : w18.cell? ⟨w.heap.size + 2, 0, none⟩ = some (.int .i64 c2) := G8.out.r4.bt.cell 0
              have erx1 : w18.cell? ⟨w.heap.size + 2, 1, none⟩ = some (.int .i64 d2) := G8.out.r4.bt.cell 1
              have erx2 : w18.cell? ⟨w.heap.size + 2, 2, none⟩ = some (.int .i64 t2) := G8.out.r4.bt.cell 2
              have erx3 : w18.cell? ⟨w.heap.size + 2, 3, none⟩ = some (.slice st q kt) := G8.out.r4.bt.cell 3
              have esx0 : w18.cell? ⟨w.heap.size + 3, 0, none⟩ = some (.int .i64 c3) := G8.out.r4.bu.cell 0
              have esx1 : w18.cell? ⟨w.heap.size + 3, 1, none⟩ = some (.int .i64 d3) := G8.out.r4.bu.cell 1
              have esx2 : w18.cell? ⟨w.heap.size + 3, 2, none⟩ = some (.int .i64 t3) := G8.out.r4.bu.cell 2
              have esx3 : w18.cell? ⟨w.heap.size + 3, 3, none⟩ = some (.slice su q' ku) := G8.out.r4.bu.cell 3
              go_wp2_with fail
              go_meet
              exact ⟨rfl, G8.out⟩
              -- ]LAD
      · cases hd : cfgB (⟨co1, sy1, la1, mo1, l'⟩ : Cfg)
        · cases ht : tskB 6 (⟨c2, d2, t2, m⟩ : Tsk)
          · -- [LBA
            have hp := put_yes HP.out hc
            have NAhp : ¬ p.toList = [] := put_yes2 (hp)
            have NBhp : p.toList.isEmpty = false := by simpa using NAhp
            obtain rfl : p' = ⟨#[]⟩ := put_no HQ.out hd
            obtain rfl : r = ⟨#[]⟩ := putt_no HR.out ht
            go_wp2_with fail
            refine (refPutCfg_s co0 sy0 la0 mo0 (.slice sc n kc) l p _ G4.out.r4.env G4.out.intc LL.out.1 HP.out).mono ?_
            rintro e w15 ⟨rfl, g⟩
            have G5 : Hid (Cop4 w co0 sy0 la0 mo0 sc n kc l co1 sy1 la1 mo1 sd n' kd l' c2 d2 t2 st q kt m c3 d3 t3 su q' ku m' w15) := G4.out.below g
            clear g
            have eqx0 : w15.cell? ⟨w.heap.size, 0, none⟩ = some (.int .i64 co0) := G5.out.r4.bc.cell 0
            have eqx1 : w15.cell? ⟨w.heap.size, 1, none⟩ = some (.int .i64 sy0) := G5.out.r4.bc.cell 1
            have eqx2 : w15.cell? ⟨w.heap.size, 2, none⟩ = some (.int .i64 la0) := G5.out.r4.bc.cell 2
            have eqx3 : w15.cell? ⟨w.heap.size, 3, none⟩ = some (.int .i64 mo0) := G5.out.r4.bc.cell 3
            have eqx4 : w15.cell? ⟨w.heap.size, 4, none⟩ = some (.slice sc n kc) := G5.out.r4.bc.cell 4
            have epx0 : w15.cell? ⟨w.heap.size + 1, 0, none⟩ = some (.int .i64 co1) := G5.out.r4.bd.cell 0
            have epx1 : w15.cell? ⟨w.heap.size + 1, 1, none⟩ = some (.int .i64 sy1) := G5.out.r4.bd.cell 1
            have epx2 : w15.cell? ⟨w.heap.size + 1, 2, none⟩ = some (.int .i64 la1) := G5.out.r4.bd.cell 2
            have epx3 : w15.cell? ⟨w.heap.size + 1, 3, none⟩ = some (.int .i64 mo1) := G5.out.r4.bd.cell 3
            have epx4 : w15.cell? ⟨w.heap.size + 1, 4, none⟩ = some (.slice sd n' kd) := G5.out.r4.bd.cell 4
            have erx0 : w15.cell? ⟨w.heap.size + 2, 0, none⟩ = some (.int .i64 c2) := G5.out.r4.bt.cell 0
            have erx1 : w15.cell? ⟨w.heap.size + 2, 1, none⟩ = some (.int .i64 d2) := G5.out.r4.bt.cell 1
            have erx2 : w15.cell? ⟨w.heap.size + 2, 2, none⟩ = some (.int .i64 t2) := G5.out.r4.bt.cell 2
            have erx3 : w15.cell? ⟨w.heap.size + 2, 3, none⟩ = some (.slice st q kt) := G5.out.r4.bt.cell 3
            have esx0 : w15.cell? ⟨w.heap.size + 3, 0, none⟩ = some (.int .i64 c3) := G5.out.r4.bu.cell 0
            have esx1 : w15.cell? ⟨w.heap.size + 3, 1, none⟩ = some (.int .i64 d3) := G5.out.r4.bu.cell 1
            have esx2 : w15.cell? ⟨w.heap.size + 3, 2, none⟩ = some (.int .i64 t3) := G5.out.r4.bu.cell 2
            have esx3 : w15.cell? ⟨w.heap.size + 3, 3, none⟩ = some (.slice su q' ku) := G5.out.r4.bu.cell 3
            go_wp2_with fail
            refine (refPutTsk_s c2 d2 t2 (.slice st q kt) m ⟨#[]⟩ _ G5.out.r4.env G5.out.sect LL.out.2.2.1 HR.out).mono ?_
            rintro e w16 ⟨rfl, g⟩
            have G6 : Hid (Cop4 w co0 sy0 la0 mo0 sc n kc l co1 sy1 la1 mo1 sd n' kd l' c2 d2 t2 st q kt m c3 d3 t3 su q' ku m' w16) := G5.out.below g
            clear g
            have eqx0 : w16.cell? ⟨w.heap.size, 0, none⟩ = some (.int .i64 co0) := G6.out.r4.bc.cell 0
            have eqx1 : w16.cell? ⟨w.heap.size, 1, none⟩ = some (.int .i64 sy0) := G6.out.r4.bc.cell 1
            have eqx2 : w16.cell? ⟨w.heap.size, 2, none⟩ = some (.int .i64 la0) := G6.out.r4.bc.cell 2
            have eqx3 : w16.cell? ⟨w.heap.size, 3, none⟩ = some (.int .i64 mo0) := G6.out.r4.bc.cell 3
            have eqx4 : w16.cell? ⟨w.heap.size, 4, none⟩ = some (.slice sc n kc) := G6.out.r4.bc.cell 4
            have epx0 : w16.cell? ⟨w.heap.size + 1, 0, none⟩ = some (.int .i64 co1) := G6.out.r4.bd.cell 0
            have epx1 : w16.cell? ⟨w.heap.size + 1, 1, none⟩ = some (.int .i64 sy1) := G6.out.r4.bd.cell 1
            have epx2 : w16.cell? ⟨w.heap.size + 1, 2, none⟩ = some (.int .i64 la1) := G6.out.r4.bd.cell 2
            have epx3 : w16.cell? ⟨w.heap.size + 1, 3, none⟩ = some (.int .i64 mo1) := G6.out.r4.bd.cell 3
            have epx4 : w16.cell? ⟨w.heap.size + 1, 4, none⟩ = some (.slice sd n' kd) := G6.out.r4.bd.cell 4
            have erx0 : w16.cell? ⟨w.heap.size + 2, 0, none⟩ = some (.int .i64 c2) := G6.out.r4.bt.cell 0
            have erx1 : w16.cell? ⟨w.heap.size + 2, 1, none⟩ = some (.int .i64 d2) := G6.out.r4.bt.cell 1
            have erx2 : w16.cell? ⟨w.heap.size + 2, 2, none⟩ = some (.int .i64 t2) := G6.out.r4.bt.cell 2
            have erx3 : w16.cell? ⟨w.heap.size + 2, 3, none⟩ = some (.slice st q kt) := G6.out.r4.bt.cell 3
            have esx0 : w16.cell? ⟨w.heap.size + 3, 0, none⟩ = some (.int .i64 c3) := G6.out.r4.bu.cell 0
            have esx1 : w16.cell? ⟨w.heap.size + 3, 1, none⟩ = some (.int .i64 d3) := G6.out.r4.bu.cell 1
            have esx2 : w16.cell? ⟨w.heap.size + 3, 2, none⟩ = some (.int .i64 t3) := G6.out.r4.bu.cell 2
            have esx3 : w16.cell? ⟨w.heap.size + 3, 3, none⟩ = some (.slice su q' ku) := G6.out.r4.bu.cell 3
            go_wp2_with fail
            go_meet
            exact ⟨rfl, G6.out⟩
            -- ]LBA
          · cases hu : tskB 6 (⟨c3, d3, t3, m'⟩ : Tsk)
            · -- [LBB
              have hp := put_yes HP.out hc
              have NAhp : ¬ p.toList = [] := put_yes2 (hp)
              have NBhp : p.toList.isEmpty = false := by simpa using NAhp
              obtain rfl : p' = ⟨#[]⟩ := put_no HQ.out hd
              have hr := putt_yes HR.out ht
              have NAhr : ¬ r.toList = [] := put_yes2 (hr)
              have NBhr : r.toList.isEmpty = false := by simpa using NAhr
              obtain rfl : r' = ⟨#[]⟩ := putt_no HS.out hu
              go_wp2_with fail
              refine (refPutCfg_s co0 sy0 la0 mo0 (.slice sc n kc) l p _ G4.out.r4.env G4.out.intc LL.out.1 HP.out).mono ?_
              rintro e w15 ⟨rfl, g⟩
              have G5 : Hid (Cop4 w co0 sy0 la0 mo0 sc n kc l co1 sy1 la1 mo1 sd n' kd l' c2 d2 t2 st q kt m c3 d3 t3 su q' ku m' w15) := G4.out.below g
              clear g
              have eqx0 : w15.cell? ⟨w.heap.size, 0, none⟩ = some (.int .i64 co0) := G5.out.r4.bc.cell 0
              have eqx1 : w15.cell? ⟨w.heap.size, 1, none⟩ = some (.int .i64 sy0) := G5.out.r4.bc.cell 1
              have eqx2 : w15.cell? ⟨w.heap.size, 2, none⟩ = some (.int .i64 la0) := G5.out.r4.bc.cell 2
              have eqx3 : w15.cell? ⟨w.heap.size, 3, none⟩ = some (.int .i64 mo0) := G5.out.r4.bc.cell 3
              have eqx4 : w15.cell? ⟨w.heap.size, 4, none⟩ = some (.slice sc n kc) := G5.out.r4.bc.cell 4
              have epx0 : w15.cell? ⟨w.heap.size + 1, 0, none⟩ = some (.int .i64 co1) := G5.out.r4.bd.cell 0
              have epx1 : w15.cell? ⟨w.heap.size + 1, 1, none⟩ = some (.int .i64 sy1) := G5.out.r4.bd.cell 1
              have epx2 : w15.cell? ⟨w.heap.size + 1, 2, none⟩ = some (.int .i64 la1) := G5.out.r4.bd.cell 2
              have epx3 : w15.cell? ⟨w.heap.size + 1, 3, none⟩ = some (.int .i64 mo1) := G5.out.r4.bd.cell 3
              have epx4 : w15.cell? ⟨w.heap.size + 1, 4, none⟩ = some (.slice sd n' kd) := G5.out.r4.bd.cell 4
              have erx0 : w15.cell? ⟨w.heap.size + 2, 0, none⟩ = some (.int .i64 c2) := G5.out.r4.bt.cell 0
              have erx1 : w15.cell? ⟨w.heap.size + 2, 1, none⟩ = some (.int .i64 d2) := G5.out.r4.bt.cell 1
              have erx2 : w15.cell? ⟨w.heap.size + 2, 2, none⟩ = some (.int .i64 t2) := G5.out.r4.bt.cell 2
              have erx3 : w15.cell? ⟨w.heap.size + 2, 3, none⟩ = some (.slice st q kt) := G5.out.r4.bt.cell 3
              have esx0 : w15.cell? ⟨w.heap.size + 3, 0, none⟩ = some (.int .i64 c3) := G5.out.r4.bu.cell 0
              have esx1 : w15.cell? ⟨w.heap.size + 3, 1, none⟩ = some (.int .i64 d3) := G5.out.r4.bu.cell 1
              have esx2 : w15.cell? ⟨w.heap.size + 3, 2, none⟩ = some (.int .i64 t3) := G5.out.r4.bu.cell 2
              have esx3 : w15.cell? ⟨w.heap.size + 3, 3, none⟩ = some (.slice su q' ku) := G5.out.r4.bu.cell 3
              go_wp2_with fail
              refine (refPutTsk_s c2 d2 t2 (.slice st q kt) m r _ G5.out.r4.env G5.out.sect LL.out.2.2.1 HR.out).mono ?_
              rintro e w16 ⟨rfl, g⟩
              have G6 : Hid (Cop4 w co0 sy0 la0 mo0 sc n kc l co1 sy1 la1 mo1 sd n' kd l' c2 d2 t2 st q kt m c3 d3 t3 su q' ku m' w16) := G5.out.below g
              clear g
              have eqx0 : w16.cell? ⟨w.heap.size, 0, none⟩ = some (.int .i64 co0) := G6.out.r4.bc.cell 0
              have eqx1 : w16.cell? ⟨w.heap.size, 1, none⟩ = some (.int .i64 sy0) := G6.out.r4.bc.cell 1
              have eqx2 : w16.cell? ⟨w.heap.size, 2, none⟩ = some (.int .i64 la0) := G6.out.r4.bc.cell 2
              have eqx3 : w16.cell? ⟨w.heap.size, 3, none⟩ = some (.int .i64 mo0) := G6.out.r4.bc.cell 3
              have eqx4 : w16.cell? ⟨w.heap.size, 4, none⟩ = some (.slice sc n kc) := G6.out.r4.bc.cell 4
              have epx0 : w16.cell? ⟨w.heap.size + 1, 0, none⟩ = some (.int .i64 co1) := G6.out.r4.bd.cell 0
              have epx1 : w16.cell? ⟨w.heap.size + 1, 1, none⟩ = some (.int .i64 sy1) := G6.out.r4.bd.cell 1
              have epx2 : w16.cell? ⟨w.heap.size + 1, 2, none⟩ = some (.int .i64 la1) := G6.out.r4.bd.cell 2
              have epx3 : w16.cell? ⟨w.heap.size + 1, 3, none⟩ = some (.int .i64 mo1) := G6.out.r4.bd.cell 3
              have epx4 : w16.cell? ⟨w.heap.size + 1, 4, none⟩ = some (.slice sd n' kd) := G6.out.r4.bd.cell 4
              have erx0 : w16.cell? ⟨w.heap.size + 2, 0, none⟩ = some (.int .i64 c2) := G6.out.r4.bt.cell 0
              have erx1 : w16.cell? ⟨w.heap.size + 2, 1, none⟩ = some (.int .i64 d2) := G6.out.r4.bt.cell 1
              have erx2 : w16.cell? ⟨w.heap.size + 2, 2, none⟩ = some (.int .i64 t2) := G6.out.r4.bt.cell 2
              have erx3 : w16.cell? ⟨w.heap.size + 2, 3, none⟩ = some (.slice st q kt) := G6.out.r4.bt.cell 3
              have esx0 : w16.cell? ⟨w.heap.size + 3, 0, none⟩ = some (.int .i64 c3) := G6.out.r4.bu.cell 0
              have esx1 : w16.cell? ⟨w.heap.size + 3, 1, none⟩ = some (.int .i64 d3) := G6.out.r4.bu.cell 1
              have esx2 : w16.cell? ⟨w.heap.size + 3, 2, none⟩ = some (.int .i64 t3) := G6.out.r4.bu.cell 2
              have esx3 : w16.cell? ⟨w.heap.size + 3, 3, none⟩ = some (.slice su q' ku) := G6.out.r4.bu.cell 3
              go_wp2_with fail
              go_meet
              exact ⟨rfl, G6.out⟩
              -- ]LBB
            · by_cases hv : (⟨c2, d2, t2, m⟩ : Tsk) = (⟨c3, d3, t3, m'⟩ : Tsk)
              · -- [LBC
                have hp := put_yes HP.out hc
                have NAhp : ¬ p.toList = [] := put_yes2 (hp)
                have NBhp : p.toList.isEmpty = false := by simpa using NAhp
                obtain rfl : p' = ⟨#[]⟩ := put_no HQ.out hd
                have hr := putt_yes HR.out ht
                have NAhr : ¬ r.toList = [] := put_yes2 (hr)
                have NBhr : r.toList.isEmpty = false := by simpa using NAhr
                have hs := putt_yes HS.out hu
                have NAhs : ¬ r'.toList = [] := put_yes2 (hs)
                have NBhs : r'.toList.isEmpty = false := by simpa using NAhs
                obtain rfl := tsk_alike HR.out HS.out hv
                go_wp2_with fail
                refine (refPutCfg_s co0 sy0 la0 mo0 (.slice sc n kc) l p _ G4.out.r4.env G4.out.intc LL.out.1 HP.out).mono ?_
                rintro e w15 ⟨rfl, g⟩
                have G5 : Hid (Cop4 w co0 sy0 la0 mo0 sc n kc l co1 sy1 la1 mo1 sd n' kd l' c2 d2 t2 st q kt m c3 d3 t3 su q' ku m' w15) := G4.out.below g
                clear g
                have eqx0 : w15.cell? ⟨w.heap.size, 0, none⟩ = some (.int .i64 co0) := G5.out.r4.bc.cell 0
                have eqx1 : w15.cell? ⟨w.heap.size, 1, none⟩ = some (.int .i64 sy0) := G5.out.r4.bc.cell 1
                have eqx2 : w15.cell? ⟨w.heap.size, 2, none⟩ = some (.int .i64 la0) := G5.out.r4.bc.cell 2
                have eqx3 : w15.cell? ⟨w.heap.size, 3, none⟩ = some (.int .i64 mo0) := G5.out.r4.bc.cell 3
                have eqx4 : w15.cell? ⟨w.heap.size, 4, none⟩ = some (.slice sc n kc) := G5.out.r4.bc.cell 4
                have epx0 : w15.cell? ⟨w.heap.size + 1, 0, none⟩ = some (.int .i64 co1) := G5.out.r4.bd.cell 0
                have epx1 : w15.cell? ⟨w.heap.size + 1, 1, none⟩ = some (.int .i64 sy1) := G5.out.r4.bd.cell 1
                have epx2 : w15.cell? ⟨w.heap.size + 1, 2, none⟩ = some (.int .i64 la1) := G5.out.r4.bd.cell 2
                have epx3 : w15.cell? ⟨w.heap.size + 1, 3, none⟩ = some (.int .i64 mo1) := G5.out.r4.bd.cell 3
                have epx4 : w15.cell? ⟨w.heap.size + 1, 4, none⟩ = some (.slice sd n' kd) := G5.out.r4.bd.cell 4
                have erx0 : w15.cell? ⟨w.heap.size + 2, 0, none⟩ = some (.int .i64 c2) := G5.out.r4.bt.cell 0
                have erx1 : w15.cell? ⟨w.heap.size + 2, 1, none⟩ = some (.int .i64 d2) := G5.out.r4.bt.cell 1
                have erx2 : w15.cell? ⟨w.heap.size + 2, 2, none⟩ = some (.int .i64 t2) := G5.out.r4.bt.cell 2
                have erx3 : w15.cell? ⟨w.heap.size + 2, 3, none⟩ = some (.slice st q kt) := G5.out.r4.bt.cell 3
                have esx0 : w15.cell? ⟨w.heap.size + 3, 0, none⟩ = some (.int .i64 c3) := G5.out.r4.bu.cell 0
                have esx1 : w15.cell? ⟨w.heap.size + 3, 1, none⟩ = some (.int .i64 d3) := G5.out.r4.bu.cell 1
                have esx2 : w15.cell? ⟨w.heap.size + 3, 2, none⟩ = some (.int .i64 t3) := G5.out.r4.bu.cell 2
                have esx3 : w15.cell? ⟨w.heap.size + 3, 3, none⟩ = some (.slice su q' ku) := G5.out.r4.bu.cell 3
                go_wp2_with fail
                refine (refPutTsk_s c2 d2 t2 (.slice st q kt) m r _ G5.out.r4.env G5.out.sect LL.out.2.2.1 HR.out).mono ?_
                rintro e w16 ⟨rfl, g⟩
                have G6 : Hid (Cop4 w co0 sy0 la0 mo0 sc n kc l co1 sy1 la1 mo1 sd n' kd l' c2 d2 t2 st q kt m c3 d3 t3 su q' ku m' w16) := G5.out.below g
                clear g
                have eqx0 : w16.cell? ⟨w.heap.size, 0, none⟩ = some (.int .i64 co0) := G6.out.r4.bc.cell 0
                have eqx1 : w16.cell? ⟨w.heap.size, 1, none⟩ = some (.int .i64 sy0) := G6.out.r4.bc.cell 1
                have eqx2 : w16.cell? ⟨w.heap.size, 2, none⟩ = some (.int .i64 la0) := G6.out.r4.bc.cell 2
                have eqx3 : w16.cell? ⟨w.heap.size, 3, none⟩ = some (.int .i64 mo0) := G6.out.r4.bc.cell 3
                have eqx4 : w16.cell? ⟨w.heap.size, 4, none⟩ = some (.slice sc n kc) := G6.out.r4.bc.cell 4
                have epx0 : w16.cell? ⟨w.heap.size + 1, 0, none⟩ = some (.int .i64 co1) := G6.out.r4.bd.cell 0
                have epx1 : w16.cell? ⟨w.heap.size + 1, 1, none⟩ = some (.int .i64 sy1) := G6.out.r4.bd.cell 1
                have epx2 : w16.cell? ⟨w.heap.size + 1, 2, none⟩ = some (.int .i64 la1) := G6.out.r4.bd.cell 2
                have epx3 : w16.cell? ⟨w.heap.size + 1, 3, none⟩ = some (.int .i64 mo1) := G6.out.r4.bd.cell 3
                have epx4 : w16.cell? ⟨w.heap.size + 1, 4, none⟩ = some (.slice sd n' kd) := G6.out.r4.bd.cell 4
                have erx0 : w16.cell? ⟨w.heap.size + 2, 0, none⟩ = some (.int .i64 c2) := G6.out.r4.bt.cell 0
                have erx1 : w16.cell? ⟨w.heap.size + 2, 1, none⟩ = some (.int .i64 d2) := G6.out.r4.bt.cell 1
                have erx2 : w16.cell? ⟨w.heap.size + 2, 2, none⟩ = some (.int .i64 t2) := G6.out.r4.bt.cell 2
                have erx3 : w16.cell? ⟨w.heap.size + 2, 3, none⟩ = some (.slice st q kt) := G6.out.r4.bt.cell 3
                have esx0 : w16.cell? ⟨w.heap.size + 3, 0, none⟩ = some (.int .i64 c3) := G6.out.r4.bu.cell 0
                have esx1 : w16.cell? ⟨w.heap.size + 3, 1, none⟩ = some (.int .i64 d3) := G6.out.r4.bu.cell 1
                have esx2 : w16.cell? ⟨w.heap.size + 3, 2, none⟩ = some (.int .i64 t3) := G6.out.r4.bu.cell 2
                have esx3 : w16.cell? ⟨w.heap.size + 3, 3, none⟩ = some (.slice su q' ku) := G6.out.r4.bu.cell 3
                go_wp2_with fail
                refine (sameTsk_at c2 d2 t2 c3 d3 t3 (.slice st q kt) (.slice su q' ku) m m' _ G6.out.sect G6.out.secu LL.out.2.2.1 LL.out.2.2.2 true (decide_eq_true hv)).mono ?_
                rintro e w18 ⟨rfl, g⟩
                have G8 : Hid (Cop4 w co0 sy0 la0 mo0 sc n kc l co1 sy1 la1 mo1 sd n' kd l' c2 d2 t2 st q kt m c3 d3 t3 su q' ku m' w18) := G6.out.below g
                clear g
                have eqx0 : w18.cell? ⟨w.heap.size, 0, none⟩ = some (.int .i64 co0) := G8.out.r4.bc.cell 0
                have eqx1 : w18.cell? ⟨w.heap.size, 1, none⟩ = some (.int .i64 sy0) := G8.out.r4.bc.cell 1
                have eqx2 : w18.cell? ⟨w.heap.size, 2, none⟩ = some (.int .i64 la0) := G8.out.r4.bc.cell 2
                have eqx3 : w18.cell? ⟨w.heap.size, 3, none⟩ = some (.int .i64 mo0) := G8.out.r4.bc.cell 3
                have eqx4 : w18.cell? ⟨w.heap.size, 4, none⟩ = some (.slice sc n kc) := G8.out.r4.bc.cell 4
                have epx0 : w18.cell? ⟨w.heap.size + 1, 0, none⟩ = some (.int .i64 co1) := G8.out.r4.bd.cell 0
                have epx1 : w18.cell? ⟨w.heap.size + 1, 1, none⟩ = some (.int .i64 sy1) := G8.out.r4.bd.cell 1
                have epx2 : w18.cell? ⟨w.heap.size + 1, 2, none⟩ = some (.int .i64 la1) := G8.out.r4.bd.cell 2
                have epx3 : w18.cell? ⟨w.heap.size + 1, 3, none⟩ = some (.int .i64 mo1) := G8.out.r4.bd.cell 3
                have epx4 : w18.cell? ⟨w.heap.size + 1, 4, none⟩ = some (.slice sd n' kd) := G8.out.r4.bd.cell 4
                have erx0 : w18.cell? ⟨w.heap.size + 2, 0, none⟩ = some (.int .i64 c2) := G8.out.r4.bt.cell 0
                have erx1 : w18.cell? ⟨w.heap.size + 2, 1, none⟩ = some (.int .i64 d2) := G8.out.r4.bt.cell 1
                have erx2 : w18.cell? ⟨w.heap.size + 2, 2, none⟩ = some (.int .i64 t2) := G8.out.r4.bt.cell 2
                have erx3 : w18.cell? ⟨w.heap.size + 2, 3, none⟩ = some (.slice st q kt) := G8.out.r4.bt.cell 3
                have esx0 : w18.cell? ⟨w.heap.size + 3, 0, none⟩ = some (.int .i64 c3) := G8.out.r4.bu.cell 0
                have esx1 : w18.cell? ⟨w.heap.size + 3, 1, none⟩ = some (.int .i64 d3) := G8.out.r4.bu.cell 1
                have esx2 : w18.cell? ⟨w.heap.size + 3, 2, none⟩ = some (.int .i64 t3) := G8.out.r4.bu.cell 2
                have esx3 : w18.cell? ⟨w.heap.size + 3, 3, none⟩ = some (.slice su q' ku) := G8.out.r4.bu.cell 3
                go_wp2_with fail
                go_meet
                exact ⟨rfl, G8.out⟩
                -- ]LBC
              · -- [LBD
                have hp := put_yes HP.out hc
                have NAhp : ¬ p.toList = [] := put_yes2 (hp)
                have NBhp : p.toList.isEmpty = false := by simpa using NAhp
                obtain rfl : p' = ⟨#[]⟩ := put_no HQ.out hd
                have hr := putt_yes HR.out ht
                have NAhr : ¬ r.toList = [] := put_yes2 (hr)
                have NBhr : r.toList.isEmpty = false := by simpa using NAhr
                have hs := putt_yes HS.out hu
                have NAhs : ¬ r'.toList = [] := put_yes2 (hs)
                have NBhs : r'.toList.isEmpty = false := by simpa using NAhs
                have hrs := tsk_ne HR.out ht HS.out hu hv
                have k1hrs : ¬ r.toList = r'.toList := toL_ne hrs
                have k2hrs : decide (r.toList = r'.toList) = false := decide_eq_false k1hrs
                have k3hrs : (r.toList == r'.toList) = false := by simpa using k1hrs
                go_wp2_with fail
                refine (refPutCfg_s co0 sy0 la0 mo0 (.slice sc n kc) l p _ G4.out.r4.env G4.out.intc LL.out.1 HP.out).mono ?_
                rintro e w15 ⟨rfl, g⟩
                have G5 : Hid (Cop4 w co0 sy0 la0 mo0 sc n kc l co1 sy1 la1 mo1 sd n' kd l' c2 d2 t2 st q kt m c3 d3 t3 su q' ku m' w15) := G4.out.below g
                clear g
                have eqx0 : w15.cell? ⟨w.heap.size, 0, none⟩ = some (.int .i64 co0) := G5.out.r4.bc.cell 0
                have eqx1 : w15.cell? ⟨w.heap.size, 1, none⟩ = some (.int .i64 sy0) := G5.out.r4.bc.cell 1
                have eqx2 : w15.cell? ⟨w.heap.size, 2, none⟩ = some (.int .i64 la0) := G5.out.r4.bc.cell 2
                have eqx3 : w15.cell? ⟨w.heap.size, 3, none⟩ = some (.int .i64 mo0) := G5.out.r4.bc.cell 3
                have eqx4 : w15.cell? ⟨w.heap.size, 4, none⟩ = some (.slice sc n kc) := G5.out.r4.bc.cell 4
                have epx0 : w15.cell? ⟨w.heap.size + 1, 0, none⟩ = some (.int .i64 co1) := G5.out.r4.bd.cell 0
                have epx1 : w15.cell? ⟨w.heap.size + 1, 1, none⟩ = some (.int .i64 sy1) := G5.out.r4.bd.cell 1
                have epx2 : w15.cell? ⟨w.heap.size + 1, 2, none⟩ = some (.int .i64 la1) := G5.out.r4.bd.cell 2
                have epx3 : w15.cell? ⟨w.heap.size + 1, 3, none⟩ = some (.int .i64 mo1) := G5.out.r4.bd.cell 3
                have epx4 : w15.cell? ⟨w.heap.size + 1, 4, none⟩ = some (.slice sd n' kd) := G5.out.r4.bd.cell 4
                have erx0 : w15.cell? ⟨w.heap.size + 2, 0, none⟩ = some (.int .i64 c2) := G5.out.r4.bt.cell 0
                have erx1 : w15.cell? ⟨w.heap.size + 2, 1, none⟩ = some (.int .i64 d2) := G5.out.r4.bt.cell 1
                have erx2 : w15.cell? ⟨w.heap.size + 2, 2, none⟩ = some (.int .i64 t2) := G5.out.r4.bt.cell 2
                have erx3 : w15.cell? ⟨w.heap.size + 2, 3, none⟩ = some (.slice st q kt) := G5.out.r4.bt.cell 3
                have esx0 : w15.cell? ⟨w.heap.size + 3, 0, none⟩ = some (.int .i64 c3) := G5.out.r4.bu.cell 0
                have esx1 : w15.cell? ⟨w.heap.size + 3, 1, none⟩ = some (.int .i64 d3) := G5.out.r4.bu.cell 1
                have esx2 : w15.cell? ⟨w.heap.size + 3, 2, none⟩ = some (.int .i64 t3) := G5.out.r4.bu.cell 2
                have esx3 : w15.cell? ⟨w.heap.size + 3, 3, none⟩ = some (.slice su q' ku) := G5.out.r4.bu.cell 3
                go_wp2_with fail
                refine (refPutTsk_s c2 d2 t2 (.slice st q kt) m r _ G5.out.r4.env G5.out.sect LL.out.2.2.1 HR.out).mono ?_
                rintro e w16 ⟨rfl, g⟩
                have G6 : Hid (Cop4 w co0 sy0 la0 mo0 sc n kc l co1 sy1 la1 mo1 sd n' kd l' c2 d2 t2 st q kt m c3 d3 t3 su q' ku m' w16) := G5.out.below g
                clear g
                have eqx0 : w16.cell? ⟨w.heap.size, 0, none⟩ = some (.int .i64 co0) := G6.out.r4.bc.cell 0
                have eqx1 : w16.cell? ⟨w.heap.size, 1, none⟩ = some (.int .i64 sy0) := G6.out.r4.bc.cell 1
                have eqx2 : w16.cell? ⟨w.heap.size, 2, none⟩ = some (.int .i64 la0) := G6.out.r4.bc.cell 2
                have eqx3 : w16.cell? ⟨w.heap.size, 3, none⟩ = some (.int .i64 mo0) := G6.out.r4.bc.cell 3
                have eqx4 : w16.cell? ⟨w.heap.size, 4, none⟩ = some (.slice sc n kc) := G6.out.r4.bc.cell 4
                have epx0 : w16.cell? ⟨w.heap.size + 1, 0, none⟩ = some (.int .i64 co1) := G6.out.r4.bd.cell 0
                have epx1 : w16.cell? ⟨w.heap.size + 1, 1, none⟩ = some (.int .i64 sy1) := G6.out.r4.bd.cell 1
                have epx2 : w16.cell? ⟨w.heap.size + 1, 2, none⟩ = some (.int .i64 la1) := G6.out.r4.bd.cell 2
                have epx3 : w16.cell? ⟨w.heap.size + 1, 3, none⟩ = some (.int .i64 mo1) := G6.out.r4.bd.cell 3
                have epx4 : w16.cell? ⟨w.heap.size + 1, 4, none⟩ = some (.slice sd n' kd) := G6.out.r4.bd.cell 4
                have erx0 : w16.cell? ⟨w.heap.size + 2, 0, none⟩ = some (.int .i64 c2) := G6.out.r4.bt.cell 0
                have erx1 : w16.cell? ⟨w.heap.size + 2, 1, none⟩ = some (.int .i64 d2) := G6.out.r4.bt.cell 1
                have erx2 : w16.cell? ⟨w.heap.size + 2, 2, none⟩ = some (.int .i64 t2) := G6.out.r4.bt.cell 2
                have erx3 : w16.cell? ⟨w.heap.size + 2, 3, none⟩ = some (.slice st q kt) := G6.out.r4.bt.cell 3
                have esx0 : w16.cell? ⟨w.heap.size + 3, 0, none⟩ = some (.int .i64 c3) := G6.out.r4.bu.cell 0
                have esx1 : w16.cell? ⟨w.heap.size + 3, 1, none⟩ = some (.int .i64 d3) := G6.out.r4.bu.cell 1
                have esx2 : w16.cell? ⟨w.heap.size + 3, 2, none⟩ = some (.int .i64 t3) := G6.out.r4.bu.cell 2
                have esx3 : w16.cell? ⟨w.heap.size + 3, 3, none⟩ = some (.slice su q' ku) := G6.out.r4.bu.cell 3
                go_wp2_with fail
                refine (sameTsk_at c2 d2 t2 c3 d3 t3 (.slice st q kt) (.slice su q' ku) m m' _ G6.out.sect G6.out.secu LL.out.2.2.1 LL.out.2.2.2 false (decide_eq_false hv)).mono ?_
                rintro e w18 ⟨rfl, g⟩
                have G8 : Hid (Cop4 w co0 sy0 la0 mo0 sc n kc l co1 sy1 la1 mo1 sd n' kd l' c2 d2 t2 st q kt m c3 d3 t3 su q' ku m' w18) := G6.out.below g
                clear g
                have eqx0 : w18.cell? ⟨w.heap.size, 0, none⟩ = some (.int .i64 co0) := G8.out.r4.bc.cell 0
                have eqx1 : w18.cell? ⟨w.heap.size, 1, none⟩ = some (.int .i64 sy0) := G8.out.r4.bc.cell 1
                have eqx2 : w18.cell? ⟨w.heap.size, 2, none⟩ = some (.int .i64 la0) := G8.out.r4.bc.cell 2
                have eqx3 : w18.cell? ⟨w.heap.size, 3, none⟩ = some (.int .i64 mo0) := G8.out.r4.bc.cell 3
                have eqx4 : w18.cell? ⟨w.heap.size, 4, none⟩ = some (.slice sc n kc) := G8.out.r4.bc.cell 4
                have epx0 : w18.cell? ⟨w.heap.size + 1, 0, none⟩ = some (.int .i64 co1) := G8.out.r4.bd.cell 0
                have epx1 : w18.cell? ⟨w.heap.size + 1, 1, none⟩ = some (.int .i64 sy1) := G8.out.r4.bd.cell 1
                have epx2 : w18.cell? ⟨w.heap.size + 1, 2, none⟩ = some (.int .i64 la1) := G8.out.r4.bd.cell 2
                have epx3 : w18.cell? ⟨w.heap.size + 1, 3, none⟩ = some (.int .i64 mo1) := G8.out.r4.bd.cell 3
                have epx4 : w18.cell? ⟨w.heap.size + 1, 4, none⟩ = some (.slice sd n' kd) := G8.out.r4.bd.cell 4
                have erx0 : w18.cell? ⟨w.heap.size + 2, 0, none⟩ = some (.int .i64 c2) := G8.out.r4.bt.cell 0
                have erx1 : w18.cell? ⟨w.heap.size + 2, 1, none⟩ = some (.int .i64 d2) := G8.out.r4.bt.cell 1
                have erx2 : w18.cell? ⟨w.heap.size + 2, 2, none⟩ = some (.int .i64 t2) := G8.out.r4.bt.cell 2
                have erx3 : w18.cell? ⟨w.heap.size + 2, 3, none⟩ = some (.slice st q kt) := G8.out.r4.bt.cell 3
                have esx0 : w18.cell? ⟨w.heap.size + 3, 0, none⟩ = some (.int .i64 c3) := G8.out.r4.bu.cell 0
                have esx1 : w18.cell? ⟨w.heap.size + 3, 1, none⟩ = some (.int .i64 d3) := G8.out.r4.bu.cell 1
                have esx2 : w18.cell? ⟨w.heap.size + 3, 2, none⟩ = some (.int .i64 t3) := G8.out.r4.bu.cell 2
                have esx3 : w18.cell? ⟨w.heap.size + 3, 3, none⟩ = some (.slice su q' ku) := G8.out.r4.bu.cell 3
                go_wp2_with fail
                go_meet
                exact ⟨rfl, G8.out⟩
                -- ]LBD
        · by_cases he : (⟨co0, sy0, la0, mo0, l⟩ : Cfg) = (⟨co1, sy1, la1, mo1, l'⟩ : Cfg)
          · cases ht : tskB 6 (⟨c2, d2, t2, m⟩ : Tsk)
            · -- [LCA
              have hp := put_yes HP.out hc
              have NAhp : ¬ p.toList = [] := put_yes2 (hp)
              have NBhp : p.toList.isEmpty = false := by simpa using NAhp
              have hq := put_yes HQ.out hd
              have NAhq : ¬ p'.toList = [] := put_yes2 (hq)
              have NBhq : p'.toList.isEmpty = false := by simpa using NAhq
              obtain rfl := cfg_alike HP.out HQ.out he
              obtain rfl : r = ⟨#[]⟩ := putt_no HR.out ht
              go_wp2_with fail
              refine (refPutCfg_s co0 sy0 la0 mo0 (.slice sc n kc) l p _ G4.out.r4.env G4.out.intc LL.out.1 HP.out).mono ?_
              rintro e w15 ⟨rfl, g⟩
              have G5 : Hid (Cop4 w co0 sy0 la0 mo0 sc n kc l co1 sy1 la1 mo1 sd n' kd l' c2 d2 t2 st q kt m c3 d3 t3 su q' ku m' w15) := G4.out.below g
              clear g
              have eqx0 : w15.cell? ⟨w.heap.size, 0, none⟩ = some (.int .i64 co0) := G5.out.r4.bc.cell 0
              have eqx1 : w15.cell? ⟨w.heap.size, 1, none⟩ = some (.int .i64 sy0) := G5.out.r4.bc.cell 1
              have eqx2 : w15.cell? ⟨w.heap.size, 2, none⟩ = some (.int .i64 la0) := G5.out.r4.bc.cell 2
              have eqx3 : w15.cell? ⟨w.heap.size, 3, none⟩ = some (.int .i64 mo0) := G5.out.r4.bc.cell 3
              have eqx4 : w15.cell? ⟨w.heap.size, 4, none⟩ = some (.slice sc n kc) := G5.out.r4.bc.cell 4
              have epx0 : w15.cell? ⟨w.heap.size + 1, 0, none⟩ = some (.int .i64 co1) := G5.out.r4.bd.cell 0
              have epx1 : w15.cell? ⟨w.heap.size + 1, 1, none⟩ = some (.int .i64 sy1) := G5.out.r4.bd.cell 1
              have epx2 : w15.cell? ⟨w.heap.size + 1, 2, none⟩ = some (.int .i64 la1) := G5.out.r4.bd.cell 2
              have epx3 : w15.cell? ⟨w.heap.size + 1, 3, none⟩ = some (.int .i64 mo1) := G5.out.r4.bd.cell 3
              have epx4 : w15.cell? ⟨w.heap.size + 1, 4, none⟩ = some (.slice sd n' kd) := G5.out.r4.bd.cell 4
              have erx0 : w15.cell? ⟨w.heap.size + 2, 0, none⟩ = some (.int .i64 c2) := G5.out.r4.bt.cell 0
              have erx1 : w15.cell? ⟨w.heap.size + 2, 1, none⟩ = some (.int .i64 d2) := G5.out.r4.bt.cell 1
              have erx2 : w15.cell? ⟨w.heap.size + 2, 2, none⟩ = some (.int .i64 t2) := G5.out.r4.bt.cell 2
              have erx3 : w15.cell? ⟨w.heap.size + 2, 3, none⟩ = some (.slice st q kt) := G5.out.r4.bt.cell 3
              have esx0 : w15.cell? ⟨w.heap.size + 3, 0, none⟩ = some (.int .i64 c3) := G5.out.r4.bu.cell 0
              have esx1 : w15.cell? ⟨w.heap.size + 3, 1, none⟩ = some (.int .i64 d3) := G5.out.r4.bu.cell 1
              have esx2 : w15.cell? ⟨w.heap.size + 3, 2, none⟩ = some (.int .i64 t3) := G5.out.r4.bu.cell 2
              have esx3 : w15.cell? ⟨w.heap.size + 3, 3, none⟩ = some (.slice su q' ku) := G5.out.r4.bu.cell 3
              go_wp2_with fail
              refine (refPutTsk_s c2 d2 t2 (.slice st q kt) m ⟨#[]⟩ _ G5.out.r4.env G5.out.sect LL.out.2.2.1 HR.out).mono ?_
              rintro e w16 ⟨rfl, g⟩
              have G6 : Hid (Cop4 w co0 sy0 la0 mo0 sc n kc l co1 sy1 la1 mo1 sd n' kd l' c2 d2 t2 st q kt m c3 d3 t3 su q' ku m' w16) := G5.out.below g
              clear g
              have eqx0 : w16.cell? ⟨w.heap.size, 0, none⟩ = some (.int .i64 co0) := G6.out.r4.bc.cell 0
              have eqx1 : w16.cell? ⟨w.heap.size, 1, none⟩ = some (.int .i64 sy0) := G6.out.r4.bc.cell 1
              have eqx2 : w16.cell? ⟨w.heap.size, 2, none⟩ = some (.int .i64 la0) := G6.out.r4.bc.cell 2
              have eqx3 : w16.cell? ⟨w.heap.size, 3, none⟩ = some (.int .i64 mo0) := G6.out.r4.bc.cell 3
              have eqx4 : w16.cell? ⟨w.heap.size, 4, none⟩ = some (.slice sc n kc) := G6.out.r4.bc.cell 4
              have epx0 : w16.cell? ⟨w.heap.size + 1, 0, none⟩ = some (.int .i64 co1) := G6.out.r4.bd.cell 0
              have epx1 : w16.cell? ⟨w.heap.size + 1, 1, none⟩ = some (.int .i64 sy1) := G6.out.r4.bd.cell 1
              have epx2 : w16.cell? ⟨w.heap.size + 1, 2, none⟩ = some (.int .i64 la1) := G6.out.r4.bd.cell 2
              have epx3 : w16.cell? ⟨w.heap.size + 1, 3, none⟩ = some (.int .i64 mo1) := G6.out.r4.bd.cell 3
              have epx4 : w16.cell? ⟨w.heap.size + 1, 4, none⟩ = some (.slice sd n' kd) := G6.out.r4.bd.cell 4
              have erx0 : w16.cell? ⟨w.heap.size + 2, 0, none⟩ = some (.int .i64 c2) := G6.out.r4.bt.cell 0
              have erx1 : w16.cell? ⟨w.heap.size + 2, 1, none⟩ = some (.int .i64 d2) := G6.out.r4.bt.cell 1
              have erx2 : w16.cell? ⟨w.heap.size + 2, 2, none⟩ = some (.int .i64 t2) := G6.out.r4.bt.cell 2
              have erx3 : w16.cell? ⟨w.heap.size + 2, 3, none⟩ = some (.slice st q kt) := G6.out.r4.bt.cell 3
              have esx0 : w16.cell? ⟨w.heap.size + 3, 0, none⟩ = some (.int .i64 c3) := G6.out.r4.bu.cell 0
              have esx1 : w16.cell? ⟨w.heap.size + 3, 1, none⟩ = some (.int .i64 d3) := G6.out.r4.bu.cell 1
              have esx2 : w16.cell? ⟨w.heap.size + 3, 2, none⟩ = some (.int .i64 t3) := G6.out.r4.bu.cell 2
              have esx3 : w16.cell? ⟨w.heap.size + 3, 3, none⟩ = some (.slice su q' ku) := G6.out.r4.bu.cell 3
              go_wp2_with fail
              refine (sameCfg_at co0 sy0 la0 mo0 co1 sy1 la1 mo1 (.slice sc n kc) (.slice sd n' kd) l l' _ G6.out.intc G6.out.intd LL.out.1 LL.out.2.1 true (decide_eq_true he)).mono ?_
              rintro e w17 ⟨rfl, g⟩
              have G7 : Hid (Cop4 w co0 sy0 la0 mo0 sc n kc l co1 sy1 la1 mo1 sd n' kd l' c2 d2 t2 st q kt m c3 d3 t3 su q' ku m' w17) := G6.out.below g
              clear g
              have eqx0 : w17.cell? ⟨w.heap.size, 0, none⟩ = some (.int .i64 co0) := G7.out.r4.bc.cell 0
              have eqx1 : w17.cell? ⟨w.heap.size, 1, none⟩ = some (.int .i64 sy0) := G7.out.r4.bc.cell 1
              have eqx2 : w17.cell? ⟨w.heap.size, 2, none⟩ = some (.int .i64 la0) := G7.out.r4.bc.cell 2
              have eqx3 : w17.cell? ⟨w.heap.size, 3, none⟩ = some (.int .i64 mo0) := G7.out.r4.bc.cell 3
              have eqx4 : w17.cell? ⟨w.heap.size, 4, none⟩ = some (.slice sc n kc) := G7.out.r4.bc.cell 4
              have epx0 : w17.cell? ⟨w.heap.size + 1, 0, none⟩ = some (.int .i64 co1) := G7.out.r4.bd.cell 0
              have epx1 : w17.cell? ⟨w.heap.size + 1, 1, none⟩ = some (.int .i64 sy1) := G7.out.r4.bd.cell 1
              have epx2 : w17.cell? ⟨w.heap.size + 1, 2, none⟩ = some (.int .i64 la1) := G7.out.r4.bd.cell 2
              have epx3 : w17.cell? ⟨w.heap.size + 1, 3, none⟩ = some (.int .i64 mo1) := G7.out.r4.bd.cell 3
              have epx4 : w17.cell? ⟨w.heap.size + 1, 4, none⟩ = some (.slice sd n' kd) := G7.out.r4.bd.cell 4
              have erx0 : w17.cell? ⟨w.heap.size + 2, 0, none⟩ = some (.int .i64 c2) := G7.out.r4.bt.cell 0
              have erx1 : w17.cell? ⟨w.heap.size + 2, 1, none⟩ = some (.int .i64 d2) := G7.out.r4.bt.cell 1
              have erx2 : w17.cell? ⟨w.heap.size + 2, 2, none⟩ = some (.int .i64 t2) := G7.out.r4.bt.cell 2
              have erx3 : w17.cell? ⟨w.heap.size + 2, 3, none⟩ = some (.slice st q kt) := G7.out.r4.bt.cell 3
              have esx0 : w17.cell? ⟨w.heap.size + 3, 0, none⟩ = some (.int .i64 c3) := G7.out.r4.bu.cell 0
              have esx1 : w17.cell? ⟨w.heap.size + 3, 1, none⟩ = some (.int .i64 d3) := G7.out.r4.bu.cell 1
              have esx2 : w17.cell? ⟨w.heap.size + 3, 2, none⟩ = some (.int .i64 t3) := G7.out.r4.bu.cell 2
              have esx3 : w17.cell? ⟨w.heap.size + 3, 3, none⟩ = some (.slice su q' ku) := G7.out.r4.bu.cell 3
              go_wp2_with fail
              go_meet
              exact ⟨rfl, G7.out⟩
              -- ]LCA
            · cases hu : tskB 6 (⟨c3, d3, t3, m'⟩ : Tsk)
              · -- [LCB
                have hp := put_yes HP.out hc
                have NAhp : ¬ p.toList = [] := put_yes2 (hp)
                have NBhp : p.toList.isEmpty = false := by simpa using NAhp
                have hq := put_yes HQ.out hd
                have NAhq : ¬ p'.toList = [] := put_yes2 (hq)
                have NBhq : p'.toList.isEmpty = false := by simpa using NAhq
                obtain rfl := cfg_alike HP.out HQ.out he
                have hr := putt_yes HR.out ht
                have NAhr : ¬ r.toList = [] := put_yes2 (hr)
                have NBhr : r.toList.isEmpty = false := by simpa using NAhr
                obtain rfl : r' = ⟨#[]⟩ := putt_no HS.out hu
                go_wp2_with fail
                refine (refPutCfg_s co0 sy0 la0 mo0 (.slice sc n kc) l p _ G4.out.r4.env G4.out.intc LL.out.1 HP.out).mono ?_
                rintro e w15 ⟨rfl, g⟩
                have G5 : Hid (Cop4 w co0 sy0 la0 mo0 sc n kc l co1 sy1 la1 mo1 sd n' kd l' c2 d2 t2 st q kt m c3 d3 t3 su q' ku m' w15) := G4.out.below g
                clear g
                have eqx0 : w15.cell? ⟨w.heap.size, 0, none⟩ = some (.int .i64 co0) := G5.out.r4.bc.cell 0
                have eqx1 : w15.cell? ⟨w.heap.size, 1, none⟩ = some (.int .i64 sy0) := G5.out.r4.bc.cell 1
                have eqx2 : w15.cell? ⟨w.heap.size, 2, none⟩ = some (.int .i64 la0) := G5.out.r4.bc.cell 2
                have eqx3 : w15.cell? ⟨w.heap.size, 3, none⟩ = some (.int .i64 mo0) := G5.out.r4.bc.cell 3
                have eqx4 : w15.cell? ⟨w.heap.size, 4, none⟩ = some (.slice sc n kc) := G5.out.r4.bc.cell 4
                have epx0 : w15.cell? ⟨w.heap.size + 1, 0, none⟩ = some (.int .i64 co1) := G5.out.r4.bd.cell 0
                have epx1 : w15.cell? ⟨w.heap.size + 1, 1, none⟩ = some (.int .i64 sy1) := G5.out.r4.bd.cell 1
                have epx2 : w15.cell? ⟨w.heap.size + 1, 2, none⟩ = some (.int .i64 la1) := G5.out.r4.bd.cell 2
                have epx3 : w15.cell? ⟨w.heap.size + 1, 3, none⟩ = some (.int .i64 mo1) := G5.out.r4.bd.cell 3
                have epx4 : w15.cell? ⟨w.heap.size + 1, 4, none⟩ = some (.slice sd n' kd) := G5.out.r4.bd.cell 4
                have erx0 : w15.cell? ⟨w.heap.size + 2, 0, none⟩ = some (.int .i64 c2) := G5.out.r4.bt.cell 0
                have erx1 : w15.cell? ⟨w.heap.size + 2, 1, none⟩ = some (.int .i64 d2) := G5.out.r4.bt.cell 1
                have erx2 : w15.cell? ⟨w.heap.size + 2, 2, none⟩ = some (.int .i64 t2) := G5.out.r4.bt.cell 2
                have erx3 : w15.cell? ⟨w.heap.size + 2, 3, none⟩ = some (.slice st q kt) := G5.out.r4.bt.cell 3
                have esx0 : w15.cell? ⟨w.heap.size + 3, 0, none⟩ = some (.int .i64 c3) := G5.out.r4.bu.cell 0
                have esx1 : w15.cell? ⟨w.heap.size + 3, 1, none⟩ = some (.int .i64 d3) := G5.out.r4.bu.cell 1
                have esx2 : w15.cell? ⟨w.heap.size + 3, 2, none⟩ = some (.int .i64 t3) := G5.out.r4.bu.cell 2
                have esx3 : w15.cell? ⟨w.heap.size + 3, 3, none⟩ = some (.slice su q' ku) := G5.out.r4.bu.cell 3
                go_wp2_with fail
                refine (refPutTsk_s c2 d2 t2 (.slice st q kt) m r _ G5.out.r4.env G5.out.sect LL.out.2.2.1 HR.out).mono ?_
                rintro e w16 ⟨rfl, g⟩
                have G6 : Hid (Cop4 w co0 sy0 la0 mo0 sc n kc l co1 sy1 la1 mo1 sd n' kd l' c2 d2 t2 st q kt m c3 d3 t3 su q' ku m' w16) := G5.out.below g
                clear g
                have eqx0 : w16.cell? ⟨w.heap.size, 0, none⟩ = some (.int .i64 co0) := G6.out.r4.bc.cell 0
                have eqx1 : w16.cell? ⟨w.heap.size, 1, none⟩ = some (.int .i64 sy0) := G6.out.r4.bc.cell 1
                have eqx2 : w16.cell? ⟨w.heap.size, 2, none⟩ = some (.int .i64 la0) := G6.out.r4.bc.cell 2
                have eqx3 : w16.cell? ⟨w.heap.size, 3, none⟩ = some (.int .i64 mo0) := G6.out.r4.bc.cell 3
                have eqx4 : w16.cell? ⟨w.heap.size, 4, none⟩ = some (.slice sc n kc) := G6.out.r4.bc.cell 4
                have epx0 : w16.cell? ⟨w.heap.size + 1, 0, none⟩ = some (.int .i64 co1) := G6.out.r4.bd.cell 0
                have epx1 : w16.cell? ⟨w.heap.size + 1, 1, none⟩ = some (.int .i64 sy1) := G6.out.r4.bd.cell 1
                have epx2 : w16.cell? ⟨w.heap.size + 1, 2, none⟩ = some (.int .i64 la1) := G6.out.r4.bd.cell 2
                have epx3 : w16.cell? ⟨w.heap.size + 1, 3, none⟩ = some (.int .i64 mo1) := G6.out.r4.bd.cell 3
                have epx4 : w16.cell? ⟨w.heap.size + 1, 4, none⟩ = some (.slice sd n' kd) := G6.out.r4.bd.cell 4
                have erx0 : w16.cell? ⟨w.heap.size + 2, 0, none⟩ = some (.int .i64 c2) := G6.out.r4.bt.cell 0
                have erx1 : w16.cell? ⟨w.heap.size + 2, 1, none⟩ = some (.int .i64 d2) := G6.out.r4.bt.cell 1
                have erx2 : w16.cell? ⟨w.heap.size + 2, 2, none⟩ = some (.int .i64 t2) := G6.out.r4.bt.cell 2
                have erx3 : w16.cell? ⟨w.heap.size + 2, 3, none⟩ = some (.slice st q kt) := G6.out.r4.bt.cell 3
                have esx0 : w16.cell? ⟨w.heap.size + 3, 0, none⟩ = some (.int .i64 c3) := G6.out.r4.bu.cell 0
                have esx1 : w16.cell? ⟨w.heap.size + 3, 1, none⟩ = some (.int .i64 d3) := G6.out.r4.bu.cell 1
                have esx2 : w16.cell? ⟨w.heap.size + 3, 2, none⟩ = some (.int .i64 t3) := G6.out.r4.bu.cell 2
                have esx3 : w16.cell? ⟨w.heap.size + 3, 3, none⟩ = some (.slice su q' ku) := G6.out.r4.bu.cell 3
                go_wp2_with fail
                refine (sameCfg_at co0 sy0 la0 mo0 co1 sy1 la1 mo1 (.slice sc n kc) (.slice sd n' kd) l l' _ G6.out.intc G6.out.intd LL.out.1 LL.out.2.1 true (decide_eq_true he)).mono ?_
                rintro e w17 ⟨rfl, g⟩
                have G7 : Hid (Cop4 w co0 sy0 la0 mo0 sc n kc l co1 sy1 la1 mo1 sd n' kd l' c2 d2 t2 st q kt m c3 d3 t3 su q' ku m' w17) := G6.out.below g
                clear g
                have eqx0 : w17.cell? ⟨w.heap.size, 0, none⟩ = some (.int .i64 co0) := G7.out.r4.bc.cell 0
                have eqx1 : w17.cell? ⟨w.heap.size, 1, none⟩ = some (.int .i64 sy0) := G7.out.r4.bc.cell 1
                have eqx2 : w17.cell? ⟨w.heap.size, 2, none⟩ = some (.int .i64 la0) := G7.out.r4.bc.cell 2
                have eqx3 : w17.cell? ⟨w.heap.size, 3, none⟩ = some (.int .i64 mo0) := G7.out.r4.bc.cell 3
                have eqx4 : w17.cell? ⟨w.heap.size, 4, none⟩ = some (.slice sc n kc) := G7.out.r4.bc.cell 4
                have epx0 : w17.cell? ⟨w.heap.size + 1, 0, none⟩ = some (.int .i64 co1) := G7.out.r4.bd.cell 0
                have epx1 : w17.cell? ⟨w.heap.size + 1, 1, none⟩ = some (.int .i64 sy1) := G7.out.r4.bd.cell 1
                have epx2 : w17.cell? ⟨w.heap.size + 1, 2, none⟩ = some (.int .i64 la1) := G7.out.r4.bd.cell 2
                have epx3 : w17.cell? ⟨w.heap.size + 1, 3, none⟩ = some (.int .i64 mo1) := G7.out.r4.bd.cell 3
                have epx4 : w17.cell? ⟨w.heap.size + 1, 4, none⟩ = some (.slice sd n' kd) := G7.out.r4.bd.cell 4
                have erx0 : w17.cell? ⟨w.heap.size + 2, 0, none⟩ = some (.int .i64 c2) := G7.out.r4.bt.cell 0
                have erx1 : w17.cell? ⟨w.heap.size + 2, 1, none⟩ = some (.int .i64 d2) := G7.out.r4.bt.cell 1
                have erx2 : w17.cell? ⟨w.heap.size + 2, 2, none⟩ = some (.int .i64 t2) := G7.out.r4.bt.cell 2
                have erx3 : w17.cell? ⟨w.heap.size + 2, 3, none⟩ = some (.slice st q kt) := G7.out.r4.bt.cell 3
                have esx0 : w17.cell? ⟨w.heap.size + 3, 0, none⟩ = some (.int .i64 c3) := G7.out.r4.bu.cell 0
                have esx1 : w17.cell? ⟨w.heap.size + 3, 1, none⟩ = some (.int .i64 d3) := G7.out.r4.bu.cell 1
                have esx2 : w17.cell? ⟨w.heap.size + 3, 2, none⟩ = some (.int .i64 t3) := G7.out.r4.bu.cell 2
                have esx3 : w17.cell? ⟨w.heap.size + 3, 3, none⟩ = some (.slice su q' ku) := G7.out.r4.bu.cell 3
                go_wp2_with fail
                go_meet
                exact ⟨rfl, G7.out⟩
                -- ]LCB
              · by_cases hv : (⟨c2, d2, t2, m⟩ : Tsk) = (⟨c3, d3, t3, m'⟩ : Tsk)
                · -- [LCC
                  have hp := put_yes HP.out hc
                  have NAhp : ¬ p.toList = [] := put_yes2 (hp)
                  have NBhp : p.toList.isEmpty = false := by simpa using NAhp
                  have hq := put_yes HQ.out hd
                  have NAhq : ¬ p'.toList = [] := put_yes2 (hq)
                  have NBhq : p'.toList.isEmpty = false := by simpa using NAhq
                  obtain rfl := cfg_alike HP.out HQ.out he
                  have hr := putt_yes HR.out ht
                  have NAhr : ¬ r.toList = [] := put_yes2 (hr)
                  have NBhr : r.toList.isEmpty = false := by simpa using NAhr
                  have hs := putt_yes HS.out hu
                  have NAhs : ¬ r'.toList = [] := put_yes2 (hs)
                  have NBhs : r'.toList.isEmpty = false := by simpa using NAhs
                  obtain rfl := tsk_alike HR.out HS.out hv
                  go_wp2_with fail
                  refine (refPutCfg_s co0 sy0 la0 mo0 (.slice sc n kc) l p _ G4.out.r4.env G4.out.intc LL.out.1 HP.out).mono ?_
                  rintro e w15 ⟨rfl, g⟩
                  have G5 : Hid (Cop4 w co0 sy0 la0 mo0 sc n kc l co1 sy1 la1 mo1 sd n' kd l' c2 d2 t2 st q kt m c3 d3 t3 su q' ku m' w15) := G4.out.below g
                  clear g
                  have eqx0 : w15.cell? ⟨w.heap.size, 0, none⟩ = some (.int .i64 co0) := G5.out.r4.bc.cell 0
                  have eqx1 : w15.cell? ⟨w.heap.size, 1, none⟩ = some (.int .i64 sy0) := G5.out.r4.bc.cell 1
                  have eqx2 : w15.cell? ⟨w.heap.size, 2, none⟩ = some (.int .i64 la0) := G5.out.r4.bc.cell 2
                  have eqx3 : w15.cell? ⟨w.heap.size, 3, none⟩ = some (.int .i64 mo0) := G5.out.r4.bc.cell 3
                  have eqx4 : w15.cell? ⟨w.heap.size, 4, none⟩ = some (.slice sc n kc) := G5.out.r4.bc.cell 4
                  have epx0 : w15.cell? ⟨w.heap.size + 1, 0, none⟩ = some (.int .i64 co1) := G5.out.r4.bd.cell 0
                  have epx1 : w15.cell? ⟨w.heap.size + 1, 1, none⟩ = some (.int .i64 sy1) := G5.out.r4.bd.cell 1
                  have epx2 : w15.cell? ⟨w.heap.size + 1, 2, none⟩ = some (.int .i64 la1) := G5.out.r4.bd.cell 2
                  have epx3 : w15.cell? ⟨w.heap.size + 1, 3, none⟩ = some (.int .i64 mo1) := G5.out.r4.bd.cell 3
                  have epx4 : w15.cell? ⟨w.heap.size + 1, 4, none⟩ = some (.slice sd n' kd) := G5.out.r4.bd.cell 4
                  have erx0 : w15.cell? ⟨w.heap.size + 2, 0, none⟩ = some (.int .i64 c2) := G5.out.r4.bt.cell 0
                  have erx1 : w15.cell? ⟨w.heap.size + 2, 1, none⟩ = some (.int .i64 d2) := G5.out.r4.bt.cell 1
                  have erx2 : w15.cell? ⟨w.heap.size + 2, 2, none⟩ = some (.int .i64 t2) := G5.out.r4.bt.cell 2
                  have erx3 : w15.cell? ⟨w.heap.size + 2, 3, none⟩ = some (.slice st q kt) := G5.out.r4.bt.cell 3
                  have esx0 : w15.cell? ⟨w.heap.size + 3, 0, none⟩ = some (.int .i64 c3) := G5.out.r4.bu.cell 0
                  have esx1 : w15.cell? ⟨w.heap.size + 3, 1, none⟩ = some (.int .i64 d3) := G5.out.r4.bu.cell 1
                  have esx2 : w15.cell? ⟨w.heap.size + 3, 2, none⟩ = some (.int .i64 t3) := G5.out.r4.bu.cell 2
                  have esx3 : w15.cell? ⟨w.heap.size + 3, 3, none⟩ = some (.slice su q' ku) := G5.out.r4.bu.cell 3
                  go_wp2_with fail
                  refine (refPutTsk_s c2 d2 t2 (.slice st q kt) m r _ G5.out.r4.env G5.out.sect LL.out.2.2.1 HR.out).mono ?_
                  rintro e w16 ⟨rfl, g⟩
                  have G6 : Hid (Cop4 w co0 sy0 la0 mo0 sc n kc l co1 sy1 la1 mo1 sd n' kd l' c2 d2 t2 st q kt m c3 d3 t3 su q' ku m' w16) := G5.out.below g
                  clear g
                  have eqx0 : w16.cell? ⟨w.heap.size, 0, none⟩ = some (.int .i64 co0) := G6.out.r4.bc.cell 0
                  have eqx1 : w16.cell? ⟨w.heap.size, 1, none⟩ = some (.int .i64 sy0) := G6.out.r4.bc.cell 1
                  have eqx2 : w16.cell? ⟨w.heap.size, 2, none⟩ = some (.int .i64 la0) := G6.out.r4.bc.cell 2
                  have eqx3 : w16.cell? ⟨w.heap.size, 3, none⟩ = some (.int .i64 mo0) := G6.out.r4.bc.cell 3
                  have eqx4 : w16.cell? ⟨w.heap.size, 4, none⟩ = some (.slice sc n kc) := G6.out.r4.bc.cell 4
                  have epx0 : w16.cell? ⟨w.heap.size + 1, 0, none⟩ = some (.int .i64 co1) := G6.out.r4.bd.cell 0
                  have epx1 : w16.cell? ⟨w.heap.size + 1, 1, none⟩ = some (.int .i64 sy1) := G6.out.r4.bd.cell 1
                  have epx2 : w16.cell? ⟨w.heap.size + 1, 2, none⟩ = some (.int .i64 la1) := G6.out.r4.bd.cell 2
                  have epx3 : w16.cell? ⟨w.heap.size + 1, 3, none⟩ = some (.int .i64 mo1) := G6.out.r4.bd.cell 3
                  have epx4 : w16.cell? ⟨w.heap.size + 1, 4, none⟩ = some (.slice sd n' kd) := G6.out.r4.bd.cell 4
                  have erx0 : w16.cell? ⟨w.heap.size + 2, 0, none⟩ = some (.int .i64 c2) := G6.out.r4.bt.cell 0
                  have erx1 : w16.cell? ⟨w.heap.size + 2, 1, none⟩ = some (.int .i64 d2) := G6.out.r4.bt.cell 1
                  have erx2 : w16.cell? ⟨w.heap.size + 2, 2, none⟩ = some (.int .i64 t2) := G6.out.r4.bt.cell 2
                  have erx3 : w16.cell? ⟨w.heap.size + 2, 3, none⟩ = some (.slice st q kt) := G6.out.r4.bt.cell 3
                  have esx0 : w16.cell? ⟨w.heap.size + 3, 0, none⟩ = some (.int .i64 c3) := G6.out.r4.bu.cell 0
                  have esx1 : w16.cell? ⟨w.heap.size + 3, 1, none⟩ = some (.int .i64 d3) := G6.out.r4.bu.cell 1
                  have esx2 : w16.cell? ⟨w.heap.size + 3, 2, none⟩ = some (.int .i64 t3) := G6.out.r4.bu.cell 2
                  have esx3 : w16.cell? ⟨w.heap.size + 3, 3, none⟩ = some (.slice su q' ku) := G6.out.r4.bu.cell 3
                  go_wp2_with fail
                  refine (sameCfg_at co0 sy0 la0 mo0 co1 sy1 la1 mo1 (.slice sc n kc) (.slice sd n' kd) l l' _ G6.out.intc G6.out.intd LL.out.1 LL.out.2.1 true (decide_eq_true he)).mono ?_
                  rintro e w17 ⟨rfl, g⟩
                  have G7 : Hid (Cop4 w co0 sy0 la0 mo0 sc n kc l co1 sy1 la1 mo1 sd n' kd l' c2 d2 t2 st q kt m c3 d3 t3 su q' ku m' w17) := G6.out.below g
                  clear g
                  have eqx0 : w17.cell? ⟨w.heap.size, 0, none⟩ = some (.int .i64 co0) := G7.out.r4.bc.cell 0
                  have eqx1 : w17.cell? ⟨w.heap.size, 1, none⟩ = some (.int .i64 sy0) := G7.out.r4.bc.cell 1
                  have eqx2 : w17.cell? ⟨w.heap.size, 2, none⟩ = some (.int .i64 la0) := G7.out.r4.bc.cell 2
                  have eqx3 : w17.cell? ⟨w.heap.size, 3, none⟩ = some (.int .i64 mo0) := G7.out.r4.bc.cell 3
                  have eqx4 : w17.cell? ⟨w.heap.size, 4, none⟩ = some (.slice sc n kc) := G7.out.r4.bc.cell 4
                  have epx0 : w17.cell? ⟨w.heap.size + 1, 0, none⟩ = some (.int .i64 co1) := G7.out.r4.bd.cell 0
                  have epx1 : w17.cell? ⟨w.heap.size + 1, 1, none⟩ = some (.int .i64 sy1) := G7.out.r4.bd.cell 1
                  have epx2 : w17.cell? ⟨w.heap.size + 1, 2, none⟩ = some (.int .i64 la1) := G7.out.r4.bd.cell 2
                  have epx3 : w17.cell? ⟨w.heap.size + 1, 3, none⟩ = some (.int .i64 mo1) := G7.out.r4.bd.cell 3
                  have epx4 : w17.cell? ⟨w.heap.size + 1, 4, none⟩ = some (.slice sd n' kd) := G7.out.r4.bd.cell 4
                  have erx0 : w17.cell? ⟨w.heap.size + 2, 0, none⟩ = some (.int .i64 c2) := G7.out.r4.bt.cell 0
                  have erx1 : w17.cell? ⟨w.heap.size + 2, 1, none⟩ = some (.int .i64 d2) := G7.out.r4.bt.cell 1
                  have erx2 : w17.cell? ⟨w.heap.size + 2, 2, none⟩ = some (.int .i64 t2) := G7.out.r4.bt.cell 2
                  have erx3 : w17.cell? ⟨w.heap.size + 2, 3, none⟩ = some (.slice st q kt) := G7.out.r4.bt.cell 3
                  have esx0 : w17.cell? ⟨w.heap.size + 3, 0, none⟩ = some (.int .i64 c3) := G7.out.r4.bu.cell 0
                  have esx1 : w17.cell? ⟨w.heap.size + 3, 1, none⟩ = some (.int .i64 d3) := G7.out.r4.bu.cell 1
                  have esx2 : w17.cell? ⟨w.heap.size + 3, 2, none⟩ = some (.int .i64 t3) := G7.out.r4.bu.cell 2
                  have esx3 : w17.cell? ⟨w.heap.size + 3, 3, none⟩ = some (.slice su q' ku) := G7.out.r4.bu.cell 3
                  go_wp2_with fail
                  refine (sameTsk_at c2 d2 t2 c3 d3 t3 (.slice st q kt) (.slice su q' ku) m m' _ G7.out.sect G7.out.secu LL.out.2.2.1 LL.out.2.2.2 true (decide_eq_true hv)).mono ?_
                  rintro e w18 ⟨rfl, g⟩
                  have G8 : Hid (Cop4 w co0 sy0 la0 mo0 sc n kc l co1 sy1 la1 mo1 sd n' kd l' c2 d2 t2 st q kt m c3 d3 t3 su q' ku m' w18) := G7.out.below g
                  clear g
                  have eqx0 : w18.cell? ⟨w.heap.size, 0, none⟩ = some (.int .i64 co0) := G8.out.r4.bc.cell 0
                  have eqx1 : w18.cell? ⟨w.heap.size, 1, none⟩ = some (.int .i64 sy0) := G8.out.r4.bc.cell 1
                  have eqx2 : w18.cell? ⟨w.heap.size, 2, none⟩ = some (.int .i64 la0) := G8.out.r4.bc.cell 2
                  have eqx3 : w18.cell? ⟨w.heap.size, 3, none⟩ = some (.int .i64 mo0) := G8.out.r4.bc.cell 3
                  have eqx4 : w18.cell? ⟨w.heap.size, 4, none⟩ = some (.slice sc n kc) := G8.out.r4.bc.cell 4
                  have epx0 : w18.cell? ⟨w.heap.size + 1, 0, none⟩ = some (.int .i64 co1) := G8.out.r4.bd.cell 0
                  have epx1 : w18.cell? ⟨w.heap.size + 1, 1, none⟩ = some (.int .i64 sy1) := G8.out.r4.bd.cell 1
                  have epx2 : w18.cell? ⟨w.heap.size + 1, 2, none⟩ = some (.int .i64 la1) := G8.out.r4.bd.cell 2
                  have epx3 : w18.cell? ⟨w.heap.size + 1, 3, none⟩ = some (.int .i64 mo1) := G8.out.r4.bd.cell 3
                  have epx4 : w18.cell? ⟨w.heap.size + 1, 4, none⟩ = some (.slice sd n' kd) := G8.out.r4.bd.cell 4
                  have erx0 : w18.cell? ⟨w.heap.size + 2, 0, none⟩ = some (.int .i64 c2) := G8.out.r4.bt.cell 0
                  have erx1 : w18.cell? ⟨w.heap.size + 2, 1, none⟩ = some (.int .i64 d2) := G8.out.r4.bt.cell 1
                  have erx2 : w18.cell? ⟨w.heap.size + 2, 2, none⟩ = some (.int .i64 t2) := G8.out.r4.bt.cell 2
                  have erx3 : w18.cell? ⟨w.heap.size + 2, 3, none⟩ = some (.slice st q kt) := G8.out.r4.bt.cell 3
                  have esx0 : w18.cell? ⟨w.heap.size + 3, 0, none⟩ = some (.int .i64 c3) := G8.out.r4.bu.cell 0
                  have esx1 : w18.cell? ⟨w.heap.size + 3, 1, none⟩ = some (.int .i64 d3) := G8.out.r4.bu.cell 1
                  have esx2 : w18.cell? ⟨w.heap.size + 3, 2, none⟩ = some (.int .i64 t3) := G8.out.r4.bu.cell 2
                  have esx3 : w18.cell? ⟨w.heap.size + 3, 3, none⟩ = some (.slice su q' ku) := G8.out.r4.bu.cell 3
                  go_wp2_with fail
                  go_meet
                  exact ⟨rfl, G8.out⟩
                  -- ]LCC
                · -- [LCD
                  have hp := put_yes HP.out hc
                  have NAhp : ¬ p.toList = [] := put_yes2 (hp)
                  have NBhp : p.toList.isEmpty = false := by simpa using NAhp
                  have hq := put_yes HQ.out hd
                  have NAhq : ¬ p'.toList = [] := put_yes2 (hq)
                  have NBhq : p'.toList.isEmpty = false := by simpa using NAhq
                  obtain rfl := cfg_alike HP.out HQ.out he
                  have hr := putt_yes HR.out ht
                  have NAhr : ¬ r.toList = [] := put_yes2 (hr)
                  have NBhr : r.toList.isEmpty = false := by simpa using NAhr
                  have hs := putt_yes HS.out hu
                  have NAhs : ¬ r'.toList = [] := put_yes2 (hs)
                  have NBhs : r'.toList.isEmpty = false := by simpa using NAhs
                  have hrs := tsk_ne HR.out ht HS.out hu hv
                  have k1hrs : ¬ r.toList = r'.toList := toL_ne hrs
                  have k2hrs : decide (r.toList = r'.toList) = false := decide_eq_false k1hrs
                  have k3hrs : (r.toList == r'.toList) = false := by simpa using k1hrs
                  go_wp2_with fail
                  refine (refPutCfg_s co0 sy0 la0 mo0 (.slice sc n kc) l p _ G4.out.r4.env G4.out.intc LL.out.1 HP.out).mono ?_
                  rintro e w15 ⟨rfl, g⟩
                  have G5 : Hid (Cop4 w co0 sy0 la0 mo0 sc n kc l co1 sy1 la1 mo1 sd n' kd l' c2 d2 t2 st q kt m c3 d3 t3 su q' ku m' w15) := G4.out.below g
                  clear g
                  have eqx0 : w15.cell? ⟨w.heap.size, 0, none⟩ = some (.int .i64 co0) := G5.out.r4.bc.cell 0
                  have eqx1 : w15.cell? ⟨w.heap.size, 1, none⟩ = some (.int .i64 sy0) := G5.out.r4.bc.cell 1
                  have eqx2 : w15.cell? ⟨w.heap.size, 2, none⟩ = some (.int .i64 la0) := G5.out.r4.bc.cell 2
                  have eqx3 : w15.cell? ⟨w.heap.size, 3, none⟩ = some (.int .i64 mo0) := G5.out.r4.bc.cell 3
                  have eqx4 : w15.cell? ⟨w.heap.size, 4, none⟩ = some (.slice sc n kc) := G5.out.r4.bc.cell 4
                  have epx0 : w15.cell? ⟨w.heap.size + 1, 0, none⟩ = some (.int .i64 co1) := G5.out.r4.bd.cell 0
                  have epx1 : w15.cell? ⟨w.heap.size + 1, 1, none⟩ = some (.int .i64 sy1) := G5.out.r4.bd.cell 1
                  have epx2 : w15.cell? ⟨w.heap.size + 1, 2, none⟩ = some (.int .i64 la1) := G5.out.r4.bd.cell 2
                  have epx3 : w15.cell? ⟨w.heap.size + 1, 3, none⟩ = some (.int .i64 mo1) := G5.out.r4.bd.cell 3
                  have epx4 : w15.cell? ⟨w.heap.size + 1, 4, none⟩ = some (.slice sd n' kd) := G5.out.r4.bd.cell 4
                  have erx0 : w15.cell? ⟨w.heap.size + 2, 0, none⟩ = some (.int .i64 c2) := G5.out.r4.bt.cell 0
                  have erx1 : w15.cell? ⟨w.heap.size + 2, 1, none⟩ = some (.int .i64 d2) := G5.out.r4.bt.cell 1
                  have erx2 : w15.cell? ⟨w.heap.size + 2, 2, none⟩ = some (.int .i64 t2) := G5.out.r4.bt.cell 2
                  have erx3 : w15.cell? ⟨w.heap.size + 2, 3, none⟩ = some (.slice st q kt) := G5.out.r4.bt.cell 3
                  have esx0 : w15.cell? ⟨w.heap.size + 3, 0, none⟩ = some (.int .i64 c3) := G5.out.r4.bu.cell 0
                  have esx1 : w15.cell? ⟨w.heap.size + 3, 1, none⟩ = some (.int .i64 d3) := G5.out.r4.bu.cell 1
                  have esx2 : w15.cell? ⟨w.heap.size + 3, 2, none⟩ = some (.int .i64 t3) := G5.out.r4.bu.cell 2
                  have esx3 : w15.cell? ⟨w.heap.size + 3, 3, none⟩ = some (.slice su q' ku) := G5.out.r4.bu.cell 3
                  go_wp2_with fail
                  refine (refPutTsk_s c2 d2 t2 (.slice st q kt) m r _ G5.out.r4.env G5.out.sect LL.out.2.2.1 HR.out).mono ?_
                  rintro e w16 ⟨rfl, g⟩
                  have G6 : Hid (Cop4 w co0 sy0 la0 mo0 sc n kc l co1 sy1 la1 mo1 sd n' kd l' c2 d2 t2 st q kt m c3 d3 t3 su q' ku m' w16) := G5.out.below g
                  clear g
                  have eqx0 : w16.cell? ⟨w.heap.size, 0, none⟩ = some (.int .i64 co0) := G6.out.r4.bc.cell 0
                  have eqx1 : w16.cell? ⟨w.heap.size, 1, none⟩ = some (.int .i64 sy0) := G6.out.r4.bc.cell 1
                  have eqx2 : w16.cell? ⟨w.heap.size, 2, none⟩ = some (.int .i64 la0) := G6.out.r4.bc.cell 2
                  have eqx3 : w16.cell? ⟨w.heap.size, 3, none⟩ = some (.int .i64 mo0) := G6.out.r4.bc.cell 3
                  have eqx4 : w16.cell? ⟨w.heap.size, 4, none⟩ = some (.slice sc n kc) := G6.out.r4.bc.cell 4
                  have epx0 : w16.cell? ⟨w.heap.size + 1, 0, none⟩ = some (.int .i64 co1) := G6.out.r4.bd.cell 0
                  have epx1 : w16.cell? ⟨w.heap.size + 1, 1, none⟩ = some (.int .i64 sy1) := G6.out.r4.bd.cell 1
                  have epx2 : w16.cell? ⟨w.heap.size + 1, 2, none⟩ = some (.int .i64 la1) := G6.out.r4.bd.cell 2
                  have epx3 : w16.cell? ⟨w.heap.size + 1, 3, none⟩ = some (.int .i64 mo1) := G6.out.r4.bd.cell 3
                  have epx4 : w16.cell? ⟨w.heap.size + 1, 4, none⟩ = some (.slice sd n' kd) := G6.out.r4.bd.cell 4
                  have erx0 : w16.cell? ⟨w.heap.size + 2, 0, none⟩ = some (.int .i64 c2) := G6.out.r4.bt.cell 0
                  have erx1 : w16.cell? ⟨w.heap.size + 2, 1, none⟩ = some (.int .i64 d2) := G6.out.r4.bt.cell 1
                  have erx2 : w16.cell? ⟨w.heap.size + 2, 2, none⟩ = some (.int .i64 t2) := G6.out.r4.bt.cell 2
                  have erx3 : w16.cell? ⟨w.heap.size + 2, 3, none⟩ = some (.slice st q kt) := G6.out.r4.bt.cell 3
                  have esx0 : w16.cell? ⟨w.heap.size + 3, 0, none⟩ = some (.int .i64 c3) := G6.out.r4.bu.cell 0
                  have esx1 : w16.cell? ⟨w.heap.size + 3, 1, none⟩ = some (.int .i64 d3) := G6.out.r4.bu.cell 1
                  have esx2 : w16.cell? ⟨w.heap.size + 3, 2, none⟩ = some (.int .i64 t3) := G6.out.r4.bu.cell 2
                  have esx3 : w16.cell? ⟨w.heap.size + 3, 3, none⟩ = some (.slice su q' ku) := G6.out.r4.bu.cell 3
                  go_wp2_with fail
                  refine (sameCfg_at co0 sy0 la0 mo0 co1 sy1 la1 mo1 (.slice sc n kc) (.slice sd n' kd) l l' _ G6.out.intc G6.out.intd LL.out.1 LL.out.2.1 true (decide_eq_true he)).mono ?_
                  rintro e w17 ⟨rfl, g⟩
                  have G7 : Hid (Cop4 w co0 sy0 la0 mo0 sc n kc l co1 sy1 la1 mo1 sd n' kd l' c2 d2 t2 st q kt m c3 d3 t3 su q' ku m' w17) := G6.out.below g
                  clear g
                  have eqx0 : w17.cell? ⟨w.heap.size, 0, none⟩ = some (.int .i64 co0) := G7.out.r4.bc.cell 0
                  have eqx1 : w17.cell? ⟨w.heap.size, 1, none⟩ = some (.int .i64 sy0) := G7.out.r4.bc.cell 1
                  have eqx2 : w17.cell? ⟨w.heap.size, 2, none⟩ = some (.int .i64 la0) := G7.out.r4.bc.cell 2
                  have eqx3 : w17.cell? ⟨w.heap.size, 3, none⟩ = some (.int .i64 mo0) := G7.out.r4.bc.cell 3
                  have eqx4 : w17.cell? ⟨w.heap.size, 4, none⟩ = some (.slice sc n kc) := G7.out.r4.bc.cell 4
                  have epx0 : w17.cell? ⟨w.heap.size + 1, 0, none⟩ = some (.int .i64 co1) := G7.out.r4.bd.cell 0
                  have epx1 : w17.cell? ⟨w.heap.size + 1, 1, none⟩ = some (.int .i64 sy1) := G7.out.r4.bd.cell 1
                  have epx2 : w17.cell? ⟨w.heap.size + 1, 2, none⟩ = some (.int .i64 la1) := G7.out.r4.bd.cell 2
                  have epx3 : w17.cell? ⟨w.heap.size + 1, 3, none⟩ = some (.int .i64 mo1) := G7.out.r4.bd.cell 3
                  have epx4 : w17.cell? ⟨w.heap.size + 1, 4, none⟩ = some (.slice sd n' kd) := G7.out.r4.bd.cell 4
                  have erx0 : w17.cell? ⟨w.heap.size + 2, 0, none⟩ = some (.int .i64 c2) := G7.out.r4.bt.cell 0
                  have erx1 : w17.cell? ⟨w.heap.size + 2, 1, none⟩ = some (.int .i64 d2) := G7.out.r4.bt.cell 1
                  have erx2 : w17.cell? ⟨w.heap.size + 2, 2, none⟩ = some (.int .i64 t2) := G7.out.r4.bt.cell 2
                  have erx3 : w17.cell? ⟨w.heap.size + 2, 3, none⟩ = some (.slice st q kt) := G7.out.r4.bt.cell 3
                  have esx0 : w17.cell? ⟨w.heap.size + 3, 0, none⟩ = some (.int .i64 c3) := G7.out.r4.bu.cell 0
                  have esx1 : w17.cell? ⟨w.heap.size + 3, 1, none⟩ = some (.int .i64 d3) := G7.out.r4.bu.cell 1
                  have esx2 : w17.cell? ⟨w.heap.size + 3, 2, none⟩ = some (.int .i64 t3) := G7.out.r4.bu.cell 2
                  have esx3 : w17.cell? ⟨w.heap.size + 3, 3, none⟩ = some (.slice su q' ku) := G7.out.r4.bu.cell 3
                  go_wp2_with fail
                  refine (sameTsk_at c2 d2 t2 c3 d3 t3 (.slice st q kt) (.slice su q' ku) m m' _ G7.out.sect G7.out.secu LL.out.2.2.1 LL.out.2.2.2 false (decide_eq_false hv)).mono ?_
                  rintro e w18 ⟨rfl, g⟩
                  have G8 : Hid (Cop4 w co0 sy0 la0 mo0 sc n kc l co1 sy1 la1 mo1 sd n' kd l' c2 d2 t2 st q kt m c3 d3 t3 su q' ku m' w18) := G7.out.below g
                  clear g
                  have eqx0 : w18.cell? ⟨w.heap.size, 0, none⟩ = some (.int .i64 co0) := G8.out.r4.bc.cell 0
                  have eqx1 : w18.cell? ⟨w.heap.size, 1, none⟩ = some (.int .i64 sy0) := G8.out.r4.bc.cell 1
                  have eqx2 : w18.cell? ⟨w.heap.size, 2, none⟩ = some (.int .i64 la0) := G8.out.r4.bc.cell 2
                  have eqx3 : w18.cell? ⟨w.heap.size, 3, none⟩ = some (.int .i64 mo0) := G8.out.r4.bc.cell 3
                  have eqx4 : w18.cell? ⟨w.heap.size, 4, none⟩ = some (.slice sc n kc) := G8.out.r4.bc.cell 4
                  have epx0 : w18.cell? ⟨w.heap.size + 1, 0, none⟩ = some (.int .i64 co1) := G8.out.r4.bd.cell 0
                  have epx1 : w18.cell? ⟨w.heap.size + 1, 1, none⟩ = some (.int .i64 sy1) := G8.out.r4.bd.cell 1
                  have epx2 : w18.cell? ⟨w.heap.size + 1, 2, none⟩ = some (.int .i64 la1) := G8.out.r4.bd.cell 2
                  have epx3 : w18.cell? ⟨w.heap.size + 1, 3, none⟩ = some (.int .i64 mo1) := G8.out.r4.bd.cell 3
                  have epx4 : w18.cell? ⟨w.heap.size + 1, 4, none⟩ = some (.slice sd n' kd) := G8.out.r4.bd.cell 4
                  have erx0 : w18.cell? ⟨w.heap.size + 2, 0, none⟩ = some (.int .i64 c2) := G8.out.r4.bt.cell 0
                  have erx1 : w18.cell? ⟨w.heap.size + 2, 1, none⟩ = some (.int .i64 d2) := G8.out.r4.bt.cell 1
                  have erx2 : w18.cell? ⟨w.heap.size + 2, 2, none⟩ = some (.int .i64 t2) := G8.out.r4.bt.cell 2
                  have erx3 : w18.cell? ⟨w.heap.size + 2, 3, none⟩ = some (.slice st q kt) := G8.out.r4.bt.cell 3
                  have esx0 : w18.cell? ⟨w.heap.size + 3, 0, none⟩ = some (.int .i64 c3) := G8.out.r4.bu.cell 0
                  have esx1 : w18.cell? ⟨w.heap.size + 3, 1, none⟩ = some (.int .i64 d3) := G8.out.r4.bu.cell 1
                  have esx2 : w18.cell? ⟨w.heap.size + 3, 2, none⟩ = some (.int .i64 t3) := G8.out.r4.bu.cell 2
                  have esx3 : w18.cell? ⟨w.heap.size + 3, 3, none⟩ = some (.slice su q' ku) := G8.out.r4.bu.cell 3
                  go_wp2_with fail
                  go_meet
                  exact ⟨rfl, G8.out⟩
                  -- ]LCD
          · cases ht : tskB 6 (⟨c2, d2, t2, m⟩ : Tsk)
            · -- [LDA
              have hp := put_yes HP.out hc
              have NAhp : ¬ p.toList = [] := put_yes2 (hp)
              have NBhp : p.toList.isEmpty = false := by simpa using NAhp
              have hq := put_yes HQ.out hd
              have NAhq : ¬ p'.toList = [] := put_yes2 (hq)
              have NBhq : p'.toList.isEmpty = false := by simpa using NAhq
              have hpq := cfg_ne HP.out hc HQ.out hd he
              have k1hpq : ¬ p.toList = p'.toList := toL_ne hpq
              have k2hpq : decide (p.toList = p'.toList) = false := decide_eq_false k1hpq
              have k3hpq : (p.toList == p'.toList) = false := by simpa using k1hpq
              obtain rfl : r = ⟨#[]⟩ := putt_no HR.out ht
              go_wp2_with fail
              refine (refPutCfg_s co0 sy0 la0 mo0 (.slice sc n kc) l p _ G4.out.r4.env G4.out.intc LL.out.1 HP.out).mono ?_
              rintro e w15 ⟨rfl, g⟩
              have G5 : Hid (Cop4 w co0 sy0 la0 mo0 sc n kc l co1 sy1 la1 mo1 sd n' kd l' c2 d2 t2 st q kt m c3 d3 t3 su q' ku m' w15) := G4.out.below g
              clear g
              have eqx0 : w15.cell? ⟨w.heap.size, 0, none⟩ = some (.int .i64 co0) := G5.out.r4.bc.cell 0
              have eqx1 : w15.cell? ⟨w.heap.size, 1, none⟩ = some (.int .i64 sy0) := G5.out.r4.bc.cell 1
              have eqx2 : w15.cell? ⟨w.heap.size, 2, none⟩ = some (.int .i64 la0) := G5.out.r4.bc.cell 2
              have eqx3 : w15.cell? ⟨w.heap.size, 3, none⟩ = some (.int .i64 mo0) := G5.out.r4.bc.cell 3
              have eqx4 : w15.cell? ⟨w.heap.size, 4, none⟩ = some (.slice sc n kc) := G5.out.r4.bc.cell 4
              have epx0 : w15.cell? ⟨w.heap.size + 1, 0, none⟩ = some (.int .i64 co1) := G5.out.r4.bd.cell 0
              have epx1 : w15.cell? ⟨w.heap.size + 1, 1, none⟩ = some (.int .i64 sy1) := G5.out.r4.bd.cell 1
              have epx2 : w15.cell? ⟨w.heap.size + 1, 2, none⟩ = some (.int .i64 la1) := G5.out.r4.bd.cell 2
              have epx3 : w15.cell? ⟨w.heap.size + 1, 3, none⟩ = some (.int .i64 mo1) := G5.out.r4.bd.cell 3
              have epx4 : w15.cell? ⟨w.heap.size + 1, 4, none⟩ = some (.slice sd n' kd) := G5.out.r4.bd.cell 4
              have erx0 : w15.cell? ⟨w.heap.size + 2, 0, none⟩ = some (.int .i64 c2) := G5.out.r4.bt.cell 0
              have erx1 : w15.cell? ⟨w.heap.size + 2, 1, none⟩ = some (.int .i64 d2) := G5.out.r4.bt.cell 1
              have erx2 : w15.cell? ⟨w.heap.size + 2, 2, none⟩ = some (.int .i64 t2) := G5.out.r4.bt.cell 2
              have erx3 : w15.cell? ⟨w.heap.size + 2, 3, none⟩ = some (.slice st q kt) := G5.out.r4.bt.cell 3
              have esx0 : w15.cell? ⟨w.heap.size + 3, 0, none⟩ = some (.int .i64 c3) := G5.out.r4.bu.cell 0
              have esx1 : w15.cell? ⟨w.heap.size + 3, 1, none⟩ = some (.int .i64 d3) := G5.out.r4.bu.cell 1
              have esx2 : w15.cell? ⟨w.heap.size + 3, 2, none⟩ = some (.int .i64 t3) := G5.out.r4.bu.cell 2
              have esx3 : w15.cell? ⟨w.heap.size + 3, 3, none⟩ = some (.slice su q' ku) := G5.out.r4.bu.cell 3
              go_wp2_with fail
              refine (refPutTsk_s c2 d2 t2 (.slice st q kt) m ⟨#[]⟩ _ G5.out.r4.env G5.out.sect LL.out.2.2.1 HR.out).mono ?_
              rintro e w16 ⟨rfl, g⟩
              have G6 : Hid (Cop4 w co0 sy0 la0 mo0 sc n kc l co1 sy1 la1 mo1 sd n' kd l' c2 d2 t2 st q kt m c3 d3 t3 su q' ku m' w16) := G5.out.below g
              clear g
              have eqx0 : w16.cell? ⟨w.heap.size, 0, none⟩ = some (.int .i64 co0) := G6.out.r4.bc.cell 0
              have eqx1 : w16.cell? ⟨w.heap.size, 1, none⟩ = some (.int .i64 sy0) := G6.out.r4.bc.cell 1
              have eqx2 : w16.cell? ⟨w.heap.size, 2, none⟩ = some (.int .i64 la0) := G6.out.r4.bc.cell 2
              have eqx3 : w16.cell? ⟨w.heap.size, 3, none⟩ = some (.int .i64 mo0) := G6.out.r4.bc.cell 3
              have eqx4 : w16.cell? ⟨w.heap.size, 4, none⟩ = some (.slice sc n kc) := G6.out.r4.bc.cell 4
              have epx0 : w16.cell? ⟨w.heap.size + 1, 0, none⟩ = some (.int .i64 co1) := G6.out.r4.bd.cell 0
              have epx1 : w16.cell? ⟨w.heap.size + 1, 1, none⟩ = some (.int .i64 sy1) := G6.out.r4.bd.cell 1
              have epx2 : w16.cell? ⟨w.heap.size + 1, 2, none⟩ = some (.int .i64 la1) := G6.out.r4.bd.cell 2
              have epx3 : w16.cell? ⟨w.heap.size + 1, 3, none⟩ = some (.int .i64 mo1) := G6.out.r4.bd.cell 3
              have epx4 : w16.cell? ⟨w.heap.size + 1, 4, none⟩ = some (.slice sd n' kd) := G6.out.r4.bd.cell 4
              have erx0 : w16.cell? ⟨w.heap.size + 2, 0, none⟩ = some (.int .i64 c2) := G6.out.r4.bt.cell 0
              have erx1 : w16.cell? ⟨w.heap.size + 2, 1, none⟩ = some (.int .i64 d2) := G6.out.r4.bt.cell 1
              have erx2 : w16.cell? ⟨w.heap.size + 2, 2, none⟩ = some (.int .i64 t2) := G6.out.r4.bt.cell 2
              have erx3 : w16.cell? ⟨w.heap.size + 2, 3, none⟩ = some (.slice st q kt) := G6.out.r4.bt.cell 3
              have esx0 : w16.cell? ⟨w.heap.size + 3, 0, none⟩ = some (.int .i64 c3) := G6.out.r4.bu.cell 0
              have esx1 : w16.cell? ⟨w.heap.size + 3, 1, none⟩ = some (.int .i64 d3) := G6.out.r4.bu.cell 1
              have esx2 : w16.cell? ⟨w.heap.size + 3, 2, none⟩ = some (.int .i64 t3) := G6.out.r4.bu.cell 2
              have esx3 : w16.cell? ⟨w.heap.size + 3, 3, none⟩ = some (.slice su q' ku) := G6.out.r4.bu.cell 3
              go_wp2_with fail
              refine (sameCfg_at co0 sy0 la0 mo0 co1 sy1 la1 mo1 (.slice sc n kc) (.slice sd n' kd) l l' _ G6.out.intc G6.out.intd LL.out.1 LL.out.2.1 false (decide_eq_false he)).mono ?_
              rintro e w17 ⟨rfl, g⟩
              have G7 : Hid (Cop4 w co0 sy0 la0 mo0 sc n kc l co1 sy1 la1 mo1 sd n' kd l' c2 d2 t2 st q kt m c3 d3 t3 su q' ku m' w17) := G6.out.below g
              clear g
              have eqx0 : w17.cell? ⟨w.heap.size, 0, none⟩ = some (.int .i64 co0) := G7.out.r4.bc.cell 0
              have eqx1 : w17.cell? ⟨w.heap.size, 1, none⟩ = some (.int .i64 sy0) := G7.out.r4.bc.cell 1
              have eqx2 : w17.cell? ⟨w.heap.size, 2, none⟩ = some (.int .i64 la0) := G7.out.r4.bc.cell 2
              have eqx3 : w17.cell? ⟨w.heap.size, 3, none⟩ = some (.int .i64 mo0) := G7.out.r4.bc.cell 3
              have eqx4 : w17.cell? ⟨w.heap.size, 4, none⟩ = some (.slice sc n kc) := G7.out.r4.bc.cell 4
              have epx0 : w17.cell? ⟨w.heap.size + 1, 0, none⟩ = some (.int .i64 co1) := G7.out.r4.bd.cell 0
              have epx1 : w17.cell? ⟨w.heap.size + 1, 1, none⟩ = some (.int .i64 sy1) := G7.out.r4.bd.cell 1
              have epx2 : w17.cell? ⟨w.heap.size + 1, 2, none⟩ = some (.int .i64 la1) := G7.out.r4.bd.cell 2
              have epx3 : w17.cell? ⟨w.heap.size + 1, 3, none⟩ = some (.int .i64 mo1) := G7.out.r4.bd.cell 3
              have epx4 : w17.cell? ⟨w.heap.size + 1, 4, none⟩ = some (.slice sd n' kd) := G7.out.r4.bd.cell 4
              have erx0 : w17.cell? ⟨w.heap.size + 2, 0, none⟩ = some (.int .i64 c2) := G7.out.r4.bt.cell 0
              have erx1 : w17.cell? ⟨w.heap.size + 2, 1, none⟩ = some (.int .i64 d2) := G7.out.r4.bt.cell 1
              have erx2 : w17.cell? ⟨w.heap.size + 2, 2, none⟩ = some (.int .i64 t2) := G7.out.r4.bt.cell 2
              have erx3 : w17.cell? ⟨w.heap.size + 2, 3, none⟩ = some (.slice st q kt) := G7.out.r4.bt.cell 3
              have esx0 : w17.cell? ⟨w.heap.size + 3, 0, none⟩ = some (.int .i64 c3) := G7.out.r4.bu.cell 0
              have esx1 : w17.cell? ⟨w.heap.size + 3, 1, none⟩ = some (.int .i64 d3) := G7.out.r4.bu.cell 1
              have esx2 : w17.cell? ⟨w.heap.size + 3, 2, none⟩ = some (.int .i64 t3) := G7.out.r4.bu.cell 2
              have esx3 : w17.cell? ⟨w.heap.size + 3, 3, none⟩ = some (.slice su q' ku) := G7.out.r4.bu.cell 3
              go_wp2_with fail
              go_meet
              exact ⟨rfl, G7.out⟩
              -- ]LDA
            · cases hu : tskB 6 (⟨c3, d3, t3, m'⟩ : Tsk)
              · -- [LDB
                have hp := put_yes HP.out hc
                have NAhp : ¬ p.toList = [] := put_yes2 (hp)
                have NBhp : p.toList.isEmpty = false := by simpa using NAhp
                have hq := put_yes HQ.out hd
                have NAhq : ¬ p'.toList = [] := put_yes2 (hq)
                have NBhq : p'.toList.isEmpty = false := by simpa using NAhq
                have hpq := cfg_ne HP.out hc HQ.out hd he
                have k1hpq : ¬ p.toList = p'.toList := toL_ne hpq
                have k2hpq : decide (p.toList = p'.toList) = false := decide_eq_false k1hpq
                have k3hpq : (p.toList == p'.toList) = false := by simpa using k1hpq
                have hr := putt_yes HR.out ht
                have NAhr : ¬ r.toList = [] := put_yes2 (hr)
                have NBhr : r.toList.isEmpty = false := by simpa using NAhr
                obtain rfl : r' = ⟨#[]⟩ := putt_no HS.out hu
                go_wp2_with fail
                refine (refPutCfg_s co0 sy0 la0 mo0 (.slice sc n kc) l p _ G4.out.r4.env G4.out.intc LL.out.1 HP.out).mono ?_
                rintro e w15 ⟨rfl, g⟩
                have G5 : Hid (Cop4 w co0 sy0 la0 mo0 sc n kc l co1 sy1 la1 mo1 sd n' kd l' c2 d2 t2 st q kt m c3 d3 t3 su q' ku m' w15) := G4.out.below g
                clear g
                have eqx0 : w15.cell? ⟨w.heap.size, 0, none⟩ = some (.int .i64 co0) := G5.out.r4.bc.cell 0
                have eqx1 : w15.cell? ⟨w.heap.size, 1, none⟩ = some (.int .i64 sy0) := G5.out.r4.bc.cell 1
                have eqx2 : w15.cell? ⟨w.heap.size, 2, none⟩ = some (.int .i64 la0) := G5.out.r4.bc.cell 2
                have eqx3 : w15.cell? ⟨w.heap.size, 3, none⟩ = some (.int .i64 mo0) := G5.out.r4.bc.cell 3
                have eqx4 : w15.cell? ⟨w.heap.size, 4, none⟩ = some (.slice sc n kc) := G5.out.r4.bc.cell 4
                have epx0 : w15.cell? ⟨w.heap.size + 1, 0, none⟩ = some (.int .i64 co1) := G5.out.r4.bd.cell 0
                have epx1 : w15.cell? ⟨w.heap.size + 1, 1, none⟩ = some (.int .i64 sy1) := G5.out.r4.bd.cell 1
                have epx2 : w15.cell? ⟨w.heap.size + 1, 2, none⟩ = some (.int .i64 la1) := G5.out.r4.bd.cell 2
                have epx3 : w15.cell? ⟨w.heap.size + 1, 3, none⟩ = some (.int .i64 mo1) := G5.out.r4.bd.cell 3
                have epx4 : w15.cell? ⟨w.heap.size + 1, 4, none⟩ = some (.slice sd n' kd) := G5.out.r4.bd.cell 4
                have erx0 : w15.cell? ⟨w.heap.size + 2, 0, none⟩ = some (.int .i64 c2) := G5.out.r4.bt.cell 0
                have erx1 : w15.cell? ⟨w.heap.size + 2, 1, none⟩ = some (.int .i64 d2) := G5.out.r4.bt.cell 1
                have erx2 : w15.cell? ⟨w.heap.size + 2, 2, none⟩ = some (.int .i64 t2) := G5.out.r4.bt.cell 2
                have erx3 : w15.cell? ⟨w.heap.size + 2, 3, none⟩ = some (.slice st q kt) := G5.out.r4.bt.cell 3
                have esx0 : w15.cell? ⟨w.heap.size + 3, 0, none⟩ = some (.int .i64 c3) := G5.out.r4.bu.cell 0
                have esx1 : w15.cell? ⟨w.heap.size + 3, 1, none⟩ = some (.int .i64 d3) := G5.out.r4.bu.cell 1
                have esx2 : w15.cell? ⟨w.heap.size + 3, 2, none⟩ = some (.int .i64 t3) := G5.out.r4.bu.cell 2
                have esx3 : w15.cell? ⟨w.heap.size + 3, 3, none⟩ = some (.slice su q' ku) := G5.out.r4.bu.cell 3
                go_wp2_with fail
                refine (refPutTsk_s c2 d2 t2 (.slice st q kt) m r _ G5.out.r4.env G5.out.sect LL.out.2.2.1 HR.out).mono ?_
                rintro e w16 ⟨rfl, g⟩
                have G6 : Hid (Cop4 w co0 sy0 la0 mo0 sc n kc l co1 sy1 la1 mo1 sd n' kd l' c2 d2 t2 st q kt m c3 d3 t3 su q' ku m' w16) := G5.out.below g
                clear g
                have eqx0 : w16.cell? ⟨w.heap.size, 0, none⟩ = some (.int .i64 co0) := G6.out.r4.bc.cell 0
                have eqx1 : w16.cell? ⟨w.heap.size, 1, none⟩ = some (.int .i64 sy0) := G6.out.r4.bc.cell 1
                have eqx2 : w16.cell? ⟨w.heap.size, 2, none⟩ = some (.int .i64 la0) := G6.out.r4.bc.cell 2
                have eqx3 : w16.cell? ⟨w.heap.size, 3, none⟩ = some (.int .i64 mo0) := G6.out.r4.bc.cell 3
                have eqx4 : w16.cell? ⟨w.heap.size, 4, none⟩ = some (.slice sc n kc) := G6.out.r4.bc.cell 4
                have epx0 : w16.cell? ⟨w.heap.size + 1, 0, none⟩ = some (.int .i64 co1) := G6.out.r4.bd.cell 0
                have epx1 : w16.cell? ⟨w.heap.size + 1, 1, none⟩ = some (.int .i64 sy1) := G6.out.r4.bd.cell 1
                have epx2 : w16.cell? ⟨w.heap.size + 1, 2, none⟩ = some (.int .i64 la1) := G6.out.r4.bd.cell 2
                have epx3 : w16.cell? ⟨w.heap.size + 1, 3, none⟩ = some (.int .i64 mo1) := G6.out.r4.bd.cell 3
                have epx4 : w16.cell? ⟨w.heap.size + 1, 4, none⟩ = some (.slice sd n' kd) := G6.out.r4.bd.cell 4
                have erx0 : w16.cell? ⟨w.heap.size + 2, 0, none⟩ = some (.int .i64 c2) := G6.out.r4.bt.cell 0
                have erx1 : w16.cell? ⟨w.heap.size + 2, 1, none⟩ = some (.int .i64 d2) := G6.out.r4.bt.cell 1
                have erx2 : w16.cell? ⟨w.heap.size + 2, 2, none⟩ = some (.int .i64 t2) := G6.out.r4.bt.cell 2
                have erx3 : w16.cell? ⟨w.heap.size + 2, 3, none⟩ = some (.slice st q kt) := G6.out.r4.bt.cell 3
                have esx0 : w16.cell? ⟨w.heap.size + 3, 0, none⟩ = some (.int .i64 c3) := G6.out.r4.bu.cell 0
                have esx1 : w16.cell? ⟨w.heap.size + 3, 1, none⟩ = some (.int .i64 d3) := G6.out.r4.bu.cell 1
                have esx2 : w16.cell? ⟨w.heap.size + 3, 2, none⟩ = some (.int .i64 t3) := G6.out.r4.bu.cell 2
                have esx3 : w16.cell? ⟨w.heap.size + 3, 3, none⟩ = some (.slice su q' ku) := G6.out.r4.bu.cell 3
                go_wp2_with fail
                refine (sameCfg_at co0 sy0 la0 mo0 co1 sy1 la1 mo1 (.slice sc n kc) (.slice sd n' kd) l l' _ G6.out.intc G6.out.intd LL.out.1 LL.out.2.1 false (decide_eq_false he)).mono ?_
                rintro e w17 ⟨rfl, g⟩
                have G7 : Hid (Cop4 w co0 sy0 la0 mo0 sc n kc l co1 sy1 la1 mo1 sd n' kd l' c2 d2 t2 st q kt m c3 d3 t3 su q' ku m' w17) := G6.out.below g
                clear g
                have eqx0 : w17.cell? ⟨w.heap.size, 0, none⟩ = some (.int .i64 co0) := G7.out.r4.bc.cell 0
                have eqx1 : w17.cell? ⟨w.heap.size, 1, none⟩ = some (.int .i64 sy0) := G7.out.r4.bc.cell 1
                have eqx2 : w17.cell? ⟨w.heap.size, 2, none⟩ = some (.int .i64 la0) := G7.out.r4.bc.cell 2
                have eqx3 : w17.cell? ⟨w.heap.size, 3, none⟩ = some (.int .i64 mo0) := G7.out.r4.bc.cell 3
                have eqx4 : w17.cell? ⟨w.heap.size, 4, none⟩ = some (.slice sc n kc) := G7.out.r4.bc.cell 4
                have epx0 : w17.cell? ⟨w.heap.size + 1, 0, none⟩ = some (.int .i64 co1) := G7.out.r4.bd.cell 0
                have epx1 : w17.cell? ⟨w.heap.size + 1, 1, none⟩ = some (.int .i64 sy1) := G7.out.r4.bd.cell 1
                have epx2 : w17.cell? ⟨w.heap.size + 1, 2, none⟩ = some (.int .i64 la1) := G7.out.r4.bd.cell 2
                have epx3 : w17.cell? ⟨w.heap.size + 1, 3, none⟩ = some (.int .i64 mo1) := G7.out.r4.bd.cell 3
                have epx4 : w17.cell? ⟨w.heap.size + 1, 4, none⟩ = some (.slice sd n' kd) := G7.out.r4.bd.cell 4
                have erx0 : w17.cell? ⟨w.heap.size + 2, 0, none⟩ = some (.int .i64 c2) := G7.out.r4.bt.cell 0
                have erx1 : w17.cell? ⟨w.heap.size + 2, 1, none⟩ = some (.int .i64 d2) := G7.out.r4.bt.cell 1
                have erx2 : w17.cell? ⟨w.heap.size + 2, 2, none⟩ = some (.int .i64 t2) := G7.out.r4.bt.cell 2
                have erx3 : w17.cell? ⟨w.heap.size + 2, 3, none⟩ = some (.slice st q kt) := G7.out.r4.bt.cell 3
                have esx0 : w17.cell? ⟨w.heap.size + 3, 0, none⟩ = some (.int .i64 c3) := G7.out.r4.bu.cell 0
                have esx1 : w17.cell? ⟨w.heap.size + 3, 1, none⟩ = some (.int .i64 d3) := G7.out.r4.bu.cell 1
                have esx2 : w17.cell? ⟨w.heap.size + 3, 2, none⟩ = some (.int .i64 t3) := G7.out.r4.bu.cell 2
                have esx3 : w17.cell? ⟨w.heap.size + 3, 3, none⟩ = some (.slice su q' ku) := G7.out.r4.bu.cell 3
                go_wp2_with fail
                go_meet
                exact ⟨rfl, G7.out⟩
                -- ]LDB
              · by_cases hv : (⟨c2, d2, t2, m⟩ : Tsk) = (⟨c3, d3, t3, m'⟩ : Tsk)
                · -- [LDC
                  have hp := put_yes HP.out hc
                  have NAhp : ¬ p.toList = [] := put_yes2 (hp)
                  have NBhp : p.toList.isEmpty = false := by simpa using NAhp
                  have hq := put_yes HQ.out hd
                  have NAhq : ¬ p'.toList = [] := put_yes2 (hq)
                  have NBhq : p'.toList.isEmpty = false := by simpa using NAhq
                  have hpq := cfg_ne HP.out hc HQ.out hd he
                  have k1hpq : ¬ p.toList = p'.toList := toL_ne hpq
                  have k2hpq : decide (p.toList = p'.toList) = false := decide_eq_false k1hpq
                  have k3hpq : (p.toList == p'.toList) = false := by simpa using k1hpq
                  have hr := putt_yes HR.out ht
                  have NAhr : ¬ r.toList = [] := put_yes2 (hr)
                  have NBhr : r.toList.isEmpty = false := by simpa using NAhr
                  have hs := putt_yes HS.out hu
                  have NAhs : ¬ r'.toList = [] := put_yes2 (hs)
                  have NBhs : r'.toList.isEmpty = false := by simpa using NAhs
                  obtain rfl := tsk_alike HR.out HS.out hv
                  go_wp2_with fail
                  refine (refPutCfg_s co0 sy0 la0 mo0 (.slice sc n kc) l p _ G4.out.r4.env G4.out.intc LL.out.1 HP.out).mono ?_
                  rintro e w15 ⟨rfl, g⟩
                  have G5 : Hid (Cop4 w co0 sy0 la0 mo0 sc n kc l co1 sy1 la1 mo1 sd n' kd l' c2 d2 t2 st q kt m c3 d3 t3 su q' ku m' w15) := G4.out.below g
                  clear g
                  have eqx0 : w15.cell? ⟨w.heap.size, 0, none⟩ = some (.int .i64 co0) := G5.out.r4.bc.cell 0
                  have eqx1 : w15.cell? ⟨w.heap.size, 1, none⟩ = some (.int .i64 sy0) := G5.out.r4.bc.cell 1
                  have eqx2 : w15.cell? ⟨w.heap.size, 2, none⟩ = some (.int .i64 la0) := G5.out.r4.bc.cell 2
                  have eqx3 : w15.cell? ⟨w.heap.size, 3, none⟩ = some (.int .i64 mo0) := G5.out.r4.bc.cell 3
                  have eqx4 : w15.cell? ⟨w.heap.size, 4, none⟩ = some (.slice sc n kc) := G5.out.r4.bc.cell 4
                  have epx0 : w15.cell? ⟨w.heap.size + 1, 0, none⟩ = some (.int .i64 co1) := G5.out.r4.bd.cell 0
                  have epx1 : w15.cell? ⟨w.heap.size + 1, 1, none⟩ = some (.int .i64 sy1) := G5.out.r4.bd.cell 1
                  have epx2 : w15.cell? ⟨w.heap.size + 1, 2, none⟩ = some (.int .i64 la1) := G5.out.r4.bd.cell 2
                  have epx3 : w15.cell? ⟨w.heap.size + 1, 3, none⟩ = some (.int .i64 mo1) := G5.out.r4.bd.cell 3
                  have epx4 : w15.cell? ⟨w.heap.size + 1, 4, none⟩ = some (.slice sd n' kd) := G5.out.r4.bd.cell 4
                  have erx0 : w15.cell? ⟨w.heap.size + 2, 0, none⟩ = some (.int .i64 c2) := G5.out.r4.bt.cell 0
                  have erx1 : w15.cell? ⟨w.heap.size + 2, 1, none⟩ = some (.int .i64 d2) := G5.out.r4.bt.cell 1
                  have erx2 : w15.cell? ⟨w.heap.size + 2, 2, none⟩ = some (.int .i64 t2) := G5.out.r4.bt.cell 2
                  have erx3 : w15.cell? ⟨w.heap.size + 2, 3, none⟩ = some (.slice st q kt) := G5.out.r4.bt.cell 3
                  have esx0 : w15.cell? ⟨w.heap.size + 3, 0, none⟩ = some (.int .i64 c3) := G5.out.r4.bu.cell 0
                  have esx1 : w15.cell? ⟨w.heap.size + 3, 1, none⟩ = some (.int .i64 d3) := G5.out.r4.bu.cell 1
                  have esx2 : w15.cell? ⟨w.heap.size + 3, 2, none⟩ = some (.int .i64 t3) := G5.out.r4.bu.cell 2
                  have esx3 : w15.cell? ⟨w.heap.size + 3, 3, none⟩ = some (.slice su q' ku) := G5.out.r4.bu.cell 3
                  go_wp2_with fail
                  refine (refPutTsk_s c2 d2 t2 (.slice st q kt) m r _ G5.out.r4.env G5.out.sect LL.out.2.2.1 HR.out).mono ?_
                  rintro e w16 ⟨rfl, g⟩
                  have G6 : Hid (Cop4 w co0 sy0 la0 mo0 sc n kc l co1 sy1 la1 mo1 sd n' kd l' c2 d2 t2 st q kt m c3 d3 t3 su q' ku m' w16) := G5.out.below g
                  clear g
                  have eqx0 : w16.cell? ⟨w.heap.size, 0, none⟩ = some (.int .i64 co0) := G6.out.r4.bc.cell 0
                  have eqx1 : w16.cell? ⟨w.heap.size, 1, none⟩ = some (.int .i64 sy0) := G6.out.r4.bc.cell 1
                  have eqx2 : w16.cell? ⟨w.heap.size, 2, none⟩ = some (.int .i64 la0) := G6.out.r4.bc.cell 2
                  have eqx3 : w16.cell? ⟨w.heap.size, 3, none⟩ = some (.int .i64 mo0) := G6.out.r4.bc.cell 3
                  have eqx4 : w16.cell? ⟨w.heap.size, 4, none⟩ = some (.slice sc n kc) := G6.out.r4.bc.cell 4
                  have epx0 : w16.cell? ⟨w.heap.size + 1, 0, none⟩ = some (.int .i64 co1) := G6.out.r4.bd.cell 0
                  have epx1 : w16.cell? ⟨w.heap.size + 1, 1, none⟩ = some (.int .i64 sy1) := G6.out.r4.bd.cell 1
                  have epx2 : w16.cell? ⟨w.heap.size + 1, 2, none⟩ = some (.int .i64 la1) := G6.out.r4.bd.cell 2
                  have epx3 : w16.cell? ⟨w.heap.size + 1, 3, none⟩ = some (.int .i64 mo1) := G6.out.r4.bd.cell 3
                  have epx4 : w16.cell? ⟨w.heap.size + 1, 4, none⟩ = some (.slice sd n' kd) := G6.out.r4.bd.cell 4
                  have erx0 : w16.cell? ⟨w.heap.size + 2, 0, none⟩ = some (.int .i64 c2) := G6.out.r4.bt.cell 0
                  have erx1 : w16.cell? ⟨w.heap.size + 2, 1, none⟩ = some (.int .i64 d2) := G6.out.r4.bt.cell 1
                  have erx2 : w16.cell? ⟨w.heap.size + 2, 2, none⟩ = some (.int .i64 t2) := G6.out.r4.bt.cell 2
                  have erx3 : w16.cell? ⟨w.heap.size + 2, 3, none⟩ = some (.slice st q kt) := G6.out.r4.bt.cell 3
                  have esx0 : w16.cell? ⟨w.heap.size + 3, 0, none⟩ = some (.int .i64 c3) := G6.out.r4.bu.cell 0
                  have esx1 : w16.cell? ⟨w.heap.size + 3, 1, none⟩ = some (.int .i64 d3) := G6.out.r4.bu.cell 1
                  have esx2 : w16.cell? ⟨w.heap.size + 3, 2, none⟩ = some (.int .i64 t3) := G6.out.r4.bu.cell 2
                  have esx3 : w16.cell? ⟨w.heap.size + 3, 3, none⟩ = some (.slice su q' ku) := G6.out.r4.bu.cell 3
                  go_wp2_with fail
                  refine (sameCfg_at co0 sy0 la0 mo0 co1 sy1 la1 mo1 (.slice sc n kc) (.slice sd n' kd) l l' _ G6.out.intc G6.out.intd LL.out.1 LL.out.2.1 false (decide_eq_false he)).mono ?_
                  rintro e w17 ⟨rfl, g⟩
                  have G7 : Hid (Cop4 w co0 sy0 la0 mo0 sc n kc l co1 sy1 la1 mo1 sd n' kd l' c2 d2 t2 st q kt m c3 d3 t3 su q' ku m' w17) := G6.out.below g
                  clear g
                  have eqx0 : w17.cell? ⟨w.heap.size, 0, none⟩ = some (.int .i64 co0) := G7.out.r4.bc.cell 0
                  have eqx1 : w17.cell? ⟨w.heap.size, 1, none⟩ = some (.int .i64 sy0) := G7.out.r4.bc.cell 1
                  have eqx2 : w17.cell? ⟨w.heap.size, 2, none⟩ = some (.int .i64 la0) := G7.out.r4.bc.cell 2
                  have eqx3 : w17.cell? ⟨w.heap.size, 3, none⟩ = some (.int .i64 mo0) := G7.out.r4.bc.cell 3
                  have eqx4 : w17.cell? ⟨w.heap.size, 4, none⟩ = some (.slice sc n kc) := G7.out.r4.bc.cell 4
                  have epx0 : w17.cell? ⟨w.heap.size + 1, 0, none⟩ = some (.int .i64 co1) := G7.out.r4.bd.cell 0
                  have epx1 : w17.cell? ⟨w.heap.size + 1, 1, none⟩ = some (.int .i64 sy1) := G7.out.r4.bd.cell 1
                  have epx2 : w17.cell? ⟨w.heap.size + 1, 2, none⟩ = some (.int .i64 la1) := G7.out.r4.bd.cell 2
                  have epx3 : w17.cell? ⟨w.heap.size + 1, 3, none⟩ = some (.int .i64 mo1) := G7.out.r4.bd.cell 3
                  have epx4 : w17.cell? ⟨w.heap.size + 1, 4, none⟩ = some (.slice sd n' kd) := G7.out.r4.bd.cell 4
                  have erx0 : w17.cell? ⟨w.heap.size + 2, 0, none⟩ = some (.int .i64 c2) := G7.out.r4.bt.cell 0
                  have erx1 : w17.cell? ⟨w.heap.size + 2, 1, none⟩ = some (.int .i64 d2) := G7.out.r4.bt.cell 1
                  have erx2 : w17.cell? ⟨w.heap.size + 2, 2, none⟩ = some (.int .i64 t2) := G7.out.r4.bt.cell 2
                  have erx3 : w17.cell? ⟨w.heap.size + 2, 3, none⟩ = some (.slice st q kt) := G7.out.r4.bt.cell 3
                  have esx0 : w17.cell? ⟨w.heap.size + 3, 0, none⟩ = some (.int .i64 c3) := G7.out.r4.bu.cell 0
                  have esx1 : w17.cell? ⟨w.heap.size + 3, 1, none⟩ = some (.int .i64 d3) := G7.out.r4.bu.cell 1
                  have esx2 : w17.cell? ⟨w.heap.size + 3, 2, none⟩ = some (.int .i64 t3) := G7.out.r4.bu.cell 2
                  have esx3 : w17.cell? ⟨w.heap.size + 3, 3, none⟩ = some (.slice su q' ku) := G7.out.r4.bu.cell 3
                  go_wp2_with fail
                  refine (sameTsk_at c2 d2 t2 c3 d3 t3 (.slice st q kt) (.slice su q' ku) m m' _ G7.out.sect G7.out.secu LL.out.2.2.1 LL.out.2.2.2 true (decide_eq_true hv)).mono ?_
                  rintro e w18 ⟨rfl, g⟩
                  have G8 : Hid (Cop4 w co0 sy0 la0 mo0 sc n kc l co1 sy1 la1 mo1 sd n' kd l' c2 d2 t2 st q kt m c3 d3 t3 su q' ku m' w18) := G7.out.below g
                  clear g
                  have eqx0 : w18.cell? ⟨w.heap.size, 0, none⟩ = some (.int .i64 co0) := G8.out.r4.bc.cell 0
                  have eqx1 : w18.cell? ⟨w.heap.size, 1, none⟩ = some (.int .i64 sy0) := G8.out.r4.bc.cell 1
                  have eqx2 : w18.cell? ⟨w.heap.size, 2, none⟩ = some (.int .i64 la0) := G8.out.r4.bc.cell 2
                  have eqx3 : w18.cell? ⟨w.heap.size, 3, none⟩ = some (.int .i64 mo0) := G8.out.r4.bc.cell 3
                  have eqx4 : w18.cell? ⟨w.heap.size, 4, none⟩ = some (.slice sc n kc) := G8.out.r4.bc.cell 4
                  have epx0 : w18.cell? ⟨w.heap.size + 1, 0, none⟩ = some (.int .i64 co1) := G8.out.r4.bd.cell 0
                  have epx1 : w18.cell? ⟨w.heap.size + 1, 1, none⟩ = some (.int .i64 sy1) := G8.out.r4.bd.cell 1
                  have epx2 : w18.cell? ⟨w.heap.size + 1, 2, none⟩ = some (.int .i64 la1) := G8.out.r4.bd.cell 2
                  have epx3 : w18.cell? ⟨w.heap.size + 1, 3, none⟩ = some (.int .i64 mo1) := G8.out.r4.bd.cell 3
                  have epx4 : w18.cell? ⟨w.heap.size + 1, 4, none⟩ = some (.slice sd n' kd) := G8.out.r4.bd.cell 4
                  have erx0 : w18.cell? ⟨w.heap.size + 2, 0, none⟩ = some (.int .i64 c2) := G8.out.r4.bt.cell 0
                  have erx1 : w18.cell? ⟨w.heap.size + 2, 1, none⟩ = some (.int .i64 d2) := G8.out.r4.bt.cell 1
                  have erx2 : w18.cell? ⟨w.heap.size + 2, 2, none⟩ = some (.int .i64 t2) := G8.out.r4.bt.cell 2
                  have erx3 : w18.cell? ⟨w.heap.size + 2, 3, none⟩ = some (.slice st q kt) := G8.out.r4.bt.cell 3
                  have esx0 : w18.cell? ⟨w.heap.size + 3, 0, none⟩ = some (.int .i64 c3) := G8.out.r4.bu.cell 0
                  have esx1 : w18.cell? ⟨w.heap.size + 3, 1, none⟩ = some (.int .i64 d3) := G8.out.r4.bu.cell 1
                  have esx2 : w18.cell? ⟨w.heap.size + 3, 2, none⟩ = some (.int .i64 t3) := G8.out.r4.bu.cell 2
                  have esx3 : w18.cell? ⟨w.heap.size + 3, 3, none⟩ = some (.slice su q' ku) := G8.out.r4.bu.cell 3
                  go_wp2_with fail
                  go_meet
                  exact ⟨rfl, G8.out⟩
                  -- ]LDC
                · -- [LDD
                  have hp := put_yes HP.out hc
                  have NAhp : ¬ p.toList = [] := put_yes2 (hp)
                  have NBhp : p.toList.isEmpty = false := by simpa using NAhp
                  have hq := put_yes HQ.out hd
                  have NAhq : ¬ p'.toList = [] := put_yes2 (hq)
                  have NBhq : p'.toList.isEmpty = false := by simpa using NAhq
                  have hpq := cfg_ne HP.out hc HQ.out hd he
                  have k1hpq : ¬ p.toList = p'.toList := toL_ne hpq
                  have k2hpq : decide (p.toList = p'.toList) = false := decide_eq_false k1hpq
                  have k3hpq : (p.toList == p'.toList) = false := by simpa using k1hpq
                  have hr := putt_yes HR.out ht
                  have NAhr : ¬ r.toList = [] := put_yes2 (hr)
                  have NBhr : r.toList.isEmpty = false := by simpa using NAhr
                  have hs := putt_yes HS.out hu
                  have NAhs : ¬ r'.toList = [] := put_yes2 (hs)
                  have NBhs : r'.toList.isEmpty = false := by simpa using NAhs
                  have hrs := tsk_ne HR.out ht HS.out hu hv
                  have k1hrs : ¬ r.toList = r'.toList := toL_ne hrs
                  have k2hrs : decide (r.toList = r'.toList) = false := decide_eq_false k1hrs
                  have k3hrs : (r.toList == r'.toList) = false := by simpa using k1hrs
                  go_wp2_with fail
                  refine (refPutCfg_s co0 sy0 la0 mo0 (.slice sc n kc) l p _ G4.out.r4.env G4.out.intc LL.out.1 HP.out).mono ?_
                  rintro e w15 ⟨rfl, g⟩
                  have G5 : Hid (Cop4 w co0 sy0 la0 mo0 sc n kc l co1 sy1 la1 mo1 sd n' kd l' c2 d2 t2 st q kt m c3 d3 t3 su q' ku m' w15) := G4.out.below g
                  clear g
                  have eqx0 : w15.cell? ⟨w.heap.size, 0, none⟩ = some (.int .i64 co0) := G5.out.r4.bc.cell 0
                  have eqx1 : w15.cell? ⟨w.heap.size, 1, none⟩ = some (.int .i64 sy0) := G5.out.r4.bc.cell 1
                  have eqx2 : w15.cell? ⟨w.heap.size, 2, none⟩ = some (.int .i64 la0) := G5.out.r4.bc.cell 2
                  have eqx3 : w15.cell? ⟨w.heap.size, 3, none⟩ = some (.int .i64 mo0) := G5.out.r4.bc.cell 3
                  have eqx4 : w15.cell? ⟨w.heap.size, 4, none⟩ = some (.slice sc n kc) := G5.out.r4.bc.cell 4
                  have epx0 : w15.cell? ⟨w.heap.size + 1, 0, none⟩ = some (.int .i64 co1) := G5.out.r4.bd.cell 0
                  have epx1 : w15.cell? ⟨w.heap.size + 1, 1, none⟩ = some (.int .i64 sy1) := G5.out.r4.bd.cell 1
                  have epx2 : w15.cell? ⟨w.heap.size + 1, 2, none⟩ = some (.int .i64 la1) := G5.out.r4.bd.cell 2
                  have epx3 : w15.cell? ⟨w.heap.size + 1, 3, none⟩ = some (.int .i64 mo1) := G5.out.r4.bd.cell 3
                  have epx4 : w15.cell? ⟨w.heap.size + 1, 4, none⟩ = some (.slice sd n' kd) := G5.out.r4.bd.cell 4
                  have erx0 : w15.cell? ⟨w.heap.size + 2, 0, none⟩ = some (.int .i64 c2) := G5.out.r4.bt.cell 0
                  have erx1 : w15.cell? ⟨w.heap.size + 2, 1, none⟩ = some (.int .i64 d2) := G5.out.r4.bt.cell 1
                  have erx2 : w15.cell? ⟨w.heap.size + 2, 2, none⟩ = some (.int .i64 t2) := G5.out.r4.bt.cell 2
                  have erx3 : w15.cell? ⟨w.heap.size + 2, 3, none⟩ = some (.slice st q kt) := G5.out.r4.bt.cell 3
                  have esx0 : w15.cell? ⟨w.heap.size + 3, 0, none⟩ = some (.int .i64 c3) := G5.out.r4.bu.cell 0
                  have esx1 : w15.cell? ⟨w.heap.size + 3, 1, none⟩ = some (.int .i64 d3) := G5.out.r4.bu.cell 1
                  have esx2 : w15.cell? ⟨w.heap.size + 3, 2, none⟩ = some (.int .i64 t3) := G5.out.r4.bu.cell 2
                  have esx3 : w15.cell? ⟨w.heap.size + 3, 3, none⟩ = some (.slice su q' ku) := G5.out.r4.bu.cell 3
                  go_wp2_with fail
                  refine (refPutTsk_s c2 d2 t2 (.slice st q kt) m r _ G5.out.r4.env G5.out.sect LL.out.2.2.1 HR.out).mono ?_
                  rintro e w16 ⟨rfl, g⟩
                  have G6 : Hid (Cop4 w co0 sy0 la0 mo0 sc n kc l co1 sy1 la1 mo1 sd n' kd l' c2 d2 t2 st q kt m c3 d3 t3 su q' ku m' w16) := G5.out.below g
                  clear g
                  have eqx0 : w16.cell? ⟨w.heap.size, 0, none⟩ = some (.int .i64 co0) := G6.out.r4.bc.cell 0
                  have eqx1 : w16.cell? ⟨w.heap.size, 1, none⟩ = some (.int .i64 sy0) := G6.out.r4.bc.cell 1
                  have eqx2 : w16.cell? ⟨w.heap.size, 2, none⟩ = some (.int .i64 la0) := G6.out.r4.bc.cell 2
                  have eqx3 : w16.cell? ⟨w.heap.size, 3, none⟩ = some (.int .i64 mo0) := G6.out.r4.bc.cell 3
                  have eqx4 : w16.cell? ⟨w.heap.size, 4, none⟩ = some (.slice sc n kc) := G6.out.r4.bc.cell 4
                  have epx0 : w16.cell? ⟨w.heap.size + 1, 0, none⟩ = some (.int .i64 co1) := G6.out.r4.bd.cell 0
                  have epx1 : w16.cell? ⟨w.heap.size + 1, 1, none⟩ = some (.int .i64 sy1) := G6.out.r4.bd.cell 1
                  have epx2 : w16.cell? ⟨w.heap.size + 1, 2, none⟩ = some (.int .i64 la1) := G6.out.r4.bd.cell 2
                  have epx3 : w16.cell? ⟨w.heap.size + 1, 3, none⟩ = some (.int .i64 mo1) := G6.out.r4.bd.cell 3
                  have epx4 : w16.cell? ⟨w.heap.size + 1, 4, none⟩ = some (.slice sd n' kd) := G6.out.r4.bd.cell 4
                  have erx0 : w16.cell? ⟨w.heap.size + 2, 0, none⟩ = some (.int .i64 c2) := G6.out.r4.bt.cell 0
                  have erx1 : w16.cell? ⟨w.heap.size + 2, 1, none⟩ = some (.int .i64 d2) := G6.out.r4.bt.cell 1
                  have erx2 : w16.cell? ⟨w.heap.size + 2, 2, none⟩ = some (.int .i64 t2) := G6.out.r4.bt.cell 2
                  have erx3 : w16.cell? ⟨w.heap.size + 2, 3, none⟩ = some (.slice st q kt) := G6.out.r4.bt.cell 3
                  have esx0 : w16.cell? ⟨w.heap.size + 3, 0, none⟩ = some (.int .i64 c3) := G6.out.r4.bu.cell 0
                  have esx1 : w16.cell? ⟨w.heap.size + 3, 1, none⟩ = some (.int .i64 d3) := G6.out.r4.bu.cell 1
                  have esx2 : w16.cell? ⟨w.heap.size + 3, 2, none⟩ = some (.int .i64 t3) := G6.out.r4.bu.cell 2
                  have esx3 : w16.cell? ⟨w.heap.size + 3, 3, none⟩ = some (.slice su q' ku) := G6.out.r4.bu.cell 3
                  go_wp2_with fail
                  refine (sameCfg_at co0 sy0 la0 mo0 co1 sy1 la1 mo1 (.slice sc n kc) (.slice sd n' kd) l l' _ G6.out.intc G6.out.intd LL.out.1 LL.out.2.1 false (decide_eq_false he)).mono ?_
                  rintro e w17 ⟨rfl, g⟩
                  have G7 : Hid (Cop4 w co0 sy0 la0 mo0 sc n kc l co1 sy1 la1 mo1 sd n' kd l' c2 d2 t2 st q kt m c3 d3 t3 su q' ku m' w17) := G6.out.below g
                  clear g
                  have eqx0 : w17.cell? ⟨w.heap.size, 0, none⟩ = some (.int .i64 co0) := G7.out.r4.bc.cell 0
                  have eqx1 : w17.cell? ⟨w.heap.size, 1, none⟩ = some (.int .i64 sy0) := G7.out.r4.bc.cell 1
                  have eqx2 : w17.cell? ⟨w.heap.size, 2, none⟩ = some (.int .i64 la0) := G7.out.r4.bc.cell 2
                  have eqx3 : w17.cell? ⟨w.heap.size, 3, none⟩ = some (.int .i64 mo0) := G7.out.r4.bc.cell 3
                  have eqx4 : w17.cell? ⟨w.heap.size, 4, none⟩ = some (.slice sc n kc) := G7.out.r4.bc.cell 4
                  have epx0 : w17.cell? ⟨w.heap.size + 1, 0, none⟩ = some (.int .i64 co1) := G7.out.r4.bd.cell 0
                  have epx1 : w17.cell? ⟨w.heap.size + 1, 1, none⟩ = some (.int .i64 sy1) := G7.out.r4.bd.cell 1
                  have epx2 : w17.cell? ⟨w.heap.size + 1, 2, none⟩ = some (.int .i64 la1) := G7.out.r4.bd.cell 2
                  have epx3 : w17.cell? ⟨w.heap.size + 1, 3, none⟩ = some (.int .i64 mo1) := G7.out.r4.bd.cell 3
                  have epx4 : w17.cell? ⟨w.heap.size + 1, 4, none⟩ = some (.slice sd n' kd) := G7.out.r4.bd.cell 4
                  have erx0 : w17.cell? ⟨w.heap.size + 2, 0, none⟩ = some (.int .i64 c2) := G7.out.r4.bt.cell 0
                  have erx1 : w17.cell? ⟨w.heap.size + 2, 1, none⟩ = some (.int .i64 d2) := G7.out.r4.bt.cell 1
                  have erx2 : w17.cell? ⟨w.heap.size + 2, 2, none⟩ = some (.int .i64 t2) := G7.out.r4.bt.cell 2
                  have erx3 : w17.cell? ⟨w.heap.size + 2, 3, none⟩ = some (.slice st q kt) := G7.out.r4.bt.cell 3
                  have esx0 : w17.cell? ⟨w.heap.size + 3, 0, none⟩ = some (.int .i64 c3) := G7.out.r4.bu.cell 0
                  have esx1 : w17.cell? ⟨w.heap.size + 3, 1, none⟩ = some (.int .i64 d3) := G7.out.r4.bu.cell 1
                  have esx2 : w17.cell? ⟨w.heap.size + 3, 2, none⟩ = some (.int .i64 t3) := G7.out.r4.bu.cell 2
                  have esx3 : w17.cell? ⟨w.heap.size + 3, 3, none⟩ = some (.slice su q' ku) := G7.out.r4.bu.cell 3
                  go_wp2_with fail
                  refine (sameTsk_at c2 d2 t2 c3 d3 t3 (.slice st q kt) (.slice su q' ku) m m' _ G7.out.sect G7.out.secu LL.out.2.2.1 LL.out.2.2.2 false (decide_eq_false hv)).mono ?_
                  rintro e w18 ⟨rfl, g⟩
                  have G8 : Hid (Cop4 w co0 sy0 la0 mo0 sc n kc l co1 sy1 la1 mo1 sd n' kd l' c2 d2 t2 st q kt m c3 d3 t3 su q' ku m' w18) := G7.out.below g
                  clear g
                  have eqx0 : w18.cell? ⟨w.heap.size, 0, none⟩ = some (.int .i64 co0) := G8.out.r4.bc.cell 0
                  have eqx1 : w18.cell? ⟨w.heap.size, 1, none⟩ = some (.int .i64 sy0) := G8.out.r4.bc.cell 1
                  have eqx2 : w18.cell? ⟨w.heap.size, 2, none⟩ = some (.int .i64 la0) := G8.out.r4.bc.cell 2
                  have eqx3 : w18.cell? ⟨w.heap.size, 3, none⟩ = some (.int .i64 mo0) := G8.out.r4.bc.cell 3
                  have eqx4 : w18.cell? ⟨w.heap.size, 4, none⟩ = some (.slice sc n kc) := G8.out.r4.bc.cell 4
                  have epx0 : w18.cell? ⟨w.heap.size + 1, 0, none⟩ = some (.int .i64 co1) := G8.out.r4.bd.cell 0
                  have epx1 : w18.cell? ⟨w.heap.size + 1, 1, none⟩ = some (.int .i64 sy1) := G8.out.r4.bd.cell 1
                  have epx2 : w18.cell? ⟨w.heap.size + 1, 2, none⟩ = some (.int .i64 la1) := G8.out.r4.bd.cell 2
                  have epx3 : w18.cell? ⟨w.heap.size + 1, 3, none⟩ = some (.int .i64 mo1) := G8.out.r4.bd.cell 3
                  have epx4 : w18.cell? ⟨w.heap.size + 1, 4, none⟩ = some (.slice sd n' kd) := G8.out.r4.bd.cell 4
                  have erx0 : w18.cell? ⟨w.heap.size + 2, 0, none⟩ = some (.int .i64 c2) := G8.out.r4.bt.cell 0
                  have erx1 : w18.cell? ⟨w.heap.size + 2, 1, none⟩ = some (.int .i64 d2) := G8.out.r4.bt.cell 1
                  have erx2 : w18.cell? ⟨w.heap.size + 2, 2, none⟩ = some (.int .i64 t2) := G8.out.r4.bt.cell 2
                  have erx3 : w18.cell? ⟨w.heap.size + 2, 3, none⟩ = some (.slice st q kt) := G8.out.r4.bt.cell 3
                  have esx0 : w18.cell? ⟨w.heap.size + 3, 0, none⟩ = some (.int .i64 c3) := G8.out.r4.bu.cell 0
                  have esx1 : w18.cell? ⟨w.heap.size + 3, 1, none⟩ = some (.int .i64 d3) := G8.out.r4.bu.cell 1
                  have esx2 : w18.cell? ⟨w.heap.size + 3, 2, none⟩ = some (.int .i64 t3) := G8.out.r4.bu.cell 2
                  have esx3 : w18.cell? ⟨w.heap.size + 3, 3, none⟩ = some (.slice su q' ku) := G8.out.r4.bu.cell 3
                  go_wp2_with fail
                  go_meet
                  exact ⟨rfl, G8.out⟩
                  -- ]LDD
    case rest =>
      obtain ⟨rfl, hC⟩ := hcut
      have D0 : Hid (Cop4 w co0 sy0 la0 mo0 sc n kc l co1 sy1 la1 mo1 sd n' kd l' c2 d2 t2 st q kt m c3 d3 t3 su q' ku m' wc) := hC
      clear hC G4 HQ HS eqx0 eqx1 eqx2 eqx3 eqx4 epx0 epx1 epx2 epx3 epx4 erx0 erx1 erx2 erx3 esx0 esx1 esx2 esx3
      have eqx0 : wc.cell? ⟨w.heap.size, 0, none⟩ = some (.int .i64 co0) := D0.out.r4.bc.cell 0
      have eqx1 : wc.cell? ⟨w.heap.size, 1, none⟩ = some (.int .i64 sy0) := D0.out.r4.bc.cell 1
      have eqx2 : wc.cell? ⟨w.heap.size, 2, none⟩ = some (.int .i64 la0) := D0.out.r4.bc.cell 2
      have eqx3 : wc.cell? ⟨w.heap.size, 3, none⟩ = some (.int .i64 mo0) := D0.out.r4.bc.cell 3
      have eqx4 : wc.cell? ⟨w.heap.size, 4, none⟩ = some (.slice sc n kc) := D0.out.r4.bc.cell 4
      have epx0 : wc.cell? ⟨w.heap.size + 1, 0, none⟩ = some (.int .i64 co1) := D0.out.r4.bd.cell 0
      have epx1 : wc.cell? ⟨w.heap.size + 1, 1, none⟩ = some (.int .i64 sy1) := D0.out.r4.bd.cell 1
      have epx2 : wc.cell? ⟨w.heap.size + 1, 2, none⟩ = some (.int .i64 la1) := D0.out.r4.bd.cell 2
      have epx3 : wc.cell? ⟨w.heap.size + 1, 3, none⟩ = some (.int .i64 mo1) := D0.out.r4.bd.cell 3
      have epx4 : wc.cell? ⟨w.heap.size + 1, 4, none⟩ = some (.slice sd n' kd) := D0.out.r4.bd.cell 4
      have erx0 : wc.cell? ⟨w.heap.size + 2, 0, none⟩ = some (.int .i64 c2) := D0.out.r4.bt.cell 0
      have erx1 : wc.cell? ⟨w.heap.size + 2, 1, none⟩ = some (.int .i64 d2) := D0.out.r4.bt.cell 1
      have erx2 : wc.cell? ⟨w.heap.size + 2, 2, none⟩ = some (.int .i64 t2) := D0.out.r4.bt.cell 2
      have erx3 : wc.cell? ⟨w.heap.size + 2, 3, none⟩ = some (.slice st q kt) := D0.out.r4.bt.cell 3
      have esx0 : wc.cell? ⟨w.heap.size + 3, 0, none⟩ = some (.int .i64 c3) := D0.out.r4.bu.cell 0
      have esx1 : wc.cell? ⟨w.heap.size + 3, 1, none⟩ = some (.int .i64 d3) := D0.out.r4.bu.cell 1
      have esx2 : wc.cell? ⟨w.heap.size + 3, 2, none⟩ = some (.int .i64 t3) := D0.out.r4.bu.cell 2
      have esx3 : wc.cell? ⟨w.heap.size + 3, 3, none⟩ = some (.slice su q' ku) := D0.out.r4.bu.cell 3
      cases hc : cfgB (⟨co0, sy0, la0, mo0, l⟩ : Cfg)
      · -- [R0
        obtain rfl : p = ⟨#[]⟩ := put_no HP.out hc
        go_wp2_with fail
        refine (refConfig_any co0 sy0 la0 mo0 (.slice sc n kc) l _ D0.out.intc LL.out.1).mono ?_
        rintro e w19 ⟨rfl, g⟩
        go_wp2_with fail
        go_ret
        exact ⟨ret_bool (by simp), btrans D0.out.r4.bel g⟩
        -- ]R0
      · have hp := put_yes HP.out hc
        have NAhp : ¬ p.toList = [] := put_yes2 (hp)
        have NBhp : p.toList.isEmpty = false := by simpa using NAhp
        have n6 : n ≤ 6 := by have := (cfgB_iff.1 hc).2.2.2.2.1; have := HL.out.2; simp only at *; omega
        have HC : Hid (cfgB (⟨co0, sy0, la0, mo0, l⟩ : Cfg) = true) := hc
        clear hc
        go_wp2_with fail
        refine (getCfg_own HL.out.2 p HP.out HC.out _ D0.out.r4.env).mono ?_
        rintro e w20 ⟨xa, xk, rfl, hi, g⟩
        have D1 : Hid (Cop4 w co0 sy0 la0 mo0 sc n kc l co1 sy1 la1 mo1 sd n' kd l' c2 d2 t2 st q kt m c3 d3 t3 su q' ku m' w20) := D0.out.below g
        clear g
        have eqx0 : w20.cell? ⟨w.heap.size, 0, none⟩ = some (.int .i64 co0) := D1.out.r4.bc.cell 0
        have eqx1 : w20.cell? ⟨w.heap.size, 1, none⟩ = some (.int .i64 sy0) := D1.out.r4.bc.cell 1
        have eqx2 : w20.cell? ⟨w.heap.size, 2, none⟩ = some (.int .i64 la0) := D1.out.r4.bc.cell 2
        have eqx3 : w20.cell? ⟨w.heap.size, 3, none⟩ = some (.int .i64 mo0) := D1.out.r4.bc.cell 3
        have eqx4 : w20.cell? ⟨w.heap.size, 4, none⟩ = some (.slice sc n kc) := D1.out.r4.bc.cell 4
        have epx0 : w20.cell? ⟨w.heap.size + 1, 0, none⟩ = some (.int .i64 co1) := D1.out.r4.bd.cell 0
        have epx1 : w20.cell? ⟨w.heap.size + 1, 1, none⟩ = some (.int .i64 sy1) := D1.out.r4.bd.cell 1
        have epx2 : w20.cell? ⟨w.heap.size + 1, 2, none⟩ = some (.int .i64 la1) := D1.out.r4.bd.cell 2
        have epx3 : w20.cell? ⟨w.heap.size + 1, 3, none⟩ = some (.int .i64 mo1) := D1.out.r4.bd.cell 3
        have epx4 : w20.cell? ⟨w.heap.size + 1, 4, none⟩ = some (.slice sd n' kd) := D1.out.r4.bd.cell 4
        have erx0 : w20.cell? ⟨w.heap.size + 2, 0, none⟩ = some (.int .i64 c2) := D1.out.r4.bt.cell 0
        have erx1 : w20.cell? ⟨w.heap.size + 2, 1, none⟩ = some (.int .i64 d2) := D1.out.r4.bt.cell 1
        have erx2 : w20.cell? ⟨w.heap.size + 2, 2, none⟩ = some (.int .i64 t2) := D1.out.r4.bt.cell 2
        have erx3 : w20.cell? ⟨w.heap.size + 2, 3, none⟩ = some (.slice st q kt) := D1.out.r4.bt.cell 3
        have esx0 : w20.cell? ⟨w.heap.size + 3, 0, none⟩ = some (.int .i64 c3) := D1.out.r4.bu.cell 0
        have esx1 : w20.cell? ⟨w.heap.size + 3, 1, none⟩ = some (.int .i64 d3) := D1.out.r4.bu.cell 1
        have esx2 : w20.cell? ⟨w.heap.size + 3, 2, none⟩ = some (.int .i64 t3) := D1.out.r4.bu.cell 2
        have esx3 : w20.cell? ⟨w.heap.size + 3, 3, none⟩ = some (.slice su q' ku) := D1.out.r4.bu.cell 3
        have lwc : w.heap.size < w20.heap.size := D1.out.r4.bc.lt
        have lwd : w.heap.size + 1 < w20.heap.size := D1.out.r4.bd.lt
        have lwt : w.heap.size + 2 < w20.heap.size := D1.out.r4.bt.lt
        have lwu : w.heap.size + 3 < w20.heap.size := D1.out.r4.bu.lt
        have D2 : Hid (Cop4 w co0 sy0 la0 mo0 sc n kc l co1 sy1 la1 mo1 sd n' kd l' c2 d2 t2 st q kt m c3 d3 t3 su q' ku m' (w20.alloc (.cells #[.int .i64 co0, .int .i64 sy0, .int .i64 la0, .int .i64 mo0, .slice xa n xk] 24)) ∧ Blk (w20.alloc (.cells #[.int .i64 co0, .int .i64 sy0, .int .i64 la0, .int .i64 mo0, .slice xa n xk] 24)) w20.heap.size #[.int .i64 co0, .int .i64 sy0, .int .i64 la0, .int .i64 mo0, .slice xa n xk] 24 ∧ Ints (w20.alloc (.cells #[.int .i64 co0, .int .i64 sy0, .int .i64 la0, .int .i64 mo0, .slice xa n xk] 24)) (.slice xa n xk) l) := ⟨D1.out.below (balloc _ _), heap_alloc_new _ _, hi.below (balloc _ _)⟩
        clear hi D0
        go_wp2_with fail
        generalize hW : w20.alloc _ = W2 at D2 ⊢
        generalize hG : w20.heap.size = gx at D2 ⊢
        clear hW hG D1 lwc lwd lwt lwu eqx0 eqx1 eqx2 eqx3 eqx4 epx0 epx1 epx2 epx3 epx4 erx0 erx1 erx2 erx3 esx0 esx1 esx2 esx3
        obtain ⟨X, hX⟩ : ∃ X, tskB n (⟨c2, d2, t2, m⟩ : Tsk) = X := ⟨_, rfl⟩
        refine (getTsk_own (v := .slice sc n kc) HL.out.2 n6 HM.out.2 r HR.out HC.out W2 D2.out.1.r4.env D2.out.1.intc X hX).mono ?_
        rintro e w21 ⟨g, h⟩
        have D3 : Hid (Cop4 w co0 sy0 la0 mo0 sc n kc l co1 sy1 la1 mo1 sd n' kd l' c2 d2 t2 st q kt m c3 d3 t3 su q' ku m' w21 ∧ Blk w21 gx #[.int .i64 co0, .int .i64 sy0, .int .i64 la0, .int .i64 mo0, .slice xa n xk] 24 ∧ Ints w21 (.slice xa n xk) l) := ⟨D2.out.1.below g, D2.out.2.1.below g, D2.out.2.2.below g⟩
        clear g D2
        have eqx0 : w21.cell? ⟨w.heap.size, 0, none⟩ = some (.int .i64 co0) := D3.out.1.r4.bc.cell 0
        have eqx1 : w21.cell? ⟨w.heap.size, 1, none⟩ = some (.int .i64 sy0) := D3.out.1.r4.bc.cell 1
        have eqx2 : w21.cell? ⟨w.heap.size, 2, none⟩ = some (.int .i64 la0) := D3.out.1.r4.bc.cell 2
        have eqx3 : w21.cell? ⟨w.heap.size, 3, none⟩ = some (.int .i64 mo0) := D3.out.1.r4.bc.cell 3
        have eqx4 : w21.cell? ⟨w.heap.size, 4, none⟩ = some (.slice sc n kc) := D3.out.1.r4.bc.cell 4
        have epx0 : w21.cell? ⟨w.heap.size + 1, 0, none⟩ = some (.int .i64 co1) := D3.out.1.r4.bd.cell 0
        have epx1 : w21.cell? ⟨w.heap.size + 1, 1, none⟩ = some (.int .i64 sy1) := D3.out.1.r4.bd.cell 1
        have epx2 : w21.cell? ⟨w.heap.size + 1, 2, none⟩ = some (.int .i64 la1) := D3.out.1.r4.bd.cell 2
        have epx3 : w21.cell? ⟨w.heap.size + 1, 3, none⟩ = some (.int .i64 mo1) := D3.out.1.r4.bd.cell 3
        have epx4 : w21.cell? ⟨w.heap.size + 1, 4, none⟩ = some (.slice sd n' kd) := D3.out.1.r4.bd.cell 4
        have erx0 : w21.cell? ⟨w.heap.size + 2, 0, none⟩ = some (.int .i64 c2) := D3.out.1.r4.bt.cell 0
        have erx1 : w21.cell? ⟨w.heap.size + 2, 1, none⟩ = some (.int .i64 d2) := D3.out.1.r4.bt.cell 1
        have erx2 : w21.cell? ⟨w.heap.size + 2, 2, none⟩ = some (.int .i64 t2) := D3.out.1.r4.bt.cell 2
        have erx3 : w21.cell? ⟨w.heap.size + 2, 3, none⟩ = some (.slice st q kt) := D3.out.1.r4.bt.cell 3
        have esx0 : w21.cell? ⟨w.heap.size + 3, 0, none⟩ = some (.int .i64 c3) := D3.out.1.r4.bu.cell 0
        have esx1 : w21.cell? ⟨w.heap.size + 3, 1, none⟩ = some (.int .i64 d3) := D3.out.1.r4.bu.cell 1
        have esx2 : w21.cell? ⟨w.heap.size + 3, 2, none⟩ = some (.int .i64 t3) := D3.out.1.r4.bu.cell 2
        have esx3 : w21.cell? ⟨w.heap.size + 3, 3, none⟩ = some (.slice su q' ku) := D3.out.1.r4.bu.cell 3
        have x0 : w21.cell? ⟨gx, 0, none⟩ = some (.int .i64 co0) := D3.out.2.1.cell 0
        have x1 : w21.cell? ⟨gx, 1, none⟩ = some (.int .i64 sy0) := D3.out.2.1.cell 1
        have x2 : w21.cell? ⟨gx, 2, none⟩ = some (.int .i64 la0) := D3.out.2.1.cell 2
        have x3 : w21.cell? ⟨gx, 3, none⟩ = some (.int .i64 mo0) := D3.out.2.1.cell 3
        have x4 : w21.cell? ⟨gx, 4, none⟩ = some (.slice xa n xk) := D3.out.2.1.cell 4
        have lwc : w.heap.size < w21.heap.size := D3.out.1.r4.bc.lt
        have lwd : w.heap.size + 1 < w21.heap.size := D3.out.1.r4.bd.lt
        have lwt : w.heap.size + 2 < w21.heap.size := D3.out.1.r4.bt.lt
        have lwu : w.heap.size + 3 < w21.heap.size := D3.out.1.r4.bu.lt
        have lx : gx < w21.heap.size := D3.out.2.1.lt
        rcases h with ⟨rfl, rfl⟩ | ⟨rfl, ya, yk, rfl, hi⟩
        · -- [R1
          have D4 : Hid (Cop4 w co0 sy0 la0 mo0 sc n kc l co1 sy1 la1 mo1 sd n' kd l' c2 d2 t2 st q kt m c3 d3 t3 su q' ku m' (w21.alloc (.cells #[.int .i64 0, .int .i64 0, .int .i64 0, .slice none 0 0] 27)) ∧ Blk (w21.alloc (.cells #[.int .i64 0, .int .i64 0, .int .i64 0, .slice none 0 0] 27)) gx #[.int .i64 co0, .int .i64 sy0, .int .i64 la0, .int .i64 mo0, .slice xa n xk] 24 ∧ Ints (w21.alloc (.cells #[.int .i64 0, .int .i64 0, .int .i64 0, .slice none 0 0] 27)) (.slice xa n xk) l ∧ Blk (w21.alloc (.cells #[.int .i64 0, .int .i64 0, .int .i64 0, .slice none 0 0] 27)) w21.heap.size #[.int .i64 0, .int .i64 0, .int .i64 0, .slice none 0 0] 27 ∧ Secs (w21.alloc (.cells #[.int .i64 0, .int .i64 0, .int .i64 0, .slice none 0 0] 27)) (.slice none 0 0) []) := ⟨D3.out.1.below (balloc _ _), D3.out.2.1.below (balloc _ _), D3.out.2.2.below (balloc _ _), heap_alloc_new _ _, .inl ⟨rfl, _, _, rfl⟩⟩
          go_wp2_with fail
          generalize hW : w21.alloc _ = W3 at D4 ⊢
          generalize hG : w21.heap.size = gy at D4 ⊢
          clear hW hG D3 lwc lwd lwt lwu lx eqx0 eqx1 eqx2 eqx3 eqx4 epx0 epx1 epx2 epx3 epx4 erx0 erx1 erx2 erx3 esx0 esx1 esx2 esx3 x0 x1 x2 x3 x4
          refine (sameCfg_at co0 sy0 la0 mo0 co0 sy0 la0 mo0 (.slice xa n xk) (.slice sc n kc) l l _ D4.out.2.2.1 D4.out.1.intc LL.out.1 LL.out.1 true (decide_eq_true rfl)).mono ?_
          rintro e w22 ⟨rfl, g⟩
          have D5 : Hid (Cop4 w co0 sy0 la0 mo0 sc n kc l co1 sy1 la1 mo1 sd n' kd l' c2 d2 t2 st q kt m c3 d3 t3 su q' ku m' w22 ∧ Blk w22 gx #[.int .i64 co0, .int .i64 sy0, .int .i64 la0, .int .i64 mo0, .slice xa n xk] 24 ∧ Ints w22 (.slice xa n xk) l ∧ Blk w22 gy #[.int .i64 0, .int .i64 0, .int .i64 0, .slice none 0 0] 27 ∧ Secs w22 (.slice none 0 0) []) := ⟨D4.out.1.below g, D4.out.2.1.below g, D4.out.2.2.1.below g, D4.out.2.2.2.1.below g, D4.out.2.2.2.2.below g⟩
          clear g D4
          have eqx0 : w22.cell? ⟨w.heap.size, 0, none⟩ = some (.int .i64 co0) := D5.out.1.r4.bc.cell 0
          have eqx1 : w22.cell? ⟨w.heap.size, 1, none⟩ = some (.int .i64 sy0) := D5.out.1.r4.bc.cell 1
          have eqx2 : w22.cell? ⟨w.heap.size, 2, none⟩ = some (.int .i64 la0) := D5.out.1.r4.bc.cell 2
          have eqx3 : w22.cell? ⟨w.heap.size, 3, none⟩ = some (.int .i64 mo0) := D5.out.1.r4.bc.cell 3
          have eqx4 : w22.cell? ⟨w.heap.size, 4, none⟩ = some (.slice sc n kc) := D5.out.1.r4.bc.cell 4
          have epx0 : w22.cell? ⟨w.heap.size + 1, 0, none⟩ = some (.int .i64 co1) := D5.out.1.r4.bd.cell 0
          have epx1 : w22.cell? ⟨w.heap.size + 1, 1, none⟩ = some (.int .i64 sy1) := D5.out.1.r4.bd.cell 1
          have epx2 : w22.cell? ⟨w.heap.size + 1, 2, none⟩ = some (.int .i64 la1) := D5.out.1.r4.bd.cell 2
          have epx3 : w22.cell? ⟨w.heap.size + 1, 3, none⟩ = some (.int .i64 mo1) := D5.out.1.r4.bd.cell 3
          have epx4 : w22.cell? ⟨w.heap.size + 1, 4, none⟩ = some (.slice sd n' kd) := D5.out.1.r4.bd.cell 4
          have erx0 : w22.cell? ⟨w.heap.size + 2, 0, none⟩ = some (.int .i64 c2) := D5.out.1.r4.bt.cell 0
          have erx1 : w22.cell? ⟨w.heap.size + 2, 1, none⟩ = some (.int .i64 d2) := D5.out.1.r4.bt.cell 1
          have erx2 : w22.cell? ⟨w.heap.size + 2, 2, none⟩ = some (.int .i64 t2) := D5.out.1.r4.bt.cell 2
          have erx3 : w22.cell? ⟨w.heap.size + 2, 3, none⟩ = some (.slice st q kt) := D5.out.1.r4.bt.cell 3
          have esx0 : w22.cell? ⟨w.heap.size + 3, 0, none⟩ = some (.int .i64 c3) := D5.out.1.r4.bu.cell 0
          have esx1 : w22.cell? ⟨w.heap.size + 3, 1, none⟩ = some (.int .i64 d3) := D5.out.1.r4.bu.cell 1
          have esx2 : w22.cell? ⟨w.heap.size + 3, 2, none⟩ = some (.int .i64 t3) := D5.out.1.r4.bu.cell 2
          have esx3 : w22.cell? ⟨w.heap.size + 3, 3, none⟩ = some (.slice su q' ku) := D5.out.1.r4.bu.cell 3
          have x0 : w22.cell? ⟨gx, 0, none⟩ = some (.int .i64 co0) := D5.out.2.1.cell 0
          have x1 : w22.cell? ⟨gx, 1, none⟩ = some (.int .i64 sy0) := D5.out.2.1.cell 1
          have x2 : w22.cell? ⟨gx, 2, none⟩ = some (.int .i64 la0) := D5.out.2.1.cell 2
          have x3 : w22.cell? ⟨gx, 3, none⟩ = some (.int .i64 mo0) := D5.out.2.1.cell 3
          have x4 : w22.cell? ⟨gx, 4, none⟩ = some (.slice xa n xk) := D5.out.2.1.cell 4
          have y0 : w22.cell? ⟨gy, 0, none⟩ = some (.int .i64 0) := D5.out.2.2.2.1.cell 0
          have y1 : w22.cell? ⟨gy, 1, none⟩ = some (.int .i64 0) := D5.out.2.2.2.1.cell 1
          have y2 : w22.cell? ⟨gy, 2, none⟩ = some (.int .i64 0) := D5.out.2.2.2.1.cell 2
          have y3 : w22.cell? ⟨gy, 3, none⟩ = some (.slice none 0 0) := D5.out.2.2.2.1.cell 3
          go_wp2_with fail
          refine (refTsk_at co0 sy0 la0 mo0 sc n kc c2 d2 t2 (.slice st q kt) m _ D5.out.1.sect LL.out.2.2.1 false hX).mono ?_
          rintro e w23 ⟨rfl, g⟩
          have D6 : Hid (Cop4 w co0 sy0 la0 mo0 sc n kc l co1 sy1 la1 mo1 sd n' kd l' c2 d2 t2 st q kt m c3 d3 t3 su q' ku m' w23 ∧ Blk w23 gx #[.int .i64 co0, .int .i64 sy0, .int .i64 la0, .int .i64 mo0, .slice xa n xk] 24 ∧ Ints w23 (.slice xa n xk) l ∧ Blk w23 gy #[.int .i64 0, .int .i64 0, .int .i64 0, .slice none 0 0] 27 ∧ Secs w23 (.slice none 0 0) []) := ⟨D5.out.1.below g, D5.out.2.1.below g, D5.out.2.2.1.below g, D5.out.2.2.2.1.below g, D5.out.2.2.2.2.below g⟩
          clear g D5
          have eqx0 : w23.cell? ⟨w.heap.size, 0, none⟩ = some (.int .i64 co0) := D6.out.1.r4.bc.cell 0
          have eqx1 : w23.cell? ⟨w.heap.size, 1, none⟩ = some (.int .i64 sy0) := D6.out.1.r4.bc.cell 1
          have eqx2 : w23.cell? ⟨w.heap.size, 2, none⟩ = some (.int .i64 la0) := D6.out.1.r4.bc.cell 2
          have eqx3 : w23.cell? ⟨w.heap.size, 3, none⟩ = some (.int .i64 mo0) := D6.out.1.r4.bc.cell 3
          have eqx4 : w23.cell? ⟨w.heap.size, 4, none⟩ = some (.slice sc n kc) := D6.out.1.r4.bc.cell 4
          have epx0 : w23.cell? ⟨w.heap.size + 1, 0, none⟩ = some (.int .i64 co1) := D6.out.1.r4.bd.cell 0
          have epx1 : w23.cell? ⟨w.heap.size + 1, 1, none⟩ = some (.int .i64 sy1) := D6.out.1.r4.bd.cell 1
          have epx2 : w23.cell? ⟨w.heap.size + 1, 2, none⟩ = some (.int .i64 la1) := D6.out.1.r4.bd.cell 2
          have epx3 : w23.cell? ⟨w.heap.size + 1, 3, none⟩ = some (.int .i64 mo1) := D6.out.1.r4.bd.cell 3
          have epx4 : w23.cell? ⟨w.heap.size + 1, 4, none⟩ = some (.slice sd n' kd) := D6.out.1.r4.bd.cell 4
          have erx0 : w23.cell? ⟨w.heap.size + 2, 0, none⟩ = some (.int .i64 c2) := D6.out.1.r4.bt.cell 0
          have erx1 : w23.cell? ⟨w.heap.size + 2, 1, none⟩ = some (.int .i64 d2) := D6.out.1.r4.bt.cell 1
          have erx2 : w23.cell? ⟨w.heap.size + 2, 2, none⟩ = some (.int .i64 t2) := D6.out.1.r4.bt.cell 2
          have erx3 : w23.cell? ⟨w.heap.size + 2, 3, none⟩ = some (.slice st q kt) := D6.out.1.r4.bt.cell 3
          have esx0 : w23.cell? ⟨w.heap.size + 3, 0, none⟩ = some (.int .i64 c3) := D6.out.1.r4.bu.cell 0
          have esx1 : w23.cell? ⟨w.heap.size + 3, 1, none⟩ = some (.int .i64 d3) := D6.out.1.r4.bu.cell 1
          have esx2 : w23.cell? ⟨w.heap.size + 3, 2, none⟩ = some (.int .i64 t3) := D6.out.1.r4.bu.cell 2
          have esx3 : w23.cell? ⟨w.heap.size + 3, 3, none⟩ = some (.slice su q' ku) := D6.out.1.r4.bu.cell 3
          have x0 : w23.cell? ⟨gx, 0, none⟩ = some (.int .i64 co0) := D6.out.2.1.cell 0
          have x1 : w23.cell? ⟨gx, 1, none⟩ = some (.int .i64 sy0) := D6.out.2.1.cell 1
          have x2 : w23.cell? ⟨gx, 2, none⟩ = some (.int .i64 la0) := D6.out.2.1.cell 2
          have x3 : w23.cell? ⟨gx, 3, none⟩ = some (.int .i64 mo0) := D6.out.2.1.cell 3
          have x4 : w23.cell? ⟨gx, 4, none⟩ = some (.slice xa n xk) := D6.out.2.1.cell 4
          have y0 : w23.cell? ⟨gy, 0, none⟩ = some (.int .i64 0) := D6.out.2.2.2.1.cell 0
          have y1 : w23.cell? ⟨gy, 1, none⟩ = some (.int .i64 0) := D6.out.2.2.2.1.cell 1
          have y2 : w23.cell? ⟨gy, 2, none⟩ = some (.int .i64 0) := D6.out.2.2.2.1.cell 2
          have y3 : w23.cell? ⟨gy, 3, none⟩ = some (.slice none 0 0) := D6.out.2.2.2.1.cell 3
          go_wp2_with fail
          refine (sameTsk_at 0 0 0 0 0 0 (.slice none 0 0) (.slice none 0 0) [] [] _ D6.out.2.2.2.2 (.inl ⟨rfl, _, _, rfl⟩) (by simp) (by simp) true (decide_eq_true rfl)).mono ?_
          rintro e w24 ⟨rfl, g⟩
          have D7 : Hid (Cop4 w co0 sy0 la0 mo0 sc n kc l co1 sy1 la1 mo1 sd n' kd l' c2 d2 t2 st q kt m c3 d3 t3 su q' ku m' w24 ∧ Blk w24 gx #[.int .i64 co0, .int .i64 sy0, .int .i64 la0, .int .i64 mo0, .slice xa n xk] 24 ∧ Ints w24 (.slice xa n xk) l ∧ Blk w24 gy #[.int .i64 0, .int .i64 0, .int .i64 0, .slice none 0 0] 27 ∧ Secs w24 (.slice none 0 0) []) := ⟨D6.out.1.below g, D6.out.2.1.below g, D6.out.2.2.1.below g, D6.out.2.2.2.1.below g, D6.out.2.2.2.2.below g⟩
          clear g D6
          have eqx0 : w24.cell? ⟨w.heap.size, 0, none⟩ = some (.int .i64 co0) := D7.out.1.r4.bc.cell 0
          have eqx1 : w24.cell? ⟨w.heap.size, 1, none⟩ = some (.int .i64 sy0) := D7.out.1.r4.bc.cell 1
          have eqx2 : w24.cell? ⟨w.heap.size, 2, none⟩ = some (.int .i64 la0) := D7.out.1.r4.bc.cell 2
          have eqx3 : w24.cell? ⟨w.heap.size, 3, none⟩ = some (.int .i64 mo0) := D7.out.1.r4.bc.cell 3
          have eqx4 : w24.cell? ⟨w.heap.size, 4, none⟩ = some (.slice sc n kc) := D7.out.1.r4.bc.cell 4
          have epx0 : w24.cell? ⟨w.heap.size + 1, 0, none⟩ = some (.int .i64 co1) := D7.out.1.r4.bd.cell 0
          have epx1 : w24.cell? ⟨w.heap.size + 1, 1, none⟩ = some (.int .i64 sy1) := D7.out.1.r4.bd.cell 1
          have epx2 : w24.cell? ⟨w.heap.size + 1, 2, none⟩ = some (.int .i64 la1) := D7.out.1.r4.bd.cell 2
          have epx3 : w24.cell? ⟨w.heap.size + 1, 3, none⟩ = some (.int .i64 mo1) := D7.out.1.r4.bd.cell 3
          have epx4 : w24.cell? ⟨w.heap.size + 1, 4, none⟩ = some (.slice sd n' kd) := D7.out.1.r4.bd.cell 4
          have erx0 : w24.cell? ⟨w.heap.size + 2, 0, none⟩ = some (.int .i64 c2) := D7.out.1.r4.bt.cell 0
          have erx1 : w24.cell? ⟨w.heap.size + 2, 1, none⟩ = some (.int .i64 d2) := D7.out.1.r4.bt.cell 1
          have erx2 : w24.cell? ⟨w.heap.size + 2, 2, none⟩ = some (.int .i64 t2) := D7.out.1.r4.bt.cell 2
          have erx3 : w24.cell? ⟨w.heap.size + 2, 3, none⟩ = some (.slice st q kt) := D7.out.1.r4.bt.cell 3
          have esx0 : w24.cell? ⟨w.heap.size + 3, 0, none⟩ = some (.int .i64 c3) := D7.out.1.r4.bu.cell 0
          have esx1 : w24.cell? ⟨w.heap.size + 3, 1, none⟩ = some (.int .i64 d3) := D7.out.1.r4.bu.cell 1
          have esx2 : w24.cell? ⟨w.heap.size + 3, 2, none⟩ = some (.int .i64 t3) := D7.out.1.r4.bu.cell 2
          have esx3 : w24.cell? ⟨w.heap.size + 3, 3, none⟩ = some (.slice su q' ku) := D7.out.1.r4.bu.cell 3
          have x0 : w24.cell? ⟨gx, 0, none⟩ = some (.int .i64 co0) := D7.out.2.1.cell 0
          have x1 : w24.cell? ⟨gx, 1, none⟩ = some (.int .i64 sy0) := D7.out.2.1.cell 1
          have x2 : w24.cell? ⟨gx, 2, none⟩ = some (.int .i64 la0) := D7.out.2.1.cell 2
          have x3 : w24.cell? ⟨gx, 3, none⟩ = some (.int .i64 mo0) := D7.out.2.1.cell 3
          have x4 : w24.cell? ⟨gx, 4, none⟩ = some (.slice xa n xk) := D7.out.2.1.cell 4
          have y0 : w24.cell? ⟨gy, 0, none⟩ = some (.int .i64 0) := D7.out.2.2.2.1.cell 0
          have y1 : w24.cell? ⟨gy, 1, none⟩ = some (.int .i64 0) := D7.out.2.2.2.1.cell 1
          have y2 : w24.cell? ⟨gy, 2, none⟩ = some (.int .i64 0) := D7.out.2.2.2.1.cell 2
          have y3 : w24.cell? ⟨gy, 3, none⟩ = some (.slice none 0 0) := D7.out.2.2.2.1.cell 3
          go_wp2_with fail
          go_ret
          exact ⟨ret_bool (by simp), D7.out.1.r4.bel⟩
          -- ]R1
        · -- [R2
          have D4 : Hid (Cop4 w co0 sy0 la0 mo0 sc n kc l co1 sy1 la1 mo1 sd n' kd l' c2 d2 t2 st q kt m c3 d3 t3 su q' ku m' (w21.alloc (.cells #[.int .i64 c2, .int .i64 d2, .int .i64 t2, .slice ya q yk] 27)) ∧ Blk (w21.alloc (.cells #[.int .i64 c2, .int .i64 d2, .int .i64 t2, .slice ya q yk] 27)) gx #[.int .i64 co0, .int .i64 sy0, .int .i64 la0, .int .i64 mo0, .slice xa n xk] 24 ∧ Ints (w21.alloc (.cells #[.int .i64 c2, .int .i64 d2, .int .i64 t2, .slice ya q yk] 27)) (.slice xa n xk) l ∧ Blk (w21.alloc (.cells #[.int .i64 c2, .int .i64 d2, .int .i64 t2, .slice ya q yk] 27)) w21.heap.size #[.int .i64 c2, .int .i64 d2, .int .i64 t2, .slice ya q yk] 27 ∧ Secs (w21.alloc (.cells #[.int .i64 c2, .int .i64 d2, .int .i64 t2, .slice ya q yk] 27)) (.slice ya q yk) m) := ⟨D3.out.1.below (balloc _ _), D3.out.2.1.below (balloc _ _), D3.out.2.2.below (balloc _ _), heap_alloc_new _ _, hi.below (balloc _ _)⟩
          clear hi
          go_wp2_with fail
          generalize hW : w21.alloc _ = W3 at D4 ⊢
          generalize hG : w21.heap.size = gy at D4 ⊢
          clear hW hG D3 lwc lwd lwt lwu lx eqx0 eqx1 eqx2 eqx3 eqx4 epx0 epx1 epx2 epx3 epx4 erx0 erx1 erx2 erx3 esx0 esx1 esx2 esx3 x0 x1 x2 x3 x4
          refine (sameCfg_at co0 sy0 la0 mo0 co0 sy0 la0 mo0 (.slice xa n xk) (.slice sc n kc) l l _ D4.out.2.2.1 D4.out.1.intc LL.out.1 LL.out.1 true (decide_eq_true rfl)).mono ?_
          rintro e w22 ⟨rfl, g⟩
          have D5 : Hid (Cop4 w co0 sy0 la0 mo0 sc n kc l co1 sy1 la1 mo1 sd n' kd l' c2 d2 t2 st q kt m c3 d3 t3 su q' ku m' w22 ∧ Blk w22 gx #[.int .i64 co0, .int .i64 sy0, .int .i64 la0, .int .i64 mo0, .slice xa n xk] 24 ∧ Ints w22 (.slice xa n xk) l ∧ Blk w22 gy #[.int .i64 c2, .int .i64 d2, .int .i64 t2, .slice ya q yk] 27 ∧ Secs w22 (.slice ya q yk) m) := ⟨D4.out.1.below g, D4.out.2.1.below g, D4.out.2.2.1.below g, D4.out.2.2.2.1.below g, D4.out.2.2.2.2.below g⟩
          clear g D4
          have eqx0 : w22.cell? ⟨w.heap.size, 0, none⟩ = some (.int .i64 co0) := D5.out.1.r4.bc.cell 0
          have eqx1 : w22.cell? ⟨w.heap.size, 1, none⟩ = some (.int .i64 sy0) := D5.out.1.r4.bc.cell 1
          have eqx2 : w22.cell? ⟨w.heap.size, 2, none⟩ = some (.int .i64 la0) := D5.out.1.r4.bc.cell 2
          have eqx3 : w22.cell? ⟨w.heap.size, 3, none⟩ = some (.int .i64 mo0) := D5.out.1.r4.bc.cell 3
          have eqx4 : w22.cell? ⟨w.heap.size, 4, none⟩ = some (.slice sc n kc) := D5.out.1.r4.bc.cell 4
          have epx0 : w22.cell? ⟨w.heap.size + 1, 0, none⟩ = some (.int .i64 co1) := D5.out.1.r4.bd.cell 0
          have epx1 : w22.cell? ⟨w.heap.size + 1, 1, none⟩ = some (.int .i64 sy1) := D5.out.1.r4.bd.cell 1
          have epx2 : w22.cell? ⟨w.heap.size + 1, 2, none⟩ = some (.int .i64 la1) := D5.out.1.r4.bd.cell 2
          have epx3 : w22.cell? ⟨w.heap.size + 1, 3, none⟩ = some (.int .i64 mo1) := D5.out.1.r4.bd.cell 3
          have epx4 : w22.cell? ⟨w.heap.size + 1, 4, none⟩ = some (.slice sd n' kd) := D5.out.1.r4.bd.cell 4
          have erx0 : w22.cell? ⟨w.heap.size + 2, 0, none⟩ = some (.int .i64 c2) := D5.out.1.r4.bt.cell 0
          have erx1 : w22.cell? ⟨w.heap.size + 2, 1, none⟩ = some (.int .i64 d2) := D5.out.1.r4.bt.cell 1
          have erx2 : w22.cell? ⟨w.heap.size + 2, 2, none⟩ = some (.int .i64 t2) := D5.out.1.r4.bt.cell 2
          have erx3 : w22.cell? ⟨w.heap.size + 2, 3, none⟩ = some (.slice st q kt) := D5.out.1.r4.bt.cell 3
          have esx0 : w22.cell? ⟨w.heap.size + 3, 0, none⟩ = some (.int .i64 c3) := D5.out.1.r4.bu.cell 0
          have esx1 : w22.cell? ⟨w.heap.size + 3, 1, none⟩ = some (.int .i64 d3) := D5.out.1.r4.bu.cell 1
          have esx2 : w22.cell? ⟨w.heap.size + 3, 2, none⟩ = some (.int .i64 t3) := D5.out.1.r4.bu.cell 2
          have esx3 : w22.cell? ⟨w.heap.size + 3, 3, none⟩ = some (.slice su q' ku) := D5.out.1.r4.bu.cell 3
          have x0 : w22.cell? ⟨gx, 0, none⟩ = some (.int .i64 co0) := D5.out.2.1.cell 0
          have x1 : w22.cell? ⟨gx, 1, none⟩ = some (.int .i64 sy0) := D5.out.2.1.cell 1
          have x2 : w22.cell? ⟨gx, 2, none⟩ = some (.int .i64 la0) := D5.out.2.1.cell 2
          have x3 : w22.cell? ⟨gx, 3, none⟩ = some (.int .i64 mo0) := D5.out.2.1.cell 3
          have x4 : w22.cell? ⟨gx, 4, none⟩ = some (.slice xa n xk) := D5.out.2.1.cell 4
          have y0 : w22.cell? ⟨gy, 0, none⟩ = some (.int .i64 c2) := D5.out.2.2.2.1.cell 0
          have y1 : w22.cell? ⟨gy, 1, none⟩ = some (.int .i64 d2) := D5.out.2.2.2.1.cell 1
          have y2 : w22.cell? ⟨gy, 2, none⟩ = some (.int .i64 t2) := D5.out.2.2.2.1.cell 2
          have y3 : w22.cell? ⟨gy, 3, none⟩ = some (.slice ya q yk) := D5.out.2.2.2.1.cell 3
          go_wp2_with fail
          refine (refTsk_at co0 sy0 la0 mo0 sc n kc c2 d2 t2 (.slice st q kt) m _ D5.out.1.sect LL.out.2.2.1 true hX).mono ?_
          rintro e w23 ⟨rfl, g⟩
          have D6 : Hid (Cop4 w co0 sy0 la0 mo0 sc n kc l co1 sy1 la1 mo1 sd n' kd l' c2 d2 t2 st q kt m c3 d3 t3 su q' ku m' w23 ∧ Blk w23 gx #[.int .i64 co0, .int .i64 sy0, .int .i64 la0, .int .i64 mo0, .slice xa n xk] 24 ∧ Ints w23 (.slice xa n xk) l ∧ Blk w23 gy #[.int .i64 c2, .int .i64 d2, .int .i64 t2, .slice ya q yk] 27 ∧ Secs w23 (.slice ya q yk) m) := ⟨D5.out.1.below g, D5.out.2.1.below g, D5.out.2.2.1.below g, D5.out.2.2.2.1.below g, D5.out.2.2.2.2.below g⟩
          clear g D5
          have eqx0 : w23.cell? ⟨w.heap.size, 0, none⟩ = some (.int .i64 co0) := D6.out.1.r4.bc.cell 0
          have eqx1 : w23.cell? ⟨w.heap.size, 1, none⟩ = some (.int .i64 sy0) := D6.out.1.r4.bc.cell 1
          have eqx2 : w23.cell? ⟨w.heap.size, 2, none⟩ = some (.int .i64 la0) := D6.out.1.r4.bc.cell 2
          have eqx3 : w23.cell? ⟨w.heap.size, 3, none⟩ = some (.int .i64 mo0) := D6.out.1.r4.bc.cell 3
          have eqx4 : w23.cell? ⟨w.heap.size, 4, none⟩ = some (.slice sc n kc) := D6.out.1.r4.bc.cell 4
          have epx0 : w23.cell? ⟨w.heap.size + 1, 0, none⟩ = some (.int .i64 co1) := D6.out.1.r4.bd.cell 0
          have epx1 : w23.cell? ⟨w.heap.size + 1, 1, none⟩ = some (.int .i64 sy1) := D6.out.1.r4.bd.cell 1
          have epx2 : w23.cell? ⟨w.heap.size + 1, 2, none⟩ = some (.int .i64 la1) := D6.out.1.r4.bd.cell 2
          have epx3 : w23.cell? ⟨w.heap.size + 1, 3, none⟩ = some (.int .i64 mo1) := D6.out.1.r4.bd.cell 3
          have epx4 : w23.cell? ⟨w.heap.size + 1, 4, none⟩ = some (.slice sd n' kd) := D6.out.1.r4.bd.cell 4
          have erx0 : w23.cell? ⟨w.heap.size + 2, 0, none⟩ = some (.int .i64 c2) := D6.out.1.r4.bt.cell 0
          have erx1 : w23.cell? ⟨w.heap.size + 2, 1, none⟩ = some (.int .i64 d2) := D6.out.1.r4.bt.cell 1
          have erx2 : w23.cell? ⟨w.heap.size + 2, 2, none⟩ = some (.int .i64 t2) := D6.out.1.r4.bt.cell 2
          have erx3 : w23.cell? ⟨w.heap.size + 2, 3, none⟩ = some (.slice st q kt) := D6.out.1.r4.bt.cell 3
          have esx0 : w23.cell? ⟨w.heap.size + 3, 0, none⟩ = some (.int .i64 c3) := D6.out.1.r4.bu.cell 0
          have esx1 : w23.cell? ⟨w.heap.size + 3, 1, none⟩ = some (.int .i64 d3) := D6.out.1.r4.bu.cell 1
          have esx2 : w23.cell? ⟨w.heap.size + 3, 2, none⟩ = some (.int .i64 t3) := D6.out.1.r4.bu.cell 2
          have esx3 : w23.cell? ⟨w.heap.size + 3, 3, none⟩ = some (.slice su q' ku) := D6.out.1.r4.bu.cell 3
          have x0 : w23.cell? ⟨gx, 0, none⟩ = some (.int .i64 co0) := D6.out.2.1.cell 0
          have x1 : w23.cell? ⟨gx, 1, none⟩ = some (.int .i64 sy0) := D6.out.2.1.cell 1
          have x2 : w23.cell? ⟨gx, 2, none⟩ = some (.int .i64 la0) := D6.out.2.1.cell 2
          have x3 : w23.cell? ⟨gx, 3, none⟩ = some (.int .i64 mo0) := D6.out.2.1.cell 3
          have x4 : w23.cell? ⟨gx, 4, none⟩ = some (.slice xa n xk) := D6.out.2.1.cell 4
          have y0 : w23.cell? ⟨gy, 0, none⟩ = some (.int .i64 c2) := D6.out.2.2.2.1.cell 0
          have y1 : w23.cell? ⟨gy, 1, none⟩ = some (.int .i64 d2) := D6.out.2.2.2.1.cell 1
          have y2 : w23.cell? ⟨gy, 2, none⟩ = some (.int .i64 t2) := D6.out.2.2.2.1.cell 2
          have y3 : w23.cell? ⟨gy, 3, none⟩ = some (.slice ya q yk) := D6.out.2.2.2.1.cell 3
          go_wp2_with fail
          refine (sameTsk_at c2 d2 t2 c2 d2 t2 (.slice ya q yk) (.slice st q kt) m m _ D6.out.2.2.2.2 D6.out.1.sect LL.out.2.2.1 LL.out.2.2.1 true (decide_eq_true rfl)).mono ?_
          rintro e w24 ⟨rfl, g⟩
          have D7 : Hid (Cop4 w co0 sy0 la0 mo0 sc n kc l co1 sy1 la1 mo1 sd n' kd l' c2 d2 t2 st q kt m c3 d3 t3 su q' ku m' w24 ∧ Blk w24 gx #[.int .i64 co0, .int .i64 sy0, .int .i64 la0, .int .i64 mo0, .slice xa n xk] 24 ∧ Ints w24 (.slice xa n xk) l ∧ Blk w24 gy #[.int .i64 c2, .int .i64 d2, .int .i64 t2, .slice ya q yk] 27 ∧ Secs w24 (.slice ya q yk) m) := ⟨D6.out.1.below g, D6.out.2.1.below g, D6.out.2.2.1.below g, D6.out.2.2.2.1.below g, D6.out.2.2.2.2.below g⟩
          clear g D6
          have eqx0 : w24.cell? ⟨w.heap.size, 0, none⟩ = some (.int .i64 co0) := D7.out.1.r4.bc.cell 0
          have eqx1 : w24.cell? ⟨w.heap.size, 1, none⟩ = some (.int .i64 sy0) := D7.out.1.r4.bc.cell 1
          have eqx2 : w24.cell? ⟨w.heap.size, 2, none⟩ = some (.int .i64 la0) := D7.out.1.r4.bc.cell 2
          have eqx3 : w24.cell? ⟨w.heap.size, 3, none⟩ = some (.int .i64 mo0) := D7.out.1.r4.bc.cell 3
          have eqx4 : w24.cell? ⟨w.heap.size, 4, none⟩ = some (.slice sc n kc) := D7.out.1.r4.bc.cell 4
          have epx0 : w24.cell? ⟨w.heap.size + 1, 0, none⟩ = some (.int .i64 co1) := D7.out.1.r4.bd.cell 0
          have epx1 : w24.cell? ⟨w.heap.size + 1, 1, none⟩ = some (.int .i64 sy1) := D7.out.1.r4.bd.cell 1
          have epx2 : w24.cell? ⟨w.heap.size + 1, 2, none⟩ = some (.int .i64 la1) := D7.out.1.r4.bd.cell 2
          have epx3 : w24.cell? ⟨w.heap.size + 1, 3, none⟩ = some (.int .i64 mo1) := D7.out.1.r4.bd.cell 3
          have epx4 : w24.cell? ⟨w.heap.size + 1, 4, none⟩ = some (.slice sd n' kd) := D7.out.1.r4.bd.cell 4
          have erx0 : w24.cell? ⟨w.heap.size + 2, 0, none⟩ = some (.int .i64 c2) := D7.out.1.r4.bt.cell 0
          have erx1 : w24.cell? ⟨w.heap.size + 2, 1, none⟩ = some (.int .i64 d2) := D7.out.1.r4.bt.cell 1
          have erx2 : w24.cell? ⟨w.heap.size + 2, 2, none⟩ = some (.int .i64 t2) := D7.out.1.r4.bt.cell 2
          have erx3 : w24.cell? ⟨w.heap.size + 2, 3, none⟩ = some (.slice st q kt) := D7.out.1.r4.bt.cell 3
          have esx0 : w24.cell? ⟨w.heap.size + 3, 0, none⟩ = some (.int .i64 c3) := D7.out.1.r4.bu.cell 0
          have esx1 : w24.cell? ⟨w.heap.size + 3, 1, none⟩ = some (.int .i64 d3) := D7.out.1.r4.bu.cell 1
          have esx2 : w24.cell? ⟨w.heap.size + 3, 2, none⟩ = some (.int .i64 t3) := D7.out.1.r4.bu.cell 2
          have esx3 : w24.cell? ⟨w.heap.size + 3, 3, none⟩ = some (.slice su q' ku) := D7.out.1.r4.bu.cell 3
          have x0 : w24.cell? ⟨gx, 0, none⟩ = some (.int .i64 co0) := D7.out.2.1.cell 0
          have x1 : w24.cell? ⟨gx, 1, none⟩ = some (.int .i64 sy0) := D7.out.2.1.cell 1
          have x2 : w24.cell? ⟨gx, 2, none⟩ = some (.int .i64 la0) := D7.out.2.1.cell 2
          have x3 : w24.cell? ⟨gx, 3, none⟩ = some (.int .i64 mo0) := D7.out.2.1.cell 3
          have x4 : w24.cell? ⟨gx, 4, none⟩ = some (.slice xa n xk) := D7.out.2.1.cell 4
          have y0 : w24.cell? ⟨gy, 0, none⟩ = some (.int .i64 c2) := D7.out.2.2.2.1.cell 0
          have y1 : w24.cell? ⟨gy, 1, none⟩ = some (.int .i64 d2) := D7.out.2.2.2.1.cell 1
          have y2 : w24.cell? ⟨gy, 2, none⟩ = some (.int .i64 t2) := D7.out.2.2.2.1.cell 2
          have y3 : w24.cell? ⟨gy, 3, none⟩ = some (.slice ya q yk) := D7.out.2.2.2.1.cell 3
          go_wp2_with fail
          go_ret
          exact ⟨ret_bool (by simp), D7.out.1.r4.bel⟩
          -- ]R2

set_option maxRecDepth 100000 in
theorem lifted (os : Os) (started : os.Started) (H : Type) (enc : TypeId × Value → H) :
    ReturnsInHanded {} Tryz.checked os 4 .any (fun w args => (Rows.noteAllSpec.pre enc Tryz.prog Tryz.f4 [] false w args ∧ laidMetH Tryz.prog laid5 w) ∧ sizedMet enc Tryz.prog Tryz.f4 (OpenSpec.ofChange Rows.noteAllSpec) false w args)
      (Rows.noteAllSpec.post enc Tryz.prog Tryz.f4 false true false false) := by
  refine returnsInHanded_of_change_and (C := Tryz.checked) (X := fun w _ => laidMetH Tryz.prog laid5 w) (fun _ _ _ hh h => h.of_heap hh) own started (by kernel_rfl) Tryz.func4
    (ChangeSpec.witness_shaped (enc := enc) (C := Tryz.checked) (os := os) (X := fun w _ => laidMetH Tryz.prog laid5 w) false (World.doorLaid Tryz.prog 62 os) #[.agg #[.int .i64 0, .int .i64 0, .int .i64 0, .int .i64 0, .slice none 0 0], .agg #[.int .i64 0, .int .i64 0, .int .i64 0, .int .i64 0, .slice none 0 0], .agg #[.int .i64 0, .int .i64 0, .int .i64 0, .slice none 0 0], .agg #[.int .i64 0, .int .i64 0, .int .i64 0, .slice none 0 0]] 8 rfl (World.shaped_of_RefB (by kernel_rfl) (by kernel_rfl)) (by kernel_rfl) (by kernel_rfl) (by kernel_rfl) (door_met os _)) ?_
  intro W base args ds gs before hval0 hW _ _ hL _
  have hval : ∀ (j : Nat) t v, Tryz.f4.params[j]? = some t → args[j]? = some v → Value.okWide Tryz.prog W .any base t v := hval0
  have hW' := hW
  obtain ⟨p, q, hA0, hV, rfl, hfz, hnd⟩ := hW
  have hA : DataW.TrodAll enc Tryz.prog W 0 (fun _ => true) true Tryz.f4.params.toList args.toList ds p := hA0
  rw [Tryz.params4] at hA hval
  obtain ⟨v0, vs0, d0, ds0, p0, q0, hargs, rfl, rfl, h0, r0⟩ := trodAll_cons hA
  obtain ⟨v1, vs1, d1, ds1, p1, q1, rfl, rfl, rfl, h1, r1⟩ := trodAll_cons r0
  obtain ⟨v2, vs2, d2, ds2, p2, q2, rfl, rfl, rfl, h2, r2⟩ := trodAll_cons r1
  obtain ⟨v3, vs3, d3, ds3, p3, q3, rfl, rfl, rfl, h3, r3⟩ := trodAll_cons r2
  obtain ⟨rfl, rfl, rfl⟩ := trodAll_nil r3
  obtain rfl : args = #[v0, v1, v2, v3] := by cases args; simp_all
  obtain ⟨rfl, rfl⟩ := trodVars_none hV
  have k0 := h0
  have lt0 : ∀ x ∈ p0, x.block < W.heap.size := by obtain ⟨m, hm⟩ := k0; exact DataW.trod_lt m _ _ _ hm
  obtain ⟨co0, sy0, la0, mo0, s0, n0, m0, z0, rfl, w0, x00, x01, x02, x03⟩ := open_config (hval 0 24 v0 rfl rfl) h0
  have k1 := h1
  have lt1 : ∀ x ∈ p1, x.block < W.heap.size := by obtain ⟨m, hm⟩ := k1; exact DataW.trod_lt m _ _ _ hm
  obtain ⟨co1, sy1, la1, mo1, s1, n1, m1, z1, rfl, w1, x10, x11, x12, x13⟩ := open_config (hval 1 24 v1 rfl rfl) h1
  have k2 := h2
  have lt2 : ∀ x ∈ p2, x.block < W.heap.size := by obtain ⟨m, hm⟩ := k2; exact DataW.trod_lt m _ _ _ hm
  obtain ⟨c2, d2, t2, s2, n2, m2, z2, rfl, w2, x20, x21, x22⟩ := open_task (hval 2 27 v2 rfl rfl) h2
  have k3 := h3
  have lt3 : ∀ x ∈ p3, x.block < W.heap.size := by obtain ⟨m, hm⟩ := k3; exact DataW.trod_lt m _ _ _ hm
  obtain ⟨c3, d3, t3, s3, n3, m3, z3, rfl, w3, x30, x31, x32⟩ := open_task (hval 3 27 v3 rfl rfl) h3
  clear hA0 hval0
  simp only [List.append_nil] at hW'
  refine (walk co0 sy0 la0 mo0 s0 n0 m0 z0 co1 sy1 la1 mo1 s1 n1 m1 z1 c2 d2 t2 s2 n2 m2 z2 c3 d3 t3 s3 n3 m3 z3 W (env_of_laid hL) w0 x00 x01 x02 x03 w1 x10 x11 x12 x13 w2 x20 x21 x22 w3 x30 x31 x32).mono fun e W' ⟨he, bel⟩ => ?_
  subst he
  exact ⟨_, rfl, _, _, _, [], _, [], hW', trodAll_mk1 (shut_bool Tryz.underlying4 _), (trodAll_cons_mk (Below.trod laidOut (by kernel_rfl) (of_decide_eq_true (by kernel_rfl)) k0 bel lt0) (trodAll_cons_mk (Below.trod laidOut (by kernel_rfl) (of_decide_eq_true (by kernel_rfl)) k1 bel lt1) (trodAll_cons_mk (Below.trod laidOut (by kernel_rfl) (of_decide_eq_true (by kernel_rfl)) k2 bel lt2) (trodAll_cons_mk (Below.trod laidOut (by kernel_rfl) (of_decide_eq_true (by kernel_rfl)) k3 bel lt3) trodAll_mk0)))), rfl, bel.frame _, fun h => by cases h⟩

theorem over : Rows.noteAllRow.holds Tryz.pinned (OpenSpec.ofChange Rows.noteAllSpec) :=
  OpenClaim.holds_of_wide 4 Tryz.f4 rfl rfl rfl rfl rfl rfl rfl ⟨rfl, rfl, rfl, rfl, rfl⟩ rfl rfl rfl rfl rfl (by kernel_rfl) Tryz.func4 (by kernel_rfl)
    (of_decide_eq_true (by kernel_rfl)) (by unfold Func.isWrapper; first | (rw [if_pos (by decide +kernel)]; kernel_rfl) | (rw [if_neg (by decide +kernel)]; exact ⟨rfl, rfl⟩))
    (fun os started H enc _ => lifted os started H enc)

theorem proved : Rows.NoteAllCardSaid :=
  Claim7.holds_tied_plain_at .later [] [.data, .data, .data, .sentinel, .sentinel] true (true, "37abfd0d7052d27f0f6d9d400e10e68c1c6c8f4ab53814c658e974c9b51592ad") true
    over (fun _ h => by cases h) (by kernel_rfl) (fun _ h => by cases h) noteAll_row_tie rfl ⟨rfl, rfl⟩ (by kernel_rfl) rfl
    (fun f fn hf hfn => by
      obtain rfl : f = 4 := Option.some.inj ((show Tryz.prog.funcNamed "hortator/hortatorlaw7.NoteAll" = some 4 by kernel_rfl).symm.trans hf) |>.symm
      obtain rfl : fn = Tryz.f4 := (Option.some.inj (Tryz.func4.symm.trans hfn)).symm
      exact ⟨by kernel_rfl, fun j t ht => by
        rw [Tryz.params4] at ht
        match j, ht with
        | 0, ht => obtain rfl : t = 24 := by simpa using ht.symm
                   exact (show Tryz.prog.wantsStandIn 24 = false by kernel_rfl)
        | 1, ht => obtain rfl : t = 24 := by simpa using ht.symm
                   exact (show Tryz.prog.wantsStandIn 24 = false by kernel_rfl)
        | 2, ht => obtain rfl : t = 27 := by simpa using ht.symm
                   exact (show Tryz.prog.wantsStandIn 27 = false by kernel_rfl)
        | 3, ht => obtain rfl : t = 27 := by simpa using ht.symm
                   exact (show Tryz.prog.wantsStandIn 27 = false by kernel_rfl)
        | (_ + 4), ht => simp at ht⟩)
    (by kernel_rfl)
end Go.Proofs.YtfhhpmnohbmnoaaGreatDoor.noteAll
