/-
PROVED: the statement hortatorlaw7.NoteNoughts answers true over the landed packages: numbers have no nought ahead, and nothing else beside them.
  CONDITIONS: the listed variables of strconv and math/bits hold what the program's text lays (the card ties them).
-/
import Derived.Test.YtfhhpmnohbmnoaaGreatDoorRows
import Derived.Test.YtfhhpmnohbmnoaaGreatDoorTie
import Derived.Test.YtfhhpmnohbmnoaaGreatDoorCards
import Derived.WalkKit
import Derived.ProofKit
import Derived.OpenShut
import Derived.ShutString
import Derived.ChangeOld
import Derived.Below
import Derived.SevenTiedAt
import Derived.Test.YtfhhpmnohbmnoaaGreatDoorLaid
import Derived.Carry
import Derived.Deep.Cut
import Derived.Deep.CutRange
import Derived.Deep.RegionWith
import Derived.Deep.RegionHeld3
import Derived.Deep.LoopGhost
import Derived.Deep.QuietTactic
import Derived.BigQuiet
import Derived.Test.YtfhhpmnohbmnoaaGreatDoorNou
import Derived.Test.YtfhhpmnohbmnoaaGreatDoorArgs
namespace Go.Proofs.YtfhhpmnohbmnoaaGreatDoor.noteNoughts
open Go.ChangeShapes Go.WideShapes Go.ChangeAt Go.RowKit
open Go.ChangeMaps (open_string shut_string)
set_option linter.unusedVariables false

theorem own : ownKnob Tryz.prog.godebug = none := by kernel_rfl
theorem laidOut : laidOutB Tryz.prog = true := by kernel_rfl

set_option maxHeartbeats 8000000 in
set_option maxRecDepth 100000 in
theorem walk (c0 d0 t0 : Int) (s0 : Option Addr) (n0 m0 : Nat) (z0 : List Sec) (a1 : Int) (y2 : ByteArray) (w : World) (hE : Env w) (w0 : ASecs w s0 n0 m0 z0) (x00 : (Lit.int .i64 c0).wf = true) (x01 : (Lit.int .i64 d0).wf = true) (x02 : (Lit.int .i64 t0).wf = true) (w1 : (Lit.int .i64 a1).wf = true) (w2 : y2.size ≤ maxLen) :
    Calls Tryz.prog 6 #[.agg #[.int .i64 c0, .int .i64 d0, .int .i64 t0, .slice s0 n0 m0], .int .i64 a1, .string y2] w fun e w' => e = .returned (.bool true) ∧ Below w.heap.size w w' := by
  obtain ⟨b1, b2⟩ := bounds_i64 w1
  unfold maxLen at w2
  have h5 := hE.1
  have E0 : Hid (TBox w w.heap.size #[.int .i64 c0, .int .i64 d0, .int .i64 t0, .slice s0 n0 m0] 27 (w.alloc (.cells #[.int .i64 c0, .int .i64 d0, .int .i64 t0, .slice s0 n0 m0] 27))) := ⟨hE.below (balloc _ _), heap_alloc_new _ _, balloc _ _⟩
  have AT : Hid (ASecs w s0 n0 m0 z0) := w0
  obtain ⟨m, hm⟩ : ∃ m, z0.take 4 = m := ⟨_, rfl⟩
  obtain ⟨q, hq⟩ : ∃ q, m.length = q := ⟨_, rfl⟩
  have q4 : q ≤ 4 := by rw [← hq, ← hm, List.length_take]; omega
  have HM : Hid (z0.take 4 = m ∧ m.length = q) := ⟨hm, hq⟩
  clear hE w0 hm hq
  go_enter Tryz.func6, Tryz.ntmps6
  go_wp2_with fail
  refine (begun7_any _ E0.out.env).mono ?_
  rintro e v1 ⟨rfl, g1⟩
  have E1 : Hid (TBox w w.heap.size #[.int .i64 c0, .int .i64 d0, .int .i64 t0, .slice s0 n0 m0] 27 v1) := E0.out.below g1
  clear g1 E0
  have p0 : v1.cell? ⟨w.heap.size, 0, none⟩ = some (.int .i64 c0) := E1.out.blk.cell 0
  have p1 : v1.cell? ⟨w.heap.size, 1, none⟩ = some (.int .i64 d0) := E1.out.blk.cell 1
  have p2 : v1.cell? ⟨w.heap.size, 2, none⟩ = some (.int .i64 t0) := E1.out.blk.cell 2
  have p3 : v1.cell? ⟨w.heap.size, 3, none⟩ = some (.slice s0 n0 m0) := E1.out.blk.cell 3
  go_wp2_with fail
  refine (ltask_at c0 d0 t0 s0 n0 m0 z0 m q HM.out.1 HM.out.2 v1 (AT.out.below E1.out.bel)).mono ?_
  rintro e v2 ⟨st, kt, rfl, own2, g2⟩
  have E2 := E1.out.copied h5 HM.out.2 own2 g2
  have G2 : Hid (TBox w w.heap.size #[.int .i64 c0, .int .i64 d0, .int .i64 t0, .slice s0 n0 m0] 27 v2) := E1.out.below g2
  have p0 : v2.cell? ⟨w.heap.size, 0, none⟩ = some (.int .i64 c0) := G2.out.blk.cell 0
  have fp0 := G2.out.blk.frozen 0
  have p1 : v2.cell? ⟨w.heap.size, 1, none⟩ = some (.int .i64 d0) := G2.out.blk.cell 1
  have fp1 := G2.out.blk.frozen 1
  have p2 : v2.cell? ⟨w.heap.size, 2, none⟩ = some (.int .i64 t0) := G2.out.blk.cell 2
  have fp2 := G2.out.blk.frozen 2
  have p3 : v2.cell? ⟨w.heap.size, 3, none⟩ = some (.slice s0 n0 m0) := G2.out.blk.cell 3
  have fp3 := G2.out.blk.frozen 3
  have l2 := G2.out.blk.lt
  have E3 : Hid (TBox w w.heap.size #[.int .i64 c0, .int .i64 d0, .int .i64 t0, .slice st q kt] 27 _ ∧ Secs _ (.slice st q kt) m) := E2
  clear E2 own2 g2 E1 AT
  go_wp2_with fail
  generalize hZ : World.setCell _ _ _ = Z at E3 ⊢
  have E4 : Hid (TBox w w.heap.size #[.int .i64 c0, .int .i64 d0, .int .i64 t0, .slice st q kt] 27 Z ∧ Secs Z (.slice st q kt) m) := E3.out
  clear hZ E3 G2 l2 p0 p1 p2 p3 fp0 fp1 fp2 fp3
  refine (putTsk_any c0 d0 t0 (.slice st q kt) m Z E4.out.1.env E4.out.2 (by have := HM.out.2; omega)).mono ?_
  rintro e w3 ⟨p, rfl, hp, g3⟩
  have E5 : Hid (TBox w w.heap.size #[.int .i64 c0, .int .i64 d0, .int .i64 t0, .slice st q kt] 27 w3 ∧ Secs w3 (.slice st q kt) m) := ⟨E4.out.1.below g3, E4.out.2.below g3⟩
  have HP : Hid (p.data.toList = putTskL ⟨c0, d0, t0, m⟩) := hp
  have l3 := E5.out.1.blk.lt
  clear g3 E4 hp
  have p0 : w3.cell? ⟨w.heap.size, 0, none⟩ = some (.int .i64 c0) := E5.out.1.blk.cell 0
  have p1 : w3.cell? ⟨w.heap.size, 1, none⟩ = some (.int .i64 d0) := E5.out.1.blk.cell 1
  have p2 : w3.cell? ⟨w.heap.size, 2, none⟩ = some (.int .i64 t0) := E5.out.1.blk.cell 2
  have p3 : w3.cell? ⟨w.heap.size, 3, none⟩ = some (.slice st q kt) := E5.out.1.blk.cell 3
  cases hb : tskB 6 ⟨c0, d0, t0, m⟩
  · obtain rfl : p = ⟨#[]⟩ := bytes_ext (by rw [HP.out]; unfold putTskL; rw [hb]; rfl)
    go_wp2_with fail
    refine (refPutTsk_s c0 d0 t0 (.slice st q kt) m ⟨#[]⟩ _ E5.out.1.env E5.out.2 (by have := HM.out.2; omega) HP.out).mono ?_
    rintro e w4 ⟨rfl, g4⟩
    go_wp2_with fail
    go_ret
    exact ⟨ret_bool (by simp), btrans E5.out.1.bel g4⟩
  have PT : Hid (p.data.toList = putTskT ⟨c0, d0, t0, m⟩) := by unfold Hid; rw [HP.out]; unfold putTskL; rw [hb]; rfl
  have ps : p.size ≤ 60 := by have := (putTsk_len hb).1; rw [← PT.out, size_len] at this; exact this
  have pn : ¬ p = ⟨#[]⟩ := by intro e; have := (putTsk_len hb).2; rw [← PT.out, e] at this; exact this rfl
  have NE : ¬ p.toList = [] := put_yes2 pn
  have NE2 : p.toList.isEmpty = false := by simpa using NE
  clear hb
  by_cases ha : a1 < 0
  · go_wp2_with fail
    refine (refPutTsk_s c0 d0 t0 (.slice st q kt) m p _ E5.out.1.env E5.out.2 (by have := HM.out.2; omega) HP.out).mono ?_
    rintro e w4 ⟨rfl, g4⟩
    go_wp2_with fail
    go_ret
    exact ⟨ret_bool (by simp), btrans E5.out.1.bel g4⟩
  obtain ⟨k, hk⟩ : ∃ k : Nat, a1 % ((p.size : Int) + 1) = (k : Int) := ⟨(a1 % ((p.size : Int) + 1)).toNat, by have := Int.emod_nonneg a1 (b := (p.size : Int) + 1) (by omega); omega⟩
  have k1 : k ≤ p.size := by have := Int.emod_lt_of_pos a1 (show 0 < (p.size : Int) + 1 by omega); omega
  obtain ⟨j, hj⟩ : ∃ j : Nat, min (y2.size : Int) 3 = (j : Int) := ⟨min y2.size 3, by omega⟩
  have j3 : j ≤ 3 := by omega
  have j4 : (j : Int) ≤ y2.size := by omega
  have N0 : Hid (Nb w w3.heap.size (w3.heap.size + 1) _) := Nb.start E5.out.1.env E5.out.1.bel
  go_wp2_with fail
  rw [hk]
  have ys : (y2.extract 0 j).size ≤ 3 := by simp; omega
  generalize y2.extract 0 j = y at ys ⊢
  generalize hW : (w3.alloc _).alloc _ = W4 at N0 ⊢
  generalize hg : w3.heap.size = g at N0 ⊢
  clear hW hg E5 p0 p1 p2 p3 l3 hk hj j4 HP HM
  have k2 : (k : Int) ≤ p.size := by omega
  go_quiet (fail)
  have N1 : Hid (Nb w g (g + 1) (W4.drewN nq)) := N0.out.below ⟨rfl, rfl, rfl, Nat.le_refl _, fun _ _ => rfl⟩
  generalize W4.drewN nq = W5 at N1 ⊢
  have Qs : (p.extract 0 k ++ y ++ p.extract k p.size).size ≤ 1000 := by simp; omega
  generalize p.extract 0 k ++ y ++ p.extract k p.size = Q at Qs ⊢
  clear N0
  have f0 : W5.cell? ⟨g + 1, 0, none⟩ = some (.int .i64 1) := N1.out.blk.cell 0
  have f1 : W5.cell? ⟨g + 1, 1, none⟩ = some (.int .i64 1) := N1.out.blk.cell 1
  have f2 : W5.cell? ⟨g + 1, 2, none⟩ = some (.int .i64 0) := N1.out.blk.cell 2
  have f3 : W5.cell? ⟨g + 1, 3, none⟩ = some (.int .i64 0) := N1.out.blk.cell 3
  have f4 : W5.cell? ⟨g + 1, 4, none⟩ = some (.slice (some ⟨g, 0, none⟩) 6 6) := N1.out.blk.cell 4
  have lg : g + 1 < W5.heap.size := N1.out.blk.lt
  go_wp2_with fail
  refine Calls.mono (get_none_at N1.out _ ?szw6 ?hnw6) ?_
  case szw6 => exact (size_more (⟨#[48]⟩ : ByteArray) p ps rfl).1
  case hnw6 => exact none_nought p
  rintro e w6 ⟨rfl, g6⟩
  have N2 : Hid (Nb w g (g + 1) w6) := N1.out.below g6
  clear g6 N1
  clear f0 f1 f2 f3 f4 lg
  have f0 : w6.cell? ⟨g + 1, 0, none⟩ = some (.int .i64 1) := N2.out.blk.cell 0
  have f1 : w6.cell? ⟨g + 1, 1, none⟩ = some (.int .i64 1) := N2.out.blk.cell 1
  have f2 : w6.cell? ⟨g + 1, 2, none⟩ = some (.int .i64 0) := N2.out.blk.cell 2
  have f3 : w6.cell? ⟨g + 1, 3, none⟩ = some (.int .i64 0) := N2.out.blk.cell 3
  have f4 : w6.cell? ⟨g + 1, 4, none⟩ = some (.slice (some ⟨g, 0, none⟩) 6 6) := N2.out.blk.cell 4
  have lg : g + 1 < w6.heap.size := N2.out.blk.lt
  have N3 : Hid (Nb w g (g + 1) (w6.alloc (.cells #[.int .i64 0, .int .i64 0, .int .i64 0, .slice none 0 0] 27))) := N2.out.below (balloc _ _)
  go_wp2_with fail
  generalize hW : w6.alloc _ = W6 at N3 ⊢
  clear hW N2
  refine Calls.mono (get_none_at N3.out _ ?szw7 ?hnw7) ?_
  case szw7 => exact (size_more (⟨#[43]⟩ : ByteArray) p ps rfl).1
  case hnw7 => exact none_plus p
  rintro e w7 ⟨rfl, g6⟩
  have N4 : Hid (Nb w g (g + 1) w7) := N3.out.below g6
  clear g6 N3
  clear f0 f1 f2 f3 f4 lg
  have f0 : w7.cell? ⟨g + 1, 0, none⟩ = some (.int .i64 1) := N4.out.blk.cell 0
  have f1 : w7.cell? ⟨g + 1, 1, none⟩ = some (.int .i64 1) := N4.out.blk.cell 1
  have f2 : w7.cell? ⟨g + 1, 2, none⟩ = some (.int .i64 0) := N4.out.blk.cell 2
  have f3 : w7.cell? ⟨g + 1, 3, none⟩ = some (.int .i64 0) := N4.out.blk.cell 3
  have f4 : w7.cell? ⟨g + 1, 4, none⟩ = some (.slice (some ⟨g, 0, none⟩) 6 6) := N4.out.blk.cell 4
  have lg : g + 1 < w7.heap.size := N4.out.blk.lt
  have N5 : Hid (Nb w g (g + 1) (w7.alloc (.cells #[.int .i64 0, .int .i64 0, .int .i64 0, .slice none 0 0] 27))) := N4.out.below (balloc _ _)
  go_wp2_with fail
  generalize hW : w7.alloc _ = W7 at N5 ⊢
  clear hW N4
  refine Calls.mono (get_none_at N5.out _ ?szw8 ?hnw8) ?_
  case szw8 => exact (size_more (⟨#[32]⟩ : ByteArray) p ps rfl).2
  case hnw8 => exact none_blank p
  rintro e w8 ⟨rfl, g6⟩
  have N6 : Hid (Nb w g (g + 1) w8) := N5.out.below g6
  clear g6 N5
  clear f0 f1 f2 f3 f4 lg
  have f0 : w8.cell? ⟨g + 1, 0, none⟩ = some (.int .i64 1) := N6.out.blk.cell 0
  have f1 : w8.cell? ⟨g + 1, 1, none⟩ = some (.int .i64 1) := N6.out.blk.cell 1
  have f2 : w8.cell? ⟨g + 1, 2, none⟩ = some (.int .i64 0) := N6.out.blk.cell 2
  have f3 : w8.cell? ⟨g + 1, 3, none⟩ = some (.int .i64 0) := N6.out.blk.cell 3
  have f4 : w8.cell? ⟨g + 1, 4, none⟩ = some (.slice (some ⟨g, 0, none⟩) 6 6) := N6.out.blk.cell 4
  have lg : g + 1 < w8.heap.size := N6.out.blk.lt
  have N7 : Hid (Nb w g (g + 1) (w8.alloc (.cells #[.int .i64 0, .int .i64 0, .int .i64 0, .slice none 0 0] 27))) := N6.out.below (balloc _ _)
  go_wp2_with fail
  generalize hW : w8.alloc _ = W8 at N7 ⊢
  clear hW N6
  refine (tells_any 1 1 0 0 (.slice (some ⟨g, 0, none⟩) 6 6) six0 Q _ (by omega) N7.out.env N7.out.ints six_cfg).mono ?_
  rintro e w9 ⟨rfl, g9⟩
  go_wp2_with fail
  go_ret
  exact ⟨ret_bool (by rfl), btrans N7.out.bel g9⟩

set_option maxRecDepth 100000 in
theorem lifted (os : Os) (started : os.Started) (H : Type) (enc : TypeId × Value → H) :
    ReturnsInHanded {} Tryz.checked os 6 .any (fun w args => (Rows.noteNoughtsSpec.pre enc Tryz.prog Tryz.f6 [] false w args ∧ laidMetH Tryz.prog laid5 w) ∧ sizedMet enc Tryz.prog Tryz.f6 (OpenSpec.ofChange Rows.noteNoughtsSpec) false w args)
      (Rows.noteNoughtsSpec.post enc Tryz.prog Tryz.f6 false true false false) := by
  refine returnsInHanded_of_change_and (C := Tryz.checked) (X := fun w _ => laidMetH Tryz.prog laid5 w) (fun _ _ _ hh h => h.of_heap hh) own started (by kernel_rfl) Tryz.func6
    (ChangeSpec.witness_shaped (enc := enc) (C := Tryz.checked) (os := os) (X := fun w _ => laidMetH Tryz.prog laid5 w) false (World.doorLaid Tryz.prog 62 os) #[.agg #[.int .i64 0, .int .i64 0, .int .i64 0, .slice none 0 0], .int .i64 0, .string ⟨#[]⟩] 8 rfl (World.shaped_of_RefB (by kernel_rfl) (by kernel_rfl)) (by kernel_rfl) (by kernel_rfl) (by kernel_rfl) (door_met os _)) ?_
  intro W base args ds gs before hval0 hW _ _ hL _
  have hval : ∀ (j : Nat) t v, Tryz.f6.params[j]? = some t → args[j]? = some v → Value.okWide Tryz.prog W .any base t v := hval0
  have hW' := hW
  obtain ⟨p, q, hA0, hV, rfl, hfz, hnd⟩ := hW
  have hA : DataW.TrodAll enc Tryz.prog W 0 (fun _ => true) true Tryz.f6.params.toList args.toList ds p := hA0
  rw [Tryz.params6] at hA hval
  obtain ⟨v0, vs0, d0, ds0, p0, q0, hargs, rfl, rfl, h0, r0⟩ := trodAll_cons hA
  obtain ⟨v1, vs1, d1, ds1, p1, q1, rfl, rfl, rfl, h1, r1⟩ := trodAll_cons r0
  obtain ⟨v2, vs2, d2, ds2, p2, q2, rfl, rfl, rfl, h2, r2⟩ := trodAll_cons r1
  obtain ⟨rfl, rfl, rfl⟩ := trodAll_nil r2
  obtain rfl : args = #[v0, v1, v2] := by cases args; simp_all
  obtain ⟨rfl, rfl⟩ := trodVars_none hV
  have k0 := h0
  have lt0 : ∀ x ∈ p0, x.block < W.heap.size := by obtain ⟨m, hm⟩ := k0; exact DataW.trod_lt m _ _ _ hm
  obtain ⟨c0, d0, t0, s0, n0, m0, z0, rfl, w0, x00, x01, x02⟩ := open_task (hval 0 27 v0 rfl rfl) h0
  obtain ⟨a1, rfl, rfl, rfl, w1⟩ := open_int Tryz.underlying3 (hval 1 3 v1 rfl rfl) h1
  obtain ⟨y2, rfl, rfl, rfl, w2⟩ := open_string Tryz.underlying9 (hval 2 9 v2 rfl rfl) h2
  clear hA0 hval0
  simp only [List.append_nil] at hW'
  refine (walk c0 d0 t0 s0 n0 m0 z0 a1 y2 W (env_of_laid hL) w0 x00 x01 x02 w1 w2).mono fun e W' ⟨he, bel⟩ => ?_
  subst he
  exact ⟨_, rfl, _, _, _, [], _, [], hW', trodAll_mk1 (shut_bool Tryz.underlying4 _), (trodAll_cons_mk (Below.trod laidOut (by kernel_rfl) (of_decide_eq_true (by kernel_rfl)) k0 bel lt0) (trodAll_cons_mk (shut_int Tryz.underlying3 w1) (trodAll_cons_mk (shut_string Tryz.underlying9 w2) trodAll_mk0))), rfl, bel.frame _, fun h => by cases h⟩

theorem over : Rows.noteNoughtsRow.holds Tryz.pinned (OpenSpec.ofChange Rows.noteNoughtsSpec) :=
  OpenClaim.holds_of_wide 6 Tryz.f6 rfl rfl rfl rfl rfl rfl rfl ⟨rfl, rfl, rfl, rfl, rfl⟩ rfl rfl rfl rfl rfl (by kernel_rfl) Tryz.func6 (by kernel_rfl)
    (of_decide_eq_true (by kernel_rfl)) (by unfold Func.isWrapper; first | (rw [if_pos (by decide +kernel)]; kernel_rfl) | (rw [if_neg (by decide +kernel)]; exact ⟨rfl, rfl⟩))
    (fun os started H enc _ => lifted os started H enc)

theorem proved : Rows.NoteNoughtsCardSaid :=
  Claim7.holds_tied_plain_at .later [] [.data, .data, .data, .sentinel, .sentinel] true (true, "37abfd0d7052d27f0f6d9d400e10e68c1c6c8f4ab53814c658e974c9b51592ad") true
    over (fun _ h => by cases h) (by kernel_rfl) (fun _ h => by cases h) noteNoughts_row_tie rfl ⟨rfl, rfl⟩ (by kernel_rfl) rfl
    (fun f fn hf hfn => by
      obtain rfl : f = 6 := Option.some.inj ((show Tryz.prog.funcNamed "hortator/hortatorlaw7.NoteNoughts" = some 6 by kernel_rfl).symm.trans hf) |>.symm
      obtain rfl : fn = Tryz.f6 := (Option.some.inj (Tryz.func6.symm.trans hfn)).symm
      exact ⟨by kernel_rfl, fun j t ht => by
        rw [Tryz.params6] at ht
        match j, ht with
        | 0, ht => obtain rfl : t = 27 := by simpa using ht.symm
                   exact (show Tryz.prog.wantsStandIn 27 = false by kernel_rfl)
        | 1, ht => obtain rfl : t = 3 := by simpa using ht.symm
                   exact (show Tryz.prog.wantsStandIn 3 = false by kernel_rfl)
        | 2, ht => obtain rfl : t = 9 := by simpa using ht.symm
                   exact (show Tryz.prog.wantsStandIn 9 = false by kernel_rfl)
        | (_ + 3), ht => simp at ht⟩)
    (by kernel_rfl)
end Go.Proofs.YtfhhpmnohbmnoaaGreatDoor.noteNoughts
