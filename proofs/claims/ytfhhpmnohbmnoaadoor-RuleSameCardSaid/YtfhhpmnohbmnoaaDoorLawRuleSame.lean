/-
PROVED: the statement hortatorlaw7.RuleSame answers true over the landed packages: tasks are the same just if all their numbers are.
  CONDITIONS: the listed variables of strconv and math/bits hold what the program's text lays (the card ties them).
-/
import Derived.Test.YtfhhpmnohbmnoaaDoorRows
import Derived.Test.YtfhhpmnohbmnoaaDoorTie
import Derived.Test.YtfhhpmnohbmnoaaDoorCards
import Derived.WalkKit
import Derived.ProofKit
import Derived.OpenShut
import Derived.ShutString
import Derived.ChangeOld
import Derived.Below
import Derived.SevenTiedAt
import Derived.Test.YtfhhpmnohbmnoaaDoorLaid
import Derived.Carry
import Derived.Test.YtfhhpmnohbmnoaaDoorCopy
import Derived.Test.YtfhhpmnohbmnoaaDoorArgs
import Derived.Test.YtfhhpmnohbmnoaaDoorKeep
namespace Go.Proofs.YtfhhpmnohbmnoaaDoor.ruleSame
open Go.ChangeShapes Go.WideShapes Go.ChangeAt Go.RowKit
open Go.ChangeMaps (open_string shut_string)
set_option linter.unusedVariables false

theorem own : ownKnob Tryd.prog.godebug = none := by kernel_rfl
theorem laidOut : laidOutB Tryd.prog = true := by kernel_rfl

set_option maxHeartbeats 8000000 in
set_option maxRecDepth 100000 in
theorem walk (c0 d0 t0 : Int) (s0 : Option Addr) (n0 m0 : Nat) (z0 : List Sec) (a1 : Int) (a2 : Int) (w : World) (hE : Env w) (w0 : ASecs w s0 n0 m0 z0) (x00 : (Lit.int .i64 c0).wf = true) (x01 : (Lit.int .i64 d0).wf = true) (x02 : (Lit.int .i64 t0).wf = true) (w1 : (Lit.int .i64 a1).wf = true) (w2 : (Lit.int .i64 a2).wf = true) :
    Calls Tryd.prog 7 #[.agg #[.int .i64 c0, .int .i64 d0, .int .i64 t0, .slice s0 n0 m0], .int .i64 a1, .int .i64 a2] w fun e w' => e = .returned (.bool true) ∧ Below w.heap.size w w' := by
  obtain ⟨b1, b2⟩ := bounds_i64 w1
  obtain ⟨b3, b4⟩ := bounds_i64 w2
  obtain ⟨b5, b6⟩ := bounds_i64 x00
  obtain ⟨b7, b8⟩ := bounds_i64 x01
  obtain ⟨b9, b10⟩ := bounds_i64 x02
  have k0 : Blk (w.alloc (.cells #[.int .i64 c0, .int .i64 d0, .int .i64 t0, .slice s0 n0 m0] 27)) w.heap.size #[.int .i64 c0, .int .i64 d0, .int .i64 t0, .slice s0 n0 m0] 27 := heap_alloc_new _ _
  have g0 := balloc w (.cells #[.int .i64 c0, .int .i64 d0, .int .i64 t0, .slice s0 n0 m0] 27)
  have E0 : Hid (Env (w.alloc (.cells #[.int .i64 c0, .int .i64 d0, .int .i64 t0, .slice s0 n0 m0] 27)) ∧ Blk (w.alloc (.cells #[.int .i64 c0, .int .i64 d0, .int .i64 t0, .slice s0 n0 m0] 27)) w.heap.size #[.int .i64 c0, .int .i64 d0, .int .i64 t0, .slice s0 n0 m0] 27 ∧ Below w.heap.size w (w.alloc (.cells #[.int .i64 c0, .int .i64 d0, .int .i64 t0, .slice s0 n0 m0] 27)) ∧ ASecs (w.alloc (.cells #[.int .i64 c0, .int .i64 d0, .int .i64 t0, .slice s0 n0 m0] 27)) s0 n0 m0 z0) := ⟨hE.below g0, k0, g0, w0.below g0⟩
  have h5 := hE.1
  clear hE w0 k0 g0
  go_enter Tryd.func7, Tryd.ntmps7
  go_wp2_with fail
  refine (begun7_any _ E0.out.1).mono ?_
  rintro e v1 ⟨rfl, g1⟩
  have E1 : Hid (Env v1 ∧ Blk v1 w.heap.size #[.int .i64 c0, .int .i64 d0, .int .i64 t0, .slice s0 n0 m0] 27 ∧ Below w.heap.size w v1 ∧ ASecs v1 s0 n0 m0 z0) := ⟨E0.out.1.below g1, E0.out.2.1.below g1, btrans E0.out.2.2.1 g1, E0.out.2.2.2.below g1⟩
  have q0 : v1.cell? ⟨w.heap.size, 0, none⟩ = some (.int .i64 c0) := E1.out.2.1.cell 0
  have q1 : v1.cell? ⟨w.heap.size, 1, none⟩ = some (.int .i64 d0) := E1.out.2.1.cell 1
  have q2 : v1.cell? ⟨w.heap.size, 2, none⟩ = some (.int .i64 t0) := E1.out.2.1.cell 2
  have q3 : v1.cell? ⟨w.heap.size, 3, none⟩ = some (.slice s0 n0 m0) := E1.out.2.1.cell 3
  clear g1 E0
  go_wp2_with fail
  refine (ltask_any c0 d0 t0 s0 n0 m0 z0 v1 E1.out.2.2.2).mono ?_
  rintro e v2 ⟨u1, rfl, own1, g2⟩
  obtain ⟨m, hm⟩ : ∃ m, m = z0.take 4 := ⟨_, rfl⟩
  rw [← hm] at own1
  have hm4 : m.length ≤ 4 := by rw [hm, List.length_take]; omega
  have mt : m.take 4 = m := List.take_of_length_le hm4
  obtain ⟨n, hn⟩ : ∃ n, n = m.length := ⟨_, rfl⟩
  rw [← hn] at own1
  have HN : Hid (n = m.length) := hn
  have hn4 : n ≤ 4 := by omega
  have HM : Hid (m.take 4 = m ∧ m.length ≤ 4) := ⟨mt, hm4⟩
  clear hm hn hm4 mt
  obtain ⟨sa, sk, e1⟩ := own_form own1
  subst e1
  have vb : w.heap.size < v1.heap.size := E1.out.2.1.lt
  have B2 := E1.out.2.1.below g2
  have q0 : v2.cell? ⟨w.heap.size, 0, none⟩ = some (.int .i64 c0) := B2.cell 0
  have q1 : v2.cell? ⟨w.heap.size, 1, none⟩ = some (.int .i64 d0) := B2.cell 1
  have q2 : v2.cell? ⟨w.heap.size, 2, none⟩ = some (.int .i64 t0) := B2.cell 2
  have q3 : v2.cell? ⟨w.heap.size, 3, none⟩ = some (.slice s0 n0 m0) := B2.cell 3
  have f0 := B2.frozen 0
  have f1 := B2.frozen 1
  have f2 := B2.frozen 2
  have f3 := B2.frozen 3
  have r2 := ((((B2.set 0 (.int .i64 c0)).1.set 1 (.int .i64 d0)).1.set 2 (.int .i64 t0)).1.set 3 (.slice sa n sk)).1
  have o2 := only4 v2 w.heap.size (.int .i64 c0) (.int .i64 d0) (.int .i64 t0) (.slice sa n sk)
  have own2 := own_off own1 o2 (fun j hj => by have := (own1.lt j hj).1; simp; omega)
  have bel2 : Below w.heap.size w _ := (btrans E1.out.2.2.1 g2).trans (o2.belowOf (by have := E1.out.2.2.1.size; have := g2.size; omega) (by simp))
  have E2 : Hid (Blk _ w.heap.size _ 27 ∧ World.ownsRow _ v1.heap.size 33 3 (.slice sa n sk) n (secC m) ∧ Below w.heap.size w _) := ⟨r2, own2, bel2⟩
  clear r2 o2 own2 bel2 own1 B2 g2 E1
  go_wp2_with fail
  generalize hZ : World.setCell _ _ _ = Z at E2 ⊢
  clear hZ q0 q1 q2 q3 f0 f1 f2 f3
  refine (ltask_any c0 d0 t0 sa n sk m Z (own_asecs E2.out.2.1 HN.out.symm)).mono ?_
  rintro e v3 ⟨u2, rfl, own3, g3⟩
  rw [HM.out.1, ← HN.out] at own3
  obtain ⟨sb, kb, e3⟩ := own_form own3
  subst e3
  have vz : w.heap.size < Z.heap.size := E2.out.1.lt
  have zv : Z.heap.size ≤ v3.heap.size := g3.size
  have E3 : Hid (Blk v3 w.heap.size #[.int .i64 c0, .int .i64 d0, .int .i64 t0, .slice sa n sk] 27 ∧ World.ownsRow v3 v1.heap.size 33 3 (.slice sa n sk) n (secC m) ∧ Below w.heap.size w v3 ∧ World.ownsRow v3 Z.heap.size 33 3 (.slice sb n kb) n (secC m) ∧ ∀ k, (Value.slice sa n sk).ownBlock = some k → k < Z.heap.size) := ⟨(show Blk Z w.heap.size #[.int .i64 c0, .int .i64 d0, .int .i64 t0, .slice sa n sk] 27 from E2.out.1).below g3, own_below E2.out.2.1 g3, btrans E2.out.2.2 g3, own3, fun k hk => (E2.out.2.1.lt k hk).2⟩
  clear E2 own3 g3
  have q0 : v3.cell? ⟨w.heap.size, 0, none⟩ = some (.int .i64 c0) := E3.out.1.cell 0
  have q1 : v3.cell? ⟨w.heap.size, 1, none⟩ = some (.int .i64 d0) := E3.out.1.cell 1
  have q2 : v3.cell? ⟨w.heap.size, 2, none⟩ = some (.int .i64 t0) := E3.out.1.cell 2
  have q3 : v3.cell? ⟨w.heap.size, 3, none⟩ = some (.slice sa n sk) := E3.out.1.cell 3
  have lt3 : w.heap.size < v3.heap.size := by omega
  obtain ⟨i0, hi0, hz0, hz1, hz2⟩ := info_parts infoS
  obtain ⟨B, hB⟩ : ∃ B, bits .and .i64 a1 3 = B := ⟨_, rfl⟩
  by_cases y0 : B = 0
  · subst y0
    obtain ⟨X, hX⟩ : ∃ X, wrap64 (c0 + a2) = X := ⟨_, rfl⟩
    obtain ⟨D, hD⟩ : ∃ D, (a2 == 0) = D := ⟨_, rfl⟩
    have D1 : Hid (decide ((⟨c0, d0, t0, m⟩ : Tsk) = ⟨X, d0, t0, m⟩) = D) := by unfold Hid; rw [Bool.eq_iff_iff, decide_eq_true_eq, ← hD, beq_iff_eq, tsk_eq, ← hX]; unfold wrap64; exact ⟨fun ⟨h1, h2, h3, _⟩ => by omega, fun h => ⟨by omega, by omega, by omega, rfl⟩⟩
    have D2 : Hid (decide ((⟨X, d0, t0, m⟩ : Tsk) = ⟨c0, d0, t0, m⟩) = D) := by unfold Hid; rw [Bool.eq_iff_iff, decide_eq_true_eq, ← hD, beq_iff_eq, tsk_eq, ← hX]; unfold wrap64; exact ⟨fun ⟨h1, h2, h3, _⟩ => by omega, fun h => ⟨by omega, by omega, by omega, rfl⟩⟩
    have R4 : Hid (Blk (v3.alloc (.cells #[.int .i64 X, .int .i64 d0, .int .i64 t0, .slice sb n kb] 27)) v3.heap.size #[.int .i64 X, .int .i64 d0, .int .i64 t0, .slice sb n kb] 27 ∧ Blk (v3.alloc (.cells #[.int .i64 X, .int .i64 d0, .int .i64 t0, .slice sb n kb] 27)) w.heap.size #[.int .i64 c0, .int .i64 d0, .int .i64 t0, .slice sa n sk] 27 ∧ Secs (v3.alloc (.cells #[.int .i64 X, .int .i64 d0, .int .i64 t0, .slice sb n kb] 27)) (.slice sa n sk) m ∧ Secs (v3.alloc (.cells #[.int .i64 X, .int .i64 d0, .int .i64 t0, .slice sb n kb] 27)) (.slice sb n kb) m ∧ Below w.heap.size w (v3.alloc (.cells #[.int .i64 X, .int .i64 d0, .int .i64 t0, .slice sb n kb] 27))) := ⟨heap_alloc_new _ _, E3.out.1.below (balloc _ _), Secs.below (own_secs (base := v1.heap.size) (e := 33) (by rw [← HN.out]; exact E3.out.2.1)) (balloc _ _), Secs.below (own_secs (base := Z.heap.size) (e := 33) (by rw [← HN.out]; exact E3.out.2.2.2.1)) (balloc _ _), btrans E3.out.2.2.1 (balloc _ _)⟩
    go_wp2_with fail
    refine (same_any c0 d0 t0 X d0 t0 (.slice sa n sk) (.slice sb n kb) m m (v3.alloc (.cells #[.int .i64 X, .int .i64 d0, .int .i64 t0, .slice sb n kb] 27)) R4.out.2.2.1 R4.out.2.2.2.1 (by have := HM.out.2; omega) (by have := HM.out.2; omega)).mono ?_
    rintro e v4 ⟨he, g4⟩
    rw [D1.out] at he
    subst he
    have F4 : Hid (Blk v4 v3.heap.size #[.int .i64 X, .int .i64 d0, .int .i64 t0, .slice sb n kb] 27 ∧ Blk v4 w.heap.size #[.int .i64 c0, .int .i64 d0, .int .i64 t0, .slice sa n sk] 27 ∧ Secs v4 (.slice sa n sk) m ∧ Secs v4 (.slice sb n kb) m ∧ Below w.heap.size w v4) := ⟨R4.out.1.below g4, R4.out.2.1.below g4, R4.out.2.2.1.below g4, R4.out.2.2.2.1.below g4, btrans R4.out.2.2.2.2 g4⟩
    have u0 : v4.cell? ⟨v3.heap.size, 0, none⟩ = some (.int .i64 X) := F4.out.1.cell 0
    have u1 : v4.cell? ⟨v3.heap.size, 1, none⟩ = some (.int .i64 d0) := F4.out.1.cell 1
    have u2 : v4.cell? ⟨v3.heap.size, 2, none⟩ = some (.int .i64 t0) := F4.out.1.cell 2
    have u3 : v4.cell? ⟨v3.heap.size, 3, none⟩ = some (.slice sb n kb) := F4.out.1.cell 3
    have x0 : v4.cell? ⟨w.heap.size, 0, none⟩ = some (.int .i64 c0) := F4.out.2.1.cell 0
    have x1 : v4.cell? ⟨w.heap.size, 1, none⟩ = some (.int .i64 d0) := F4.out.2.1.cell 1
    have x2 : v4.cell? ⟨w.heap.size, 2, none⟩ = some (.int .i64 t0) := F4.out.2.1.cell 2
    have x3 : v4.cell? ⟨w.heap.size, 3, none⟩ = some (.slice sa n sk) := F4.out.2.1.cell 3
    clear g4 R4
    go_wp2_with fail
    refine (same_any X d0 t0 c0 d0 t0 (.slice sb n kb) (.slice sa n sk) m m v4 F4.out.2.2.2.1 F4.out.2.2.1 (by have := HM.out.2; omega) (by have := HM.out.2; omega)).mono ?_
    rintro e v5 ⟨he, g5⟩
    rw [D2.out] at he
    subst he
    go_wp2_with fail
    go_ret
    exact ⟨ret_bool (by simp), btrans F4.out.2.2.2.2 g5⟩
  by_cases y1 : B = 1
  · subst y1
    obtain ⟨X, hX⟩ : ∃ X, wrap64 (d0 + a2) = X := ⟨_, rfl⟩
    obtain ⟨D, hD⟩ : ∃ D, (a2 == 0) = D := ⟨_, rfl⟩
    have D1 : Hid (decide ((⟨c0, d0, t0, m⟩ : Tsk) = ⟨c0, X, t0, m⟩) = D) := by unfold Hid; rw [Bool.eq_iff_iff, decide_eq_true_eq, ← hD, beq_iff_eq, tsk_eq, ← hX]; unfold wrap64; exact ⟨fun ⟨h1, h2, h3, _⟩ => by omega, fun h => ⟨by omega, by omega, by omega, rfl⟩⟩
    have D2 : Hid (decide ((⟨c0, X, t0, m⟩ : Tsk) = ⟨c0, d0, t0, m⟩) = D) := by unfold Hid; rw [Bool.eq_iff_iff, decide_eq_true_eq, ← hD, beq_iff_eq, tsk_eq, ← hX]; unfold wrap64; exact ⟨fun ⟨h1, h2, h3, _⟩ => by omega, fun h => ⟨by omega, by omega, by omega, rfl⟩⟩
    have R4 : Hid (Blk (v3.alloc (.cells #[.int .i64 c0, .int .i64 X, .int .i64 t0, .slice sb n kb] 27)) v3.heap.size #[.int .i64 c0, .int .i64 X, .int .i64 t0, .slice sb n kb] 27 ∧ Blk (v3.alloc (.cells #[.int .i64 c0, .int .i64 X, .int .i64 t0, .slice sb n kb] 27)) w.heap.size #[.int .i64 c0, .int .i64 d0, .int .i64 t0, .slice sa n sk] 27 ∧ Secs (v3.alloc (.cells #[.int .i64 c0, .int .i64 X, .int .i64 t0, .slice sb n kb] 27)) (.slice sa n sk) m ∧ Secs (v3.alloc (.cells #[.int .i64 c0, .int .i64 X, .int .i64 t0, .slice sb n kb] 27)) (.slice sb n kb) m ∧ Below w.heap.size w (v3.alloc (.cells #[.int .i64 c0, .int .i64 X, .int .i64 t0, .slice sb n kb] 27))) := ⟨heap_alloc_new _ _, E3.out.1.below (balloc _ _), Secs.below (own_secs (base := v1.heap.size) (e := 33) (by rw [← HN.out]; exact E3.out.2.1)) (balloc _ _), Secs.below (own_secs (base := Z.heap.size) (e := 33) (by rw [← HN.out]; exact E3.out.2.2.2.1)) (balloc _ _), btrans E3.out.2.2.1 (balloc _ _)⟩
    go_wp2_with fail
    refine (same_any c0 d0 t0 c0 X t0 (.slice sa n sk) (.slice sb n kb) m m (v3.alloc (.cells #[.int .i64 c0, .int .i64 X, .int .i64 t0, .slice sb n kb] 27)) R4.out.2.2.1 R4.out.2.2.2.1 (by have := HM.out.2; omega) (by have := HM.out.2; omega)).mono ?_
    rintro e v4 ⟨he, g4⟩
    rw [D1.out] at he
    subst he
    have F4 : Hid (Blk v4 v3.heap.size #[.int .i64 c0, .int .i64 X, .int .i64 t0, .slice sb n kb] 27 ∧ Blk v4 w.heap.size #[.int .i64 c0, .int .i64 d0, .int .i64 t0, .slice sa n sk] 27 ∧ Secs v4 (.slice sa n sk) m ∧ Secs v4 (.slice sb n kb) m ∧ Below w.heap.size w v4) := ⟨R4.out.1.below g4, R4.out.2.1.below g4, R4.out.2.2.1.below g4, R4.out.2.2.2.1.below g4, btrans R4.out.2.2.2.2 g4⟩
    have u0 : v4.cell? ⟨v3.heap.size, 0, none⟩ = some (.int .i64 c0) := F4.out.1.cell 0
    have u1 : v4.cell? ⟨v3.heap.size, 1, none⟩ = some (.int .i64 X) := F4.out.1.cell 1
    have u2 : v4.cell? ⟨v3.heap.size, 2, none⟩ = some (.int .i64 t0) := F4.out.1.cell 2
    have u3 : v4.cell? ⟨v3.heap.size, 3, none⟩ = some (.slice sb n kb) := F4.out.1.cell 3
    have x0 : v4.cell? ⟨w.heap.size, 0, none⟩ = some (.int .i64 c0) := F4.out.2.1.cell 0
    have x1 : v4.cell? ⟨w.heap.size, 1, none⟩ = some (.int .i64 d0) := F4.out.2.1.cell 1
    have x2 : v4.cell? ⟨w.heap.size, 2, none⟩ = some (.int .i64 t0) := F4.out.2.1.cell 2
    have x3 : v4.cell? ⟨w.heap.size, 3, none⟩ = some (.slice sa n sk) := F4.out.2.1.cell 3
    clear g4 R4
    go_wp2_with fail
    refine (same_any c0 X t0 c0 d0 t0 (.slice sb n kb) (.slice sa n sk) m m v4 F4.out.2.2.2.1 F4.out.2.2.1 (by have := HM.out.2; omega) (by have := HM.out.2; omega)).mono ?_
    rintro e v5 ⟨he, g5⟩
    rw [D2.out] at he
    subst he
    go_wp2_with fail
    go_ret
    exact ⟨ret_bool (by simp), btrans F4.out.2.2.2.2 g5⟩
  by_cases y2 : B = 2
  · subst y2
    obtain ⟨X, hX⟩ : ∃ X, wrap64 (t0 + a2) = X := ⟨_, rfl⟩
    obtain ⟨D, hD⟩ : ∃ D, (a2 == 0) = D := ⟨_, rfl⟩
    have D1 : Hid (decide ((⟨c0, d0, t0, m⟩ : Tsk) = ⟨c0, d0, X, m⟩) = D) := by unfold Hid; rw [Bool.eq_iff_iff, decide_eq_true_eq, ← hD, beq_iff_eq, tsk_eq, ← hX]; unfold wrap64; exact ⟨fun ⟨h1, h2, h3, _⟩ => by omega, fun h => ⟨by omega, by omega, by omega, rfl⟩⟩
    have D2 : Hid (decide ((⟨c0, d0, X, m⟩ : Tsk) = ⟨c0, d0, t0, m⟩) = D) := by unfold Hid; rw [Bool.eq_iff_iff, decide_eq_true_eq, ← hD, beq_iff_eq, tsk_eq, ← hX]; unfold wrap64; exact ⟨fun ⟨h1, h2, h3, _⟩ => by omega, fun h => ⟨by omega, by omega, by omega, rfl⟩⟩
    have R4 : Hid (Blk (v3.alloc (.cells #[.int .i64 c0, .int .i64 d0, .int .i64 X, .slice sb n kb] 27)) v3.heap.size #[.int .i64 c0, .int .i64 d0, .int .i64 X, .slice sb n kb] 27 ∧ Blk (v3.alloc (.cells #[.int .i64 c0, .int .i64 d0, .int .i64 X, .slice sb n kb] 27)) w.heap.size #[.int .i64 c0, .int .i64 d0, .int .i64 t0, .slice sa n sk] 27 ∧ Secs (v3.alloc (.cells #[.int .i64 c0, .int .i64 d0, .int .i64 X, .slice sb n kb] 27)) (.slice sa n sk) m ∧ Secs (v3.alloc (.cells #[.int .i64 c0, .int .i64 d0, .int .i64 X, .slice sb n kb] 27)) (.slice sb n kb) m ∧ Below w.heap.size w (v3.alloc (.cells #[.int .i64 c0, .int .i64 d0, .int .i64 X, .slice sb n kb] 27))) := ⟨heap_alloc_new _ _, E3.out.1.below (balloc _ _), Secs.below (own_secs (base := v1.heap.size) (e := 33) (by rw [← HN.out]; exact E3.out.2.1)) (balloc _ _), Secs.below (own_secs (base := Z.heap.size) (e := 33) (by rw [← HN.out]; exact E3.out.2.2.2.1)) (balloc _ _), btrans E3.out.2.2.1 (balloc _ _)⟩
    go_wp2_with fail
    refine (same_any c0 d0 t0 c0 d0 X (.slice sa n sk) (.slice sb n kb) m m (v3.alloc (.cells #[.int .i64 c0, .int .i64 d0, .int .i64 X, .slice sb n kb] 27)) R4.out.2.2.1 R4.out.2.2.2.1 (by have := HM.out.2; omega) (by have := HM.out.2; omega)).mono ?_
    rintro e v4 ⟨he, g4⟩
    rw [D1.out] at he
    subst he
    have F4 : Hid (Blk v4 v3.heap.size #[.int .i64 c0, .int .i64 d0, .int .i64 X, .slice sb n kb] 27 ∧ Blk v4 w.heap.size #[.int .i64 c0, .int .i64 d0, .int .i64 t0, .slice sa n sk] 27 ∧ Secs v4 (.slice sa n sk) m ∧ Secs v4 (.slice sb n kb) m ∧ Below w.heap.size w v4) := ⟨R4.out.1.below g4, R4.out.2.1.below g4, R4.out.2.2.1.below g4, R4.out.2.2.2.1.below g4, btrans R4.out.2.2.2.2 g4⟩
    have u0 : v4.cell? ⟨v3.heap.size, 0, none⟩ = some (.int .i64 c0) := F4.out.1.cell 0
    have u1 : v4.cell? ⟨v3.heap.size, 1, none⟩ = some (.int .i64 d0) := F4.out.1.cell 1
    have u2 : v4.cell? ⟨v3.heap.size, 2, none⟩ = some (.int .i64 X) := F4.out.1.cell 2
    have u3 : v4.cell? ⟨v3.heap.size, 3, none⟩ = some (.slice sb n kb) := F4.out.1.cell 3
    have x0 : v4.cell? ⟨w.heap.size, 0, none⟩ = some (.int .i64 c0) := F4.out.2.1.cell 0
    have x1 : v4.cell? ⟨w.heap.size, 1, none⟩ = some (.int .i64 d0) := F4.out.2.1.cell 1
    have x2 : v4.cell? ⟨w.heap.size, 2, none⟩ = some (.int .i64 t0) := F4.out.2.1.cell 2
    have x3 : v4.cell? ⟨w.heap.size, 3, none⟩ = some (.slice sa n sk) := F4.out.2.1.cell 3
    clear g4 R4
    go_wp2_with fail
    refine (same_any c0 d0 X c0 d0 t0 (.slice sb n kb) (.slice sa n sk) m m v4 F4.out.2.2.2.1 F4.out.2.2.1 (by have := HM.out.2; omega) (by have := HM.out.2; omega)).mono ?_
    rintro e v5 ⟨he, g5⟩
    rw [D2.out] at he
    subst he
    go_wp2_with fail
    go_ret
    exact ⟨ret_bool (by simp), btrans F4.out.2.2.2.2 g5⟩
  have CT : Hid (∀ j q, ([.int .i64 0, .int .i64 a2, .int .i64 0] : List Value)[j]? = some q → ((v3.alloc (.cells #[.int .i64 c0, .int .i64 d0, .int .i64 t0, .slice sb n kb] 27)).alloc (.cells #[.int .i64 0, .int .i64 a2, .int .i64 0] 33)).cell? ((⟨v3.heap.size + 1, 0, none⟩ : Addr).add j) = some q) := by intro j q hj; have := cell_three (v3.alloc (.cells #[.int .i64 c0, .int .i64 d0, .int .i64 t0, .slice sb n kb] 27)) _ _ _ 33 j q hj; simpa using this
  go_wp2_with (at_builtin; refine wpList_append_own_at _ rfl (.tmp 19) (.tmp 22) 25 rfl Z.heap.size 33 i0 (.agg #[.int .i64 0, .int .i64 0, .int .i64 0]) 3 24 Tryd.underlying25 hi0 hz0 hz1 hz2 rfl (by decide) _ _ _ rfl ((E3.out.2.2.2.1.alloc _).alloc _) ⟨v3.heap.size + 1, 0, none⟩ 1 1 [.int .i64 0, .int .i64 a2, .int .i64 0] rfl rfl CT.out (by intro u hu; simp at hu; rcases hu with rfl | rfl | rfl <;> rfl) (by unfold maxLen; omega) (by omega) (by simp; omega) ?_; intro v7 w7 own7 grow7 nil7 at7; obtain ⟨s7, k7, e7⟩ := own_form own7; subst e7; have L7 : Hid (Blk w7 v3.heap.size #[.int .i64 c0, .int .i64 d0, .int .i64 t0, .slice sb n kb] 27 ∧ Blk w7 w.heap.size #[.int .i64 c0, .int .i64 d0, .int .i64 t0, .slice sa n sk] 27 ∧ w7.ownsRow v1.heap.size 33 3 (.slice sa n sk) n (secC m) ∧ w7.ownsRow Z.heap.size 33 3 (.slice s7 (n + 1) k7) (n + 1) (secC m ++ [.int .i64 0, .int .i64 a2, .int .i64 0]) ∧ Below w.heap.size w w7 ∧ ∀ k, (Value.slice s7 (n + 1) k7).ownBlock = some k → k ≠ v3.heap.size) := ⟨gnew grow7 (fun h => by have := (E3.out.2.2.2.1.lt _ h).2; omega), gkeep grow7 E3.out.1 (fun h => by have := (E3.out.2.2.2.1.lt _ h).1; omega), own_keep grow7 E3.out.2.1 (fun k hk h => by have := (E3.out.2.2.2.1.lt _ h).1; have := E3.out.2.2.2.2 k hk; omega), own7, E3.out.2.2.1.trans (gbelow grow7 (by omega) (fun k h => by have := (E3.out.2.2.2.1.lt _ h).1; omega)), fun k hk => at7.elim (fun h => by rw [h] at hk; have := (E3.out.2.2.2.1.lt _ hk).2; omega) (fun h => by rw [h] at hk; simp at hk; omega)⟩; have u0 : w7.cell? ⟨v3.heap.size, 0, none⟩ = some (.int .i64 c0) := L7.out.1.cell 0; have h0 := L7.out.1.frozen 0; have x0 : w7.cell? ⟨w.heap.size, 0, none⟩ = some (.int .i64 c0) := L7.out.2.1.cell 0; have u1 : w7.cell? ⟨v3.heap.size, 1, none⟩ = some (.int .i64 d0) := L7.out.1.cell 1; have h1 := L7.out.1.frozen 1; have x1 : w7.cell? ⟨w.heap.size, 1, none⟩ = some (.int .i64 d0) := L7.out.2.1.cell 1; have u2 : w7.cell? ⟨v3.heap.size, 2, none⟩ = some (.int .i64 t0) := L7.out.1.cell 2; have h2 := L7.out.1.frozen 2; have x2 : w7.cell? ⟨w.heap.size, 2, none⟩ = some (.int .i64 t0) := L7.out.2.1.cell 2; have u3 : w7.cell? ⟨v3.heap.size, 3, none⟩ = some (.slice sb n kb) := L7.out.1.cell 3; have h3 := L7.out.1.frozen 3; have x3 : w7.cell? ⟨w.heap.size, 3, none⟩ = some (.slice sa n sk) := L7.out.2.1.cell 3; clear own7 grow7 nil7 at7 q0 q1 q2 q3 CT)
  obtain ⟨r8, o8⟩ := L7.out.1.set 3 (.slice s7 (n + 1) k7)
  have L8 : Hid (Blk (w7.setCell ⟨v3.heap.size, 3, none⟩ (.slice s7 (n + 1) k7)) v3.heap.size #[.int .i64 c0, .int .i64 d0, .int .i64 t0, .slice s7 (n + 1) k7] 27 ∧ Blk (w7.setCell ⟨v3.heap.size, 3, none⟩ (.slice s7 (n + 1) k7)) w.heap.size #[.int .i64 c0, .int .i64 d0, .int .i64 t0, .slice sa n sk] 27 ∧ Secs (w7.setCell ⟨v3.heap.size, 3, none⟩ (.slice s7 (n + 1) k7)) (.slice sa n sk) m ∧ Secs (w7.setCell ⟨v3.heap.size, 3, none⟩ (.slice s7 (n + 1) k7)) (.slice s7 (n + 1) k7) (m ++ [⟨0, a2, 0⟩]) ∧ Below w.heap.size w (w7.setCell ⟨v3.heap.size, 3, none⟩ (.slice s7 (n + 1) k7))) := ⟨r8, L7.out.2.1.only o8 (by simp; omega), own_secs (base := v1.heap.size) (e := 33) (by rw [← HN.out]; exact own_off L7.out.2.2.1 o8 (fun k hk => by have := E3.out.2.2.2.2 k hk; simp; omega)), own_secs (base := Z.heap.size) (e := 33) (by rw [List.length_append, List.length_singleton, ← HN.out, secC_snoc]; exact own_off L7.out.2.2.2.1 o8 (fun k hk => by have := L7.out.2.2.2.2.2 k hk; simpa using this)), L7.out.2.2.2.2.1.trans (o8.belowOf (by have := L7.out.1.lt; omega) (by simp; omega))⟩
  have D1 : Hid (decide ((⟨c0, d0, t0, m⟩ : Tsk) = ⟨c0, d0, t0, (m ++ [⟨0, a2, 0⟩])⟩) = false) := by unfold Hid; rw [decide_eq_false_iff_not, tsk_eq]; rintro ⟨-, -, -, h⟩; have := congrArg List.length h; simp at this
  have D2 : Hid (decide ((⟨c0, d0, t0, (m ++ [⟨0, a2, 0⟩])⟩ : Tsk) = ⟨c0, d0, t0, m⟩) = false) := by unfold Hid; rw [decide_eq_false_iff_not, tsk_eq]; rintro ⟨-, -, -, h⟩; have := congrArg List.length h; simp at this
  have D3 : Hid (decide ((⟨c0, d0, t0, (m ++ [⟨0, a2, 0⟩])⟩ : Tsk) = ⟨c0, d0, t0, (m ++ [⟨0, a2, 0⟩])⟩) = true) := decide_eq_true rfl
  have M8 : Hid ((m ++ [(⟨0, a2, 0⟩ : Sec)]).length ≤ 1000000) := by unfold Hid; rw [List.length_append, List.length_singleton]; have := HM.out.2; omega
  clear r8 o8 L7
  refine (same_any c0 d0 t0 c0 d0 t0 (.slice sa n sk) (.slice s7 (n + 1) k7) m (m ++ [⟨0, a2, 0⟩]) (w7.setCell ⟨v3.heap.size, 3, none⟩ (.slice s7 (n + 1) k7)) L8.out.2.2.1 L8.out.2.2.2.1 (by have := HM.out.2; omega) M8.out).mono ?_
  rintro e v9 ⟨he, g9⟩
  rw [D1.out] at he
  subst he
  have L9 : Hid (Blk v9 v3.heap.size #[.int .i64 c0, .int .i64 d0, .int .i64 t0, .slice s7 (n + 1) k7] 27 ∧ Blk v9 w.heap.size #[.int .i64 c0, .int .i64 d0, .int .i64 t0, .slice sa n sk] 27 ∧ Secs v9 (.slice sa n sk) m ∧ Secs v9 (.slice s7 (n + 1) k7) (m ++ [⟨0, a2, 0⟩]) ∧ Below w.heap.size w v9) := ⟨L8.out.1.below g9, L8.out.2.1.below g9, L8.out.2.2.1.below g9, L8.out.2.2.2.1.below g9, btrans L8.out.2.2.2.2 g9⟩
  have u0 : v9.cell? ⟨v3.heap.size, 0, none⟩ = some (.int .i64 c0) := L9.out.1.cell 0
  have x0 : v9.cell? ⟨w.heap.size, 0, none⟩ = some (.int .i64 c0) := L9.out.2.1.cell 0
  have u1 : v9.cell? ⟨v3.heap.size, 1, none⟩ = some (.int .i64 d0) := L9.out.1.cell 1
  have x1 : v9.cell? ⟨w.heap.size, 1, none⟩ = some (.int .i64 d0) := L9.out.2.1.cell 1
  have u2 : v9.cell? ⟨v3.heap.size, 2, none⟩ = some (.int .i64 t0) := L9.out.1.cell 2
  have x2 : v9.cell? ⟨w.heap.size, 2, none⟩ = some (.int .i64 t0) := L9.out.2.1.cell 2
  have u3 : v9.cell? ⟨v3.heap.size, 3, none⟩ = some (.slice s7 (n + 1) k7) := L9.out.1.cell 3
  have x3 : v9.cell? ⟨w.heap.size, 3, none⟩ = some (.slice sa n sk) := L9.out.2.1.cell 3
  clear g9 L8
  go_wp2_with fail
  refine (same_any c0 d0 t0 c0 d0 t0 (.slice s7 (n + 1) k7) (.slice sa n sk) (m ++ [⟨0, a2, 0⟩]) m v9 L9.out.2.2.2.1 L9.out.2.2.1 M8.out (by have := HM.out.2; omega)).mono ?_
  rintro e v10 ⟨he, g10⟩
  rw [D2.out] at he
  subst he
  have L10 : Hid (Blk v10 v3.heap.size #[.int .i64 c0, .int .i64 d0, .int .i64 t0, .slice s7 (n + 1) k7] 27 ∧ Blk v10 w.heap.size #[.int .i64 c0, .int .i64 d0, .int .i64 t0, .slice sa n sk] 27 ∧ Secs v10 (.slice sa n sk) m ∧ Secs v10 (.slice s7 (n + 1) k7) (m ++ [⟨0, a2, 0⟩]) ∧ Below w.heap.size w v10) := ⟨L9.out.1.below g10, L9.out.2.1.below g10, L9.out.2.2.1.below g10, L9.out.2.2.2.1.below g10, btrans L9.out.2.2.2.2 g10⟩
  have u0 : v10.cell? ⟨v3.heap.size, 0, none⟩ = some (.int .i64 c0) := L10.out.1.cell 0
  have x0 : v10.cell? ⟨w.heap.size, 0, none⟩ = some (.int .i64 c0) := L10.out.2.1.cell 0
  have u1 : v10.cell? ⟨v3.heap.size, 1, none⟩ = some (.int .i64 d0) := L10.out.1.cell 1
  have x1 : v10.cell? ⟨w.heap.size, 1, none⟩ = some (.int .i64 d0) := L10.out.2.1.cell 1
  have u2 : v10.cell? ⟨v3.heap.size, 2, none⟩ = some (.int .i64 t0) := L10.out.1.cell 2
  have x2 : v10.cell? ⟨w.heap.size, 2, none⟩ = some (.int .i64 t0) := L10.out.2.1.cell 2
  have u3 : v10.cell? ⟨v3.heap.size, 3, none⟩ = some (.slice s7 (n + 1) k7) := L10.out.1.cell 3
  have x3 : v10.cell? ⟨w.heap.size, 3, none⟩ = some (.slice sa n sk) := L10.out.2.1.cell 3
  clear g10 L9
  go_wp2_with fail
  refine (same_any c0 d0 t0 c0 d0 t0 (.slice s7 (n + 1) k7) (.slice s7 (n + 1) k7) (m ++ [⟨0, a2, 0⟩]) (m ++ [⟨0, a2, 0⟩]) v10 L10.out.2.2.2.1 L10.out.2.2.2.1 M8.out M8.out).mono ?_
  rintro e v11 ⟨he, g11⟩
  obtain rfl : e = .returned (.bool true) := he.trans (by simp)
  go_wp2_with fail
  go_ret
  exact ⟨ret_bool (by simp), btrans L10.out.2.2.2.2 g11⟩

set_option maxRecDepth 100000 in
theorem lifted (os : Os) (started : os.Started) (H : Type) (enc : TypeId × Value → H) :
    ReturnsInHanded {} Tryd.checked os 7 .any (fun w args => (Rows.ruleSameSpec.pre enc Tryd.prog Tryd.f7 [] false w args ∧ laidMetH Tryd.prog laid5 w) ∧ sizedMet enc Tryd.prog Tryd.f7 (OpenSpec.ofChange Rows.ruleSameSpec) false w args)
      (Rows.ruleSameSpec.post enc Tryd.prog Tryd.f7 false true false false) := by
  refine returnsInHanded_of_change_and (C := Tryd.checked) (X := fun w _ => laidMetH Tryd.prog laid5 w) (fun _ _ _ hh h => h.of_heap hh) own started (by kernel_rfl) Tryd.func7
    (ChangeSpec.witness_shaped (enc := enc) (C := Tryd.checked) (os := os) (X := fun w _ => laidMetH Tryd.prog laid5 w) false (World.doorLaid Tryd.prog 62 os) #[.agg #[.int .i64 0, .int .i64 0, .int .i64 0, .slice none 0 0], .int .i64 0, .int .i64 0] 8 rfl (World.shaped_of_RefB (by kernel_rfl) (by kernel_rfl)) (by kernel_rfl) (by kernel_rfl) (by kernel_rfl) (door_met os _)) ?_
  intro W base args ds gs before hval0 hW _ _ hL _
  have hval : ∀ (j : Nat) t v, Tryd.f7.params[j]? = some t → args[j]? = some v → Value.okWide Tryd.prog W .any base t v := hval0
  have hW' := hW
  obtain ⟨p, q, hA0, hV, rfl, hfz, hnd⟩ := hW
  have hA : DataW.TrodAll enc Tryd.prog W 0 (fun _ => true) true Tryd.f7.params.toList args.toList ds p := hA0
  rw [Tryd.params7] at hA hval
  obtain ⟨v0, vs0, d0, ds0, p0, q0, hargs, rfl, rfl, h0, r0⟩ := trodAll_cons hA
  obtain ⟨v1, vs1, d1, ds1, p1, q1, rfl, rfl, rfl, h1, r1⟩ := trodAll_cons r0
  obtain ⟨v2, vs2, d2, ds2, p2, q2, rfl, rfl, rfl, h2, r2⟩ := trodAll_cons r1
  obtain ⟨rfl, rfl, rfl⟩ := trodAll_nil r2
  obtain rfl : args = #[v0, v1, v2] := by cases args; simp_all
  obtain ⟨rfl, rfl⟩ := trodVars_none hV
  have k0 := h0
  have lt0 : ∀ x ∈ p0, x.block < W.heap.size := by obtain ⟨m, hm⟩ := k0; exact DataW.trod_lt m _ _ _ hm
  obtain ⟨c0, d0, t0, s0, n0, m0, z0, rfl, w0, x00, x01, x02⟩ := open_task (hval 0 27 v0 rfl rfl) h0
  obtain ⟨a1, rfl, rfl, rfl, w1⟩ := open_int Tryd.underlying3 (hval 1 3 v1 rfl rfl) h1
  obtain ⟨a2, rfl, rfl, rfl, w2⟩ := open_int Tryd.underlying2 (hval 2 2 v2 rfl rfl) h2
  clear hA0 hval0
  simp only [List.append_nil] at hW'
  refine (walk c0 d0 t0 s0 n0 m0 z0 a1 a2 W (env_of_laid hL) w0 x00 x01 x02 w1 w2).mono fun e W' ⟨he, bel⟩ => ?_
  subst he
  exact ⟨_, rfl, _, _, _, [], _, [], hW', trodAll_mk1 (shut_bool Tryd.underlying4 _), (trodAll_cons_mk (Below.trod laidOut (by kernel_rfl) (of_decide_eq_true (by kernel_rfl)) k0 bel lt0) (trodAll_cons_mk (shut_int Tryd.underlying3 w1) (trodAll_cons_mk (shut_int Tryd.underlying2 w2) trodAll_mk0))), rfl, bel.frame _, fun h => by cases h⟩

theorem over : Rows.ruleSameRow.holds Tryd.pinned (OpenSpec.ofChange Rows.ruleSameSpec) :=
  OpenClaim.holds_of_wide 7 Tryd.f7 rfl rfl rfl rfl rfl rfl rfl ⟨rfl, rfl, rfl, rfl, rfl⟩ rfl rfl rfl rfl rfl (by kernel_rfl) Tryd.func7 (by kernel_rfl)
    (of_decide_eq_true (by kernel_rfl)) (by unfold Func.isWrapper; first | (rw [if_pos (by decide +kernel)]; kernel_rfl) | (rw [if_neg (by decide +kernel)]; exact ⟨rfl, rfl⟩))
    (fun os started H enc _ => lifted os started H enc)

theorem proved : Rows.RuleSameCardSaid :=
  Claim7.holds_tied_plain_at .later [] [.data, .data, .data, .sentinel, .sentinel] true (true, "1a6d372db0b00892c861878746c9b402df8e3ee8bbf8bfc1e42d205f4486eca9") true
    over (fun _ h => by cases h) (by kernel_rfl) (fun _ h => by cases h) ruleSame_row_tie rfl ⟨rfl, rfl⟩ (by kernel_rfl) rfl
    (fun f fn hf hfn => by
      obtain rfl : f = 7 := Option.some.inj ((show Tryd.prog.funcNamed "hortator/hortatorlaw7.RuleSame" = some 7 by kernel_rfl).symm.trans hf) |>.symm
      obtain rfl : fn = Tryd.f7 := (Option.some.inj (Tryd.func7.symm.trans hfn)).symm
      exact ⟨by kernel_rfl, fun j t ht => by
        rw [Tryd.params7] at ht
        match j, ht with
        | 0, ht => obtain rfl : t = 27 := by simpa using ht.symm
                   exact (show Tryd.prog.wantsStandIn 27 = false by kernel_rfl)
        | 1, ht => obtain rfl : t = 3 := by simpa using ht.symm
                   exact (show Tryd.prog.wantsStandIn 3 = false by kernel_rfl)
        | 2, ht => obtain rfl : t = 2 := by simpa using ht.symm
                   exact (show Tryd.prog.wantsStandIn 2 = false by kernel_rfl)
        | (_ + 3), ht => simp at ht⟩)
    (by kernel_rfl)
end Go.Proofs.YtfhhpmnohbmnoaaDoor.ruleSame
