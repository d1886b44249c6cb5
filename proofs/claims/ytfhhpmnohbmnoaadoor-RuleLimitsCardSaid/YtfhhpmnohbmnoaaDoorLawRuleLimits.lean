/-
PROVED: the statement hortatorlaw7.RuleLimits answers true over the landed packages: a configuration one step inside or outside each limit may be or may not, and is written or not.
  CONDITIONS: the listed variables of strconv and math/bits hold what the program's text lays (the card ties them).
-/
import Derived.Test.YtfhhpmnohbmnoaaDoorRows
import Derived.Test.YtfhhpmnohbmnoaaDoorTie
import Derived.Test.YtfhhpmnohbmnoaaDoorCards
import Derived.WalkKit
import Derived.ProofKit
import Derived.OpenShut
import Derived.ShutString
import Derived.ChangeOld
import Derived.Below
import Derived.SevenTiedAt
import Derived.Test.YtfhhpmnohbmnoaaDoorLaid
import Derived.Carry
import Derived.Test.YtfhhpmnohbmnoaaDoorCopy
import Derived.Test.YtfhhpmnohbmnoaaDoorKeep
import Derived.Test.YtfhhpmnohbmnoaaDoorLim
namespace Go.Proofs.YtfhhpmnohbmnoaaDoor.ruleLimits
open Go.ChangeShapes Go.WideShapes Go.ChangeAt Go.RowKit
open Go.ChangeMaps (open_string shut_string)
set_option linter.unusedVariables false

theorem own : ownKnob Tryd.prog.godebug = none := by kernel_rfl
theorem laidOut : laidOutB Tryd.prog = true := by kernel_rfl

set_option maxHeartbeats 8000000 in
set_option maxRecDepth 100000 in
theorem walk (a0 : Int) (a1 : Int) (w : World) (hE : Env w) (w0 : (Lit.int .i64 a0).wf = true) (w1 : (Lit.int .i64 a1).wf = true) :
    Calls Tryd.prog 4 #[.int .i64 a0, .int .i64 a1] w fun e w' => e = .returned (.bool true) ∧ Below w.heap.size w w' := by
  obtain ⟨b1, b2⟩ := bounds_i64 w1
  have HE : Hid (Env w) := hE
  clear hE
  obtain ⟨y, hy, hy1, hy2⟩ : ∃ y, Int.tmod a1 4 = y ∧ -3 ≤ y ∧ y ≤ 3 := ⟨_, rfl, by have := T.t_lt a1 4 (by omega); omega, by have := T.t_lt a1 4 (by omega); omega⟩
  have YY : Hid (y = -3 ∨ y = -2 ∨ y = -1 ∨ y = 0 ∨ y = 1 ∨ y = 2 ∨ y = 3) := by unfold Hid; omega
  obtain ⟨G, hG⟩ : ∃ G, bits .and .i64 a0 8 = G := ⟨_, rfl⟩
  obtain ⟨B, hB⟩ : ∃ B, bits .and .i64 a0 7 = B := ⟨_, rfl⟩
  obtain ⟨i0, hi0, hz0, hz1, hz2⟩ := info_parts infoI
  have e6 : wrap64 (6 + y) = 6 + y := by unfold wrap64; omega
  have e3 : wrap64 (3 + y) = 3 + y := by unfold wrap64; omega
  have e5 : wrap64 (5 + y) = 5 + y := by unfold wrap64; omega
  have e1 : wrap64 (1 + y) = 1 + y := by unfold wrap64; omega
  have e0 : wrap64 y = y := by unfold wrap64; omega
  go_enter Tryd.func4, Tryd.ntmps4
  go_wp2_with fail
  refine (begun7_any w HE.out).mono ?_
  rintro e v1 ⟨rfl, g1⟩
  have G1 : Hid (Below w.heap.size w v1) := g1
  have s1 : w.heap.size ≤ v1.heap.size := g1.size
  clear g1 HE
  by_cases yg : G = 0
  · subst yg
    by_cases y0 : B = 0
    · subst y0
      by_cases c : y ≤ 0
      · have f1 : 1 ≤ 6 + y := by omega
        have f2 : 6 + y ≤ 6 := by omega
        have CB : Hid (cfgB ⟨6 + y, 3, 5, 5, sixL⟩ = true) := by unfold Hid; rcases YY.out with rfl | rfl | rfl | rfl | rfl | rfl | rfl <;> first | rfl | (exfalso; omega)
        have K : Hid (Blk ((v1.alloc (.cells #[.int .i64 0, .int .i64 1, .int .i64 2, .int .i64 0, .int .i64 1, .int .i64 2] 3)).alloc (.cells #[.int .i64 (6 + y), .int .i64 (3), .int .i64 (5), .int .i64 (5), .slice (some ⟨v1.heap.size, 0, none⟩) 6 6] 24)) (v1.heap.size + 1) #[.int .i64 (6 + y), .int .i64 (3), .int .i64 (5), .int .i64 (5), .slice (some ⟨v1.heap.size, 0, none⟩) 6 6] 24 ∧ Ints ((v1.alloc (.cells #[.int .i64 0, .int .i64 1, .int .i64 2, .int .i64 0, .int .i64 1, .int .i64 2] 3)).alloc (.cells #[.int .i64 (6 + y), .int .i64 (3), .int .i64 (5), .int .i64 (5), .slice (some ⟨v1.heap.size, 0, none⟩) 6 6] 24)) (.slice (some ⟨v1.heap.size, 0, none⟩) 6 6) sixL ∧ Below w.heap.size w ((v1.alloc (.cells #[.int .i64 0, .int .i64 1, .int .i64 2, .int .i64 0, .int .i64 1, .int .i64 2] 3)).alloc (.cells #[.int .i64 (6 + y), .int .i64 (3), .int .i64 (5), .int .i64 (5), .slice (some ⟨v1.heap.size, 0, none⟩) 6 6] 24))) := ⟨blk_two _ _ _ _, ints_six _ _ _, btrans G1.out (btrans (balloc _ _) (balloc _ _))⟩
        go_wp2_with fail
        refine (rconfig_any (6 + y) (3) (5) (5) (.slice (some ⟨v1.heap.size, 0, none⟩) 6 6) sixL ((v1.alloc (.cells #[.int .i64 0, .int .i64 1, .int .i64 2, .int .i64 0, .int .i64 1, .int .i64 2] 3)).alloc (.cells #[.int .i64 (6 + y), .int .i64 (3), .int .i64 (5), .int .i64 (5), .slice (some ⟨v1.heap.size, 0, none⟩) 6 6] 24)) K.out.2.1 (by decide)).mono ?_
        rintro e v2 ⟨he, g2⟩
        rw [CB.out] at he
        subst he
        have K2 : Hid (Blk v2 (v1.heap.size + 1) #[.int .i64 (6 + y), .int .i64 (3), .int .i64 (5), .int .i64 (5), .slice (some ⟨v1.heap.size, 0, none⟩) 6 6] 24 ∧ Ints v2 (.slice (some ⟨v1.heap.size, 0, none⟩) 6 6) sixL ∧ Below w.heap.size w v2) := ⟨K.out.1.below g2, K.out.2.1.below g2, btrans K.out.2.2 g2⟩
        have u0 : v2.cell? ⟨v1.heap.size + 1, 0, none⟩ = some (.int .i64 (6 + y)) := K2.out.1.cell 0
        have u1 : v2.cell? ⟨v1.heap.size + 1, 1, none⟩ = some (.int .i64 (3)) := K2.out.1.cell 1
        have u2 : v2.cell? ⟨v1.heap.size + 1, 2, none⟩ = some (.int .i64 (5)) := K2.out.1.cell 2
        have u3 : v2.cell? ⟨v1.heap.size + 1, 3, none⟩ = some (.int .i64 (5)) := K2.out.1.cell 3
        have u4 : v2.cell? ⟨v1.heap.size + 1, 4, none⟩ = some (.slice (some ⟨v1.heap.size, 0, none⟩) 6 6) := K2.out.1.cell 4
        clear g2 K
        go_wp2_with fail
        refine (putCfg_any (6 + y) (3) (5) (5) (.slice (some ⟨v1.heap.size, 0, none⟩) 6 6) sixL v2 K2.out.2.1 (by decide)).mono ?_
        rintro e v3 ⟨t, rfl, ht, g3⟩
        have hn := put_yes ht CB.out
        clear ht
        go_wp2_with fail
        go_ret
        exact ⟨ret_bool (by simpa using put_yes2 hn), btrans K2.out.2.2 g3⟩
      · have f1 : 1 ≤ 6 + y := by omega
        have f2 : ¬ 6 + y ≤ 6 := by omega
        have CB : Hid (cfgB ⟨6 + y, 3, 5, 5, sixL⟩ = false) := by unfold Hid; rcases YY.out with rfl | rfl | rfl | rfl | rfl | rfl | rfl <;> first | rfl | (exfalso; omega)
        have K : Hid (Blk ((v1.alloc (.cells #[.int .i64 0, .int .i64 1, .int .i64 2, .int .i64 0, .int .i64 1, .int .i64 2] 3)).alloc (.cells #[.int .i64 (6 + y), .int .i64 (3), .int .i64 (5), .int .i64 (5), .slice (some ⟨v1.heap.size, 0, none⟩) 6 6] 24)) (v1.heap.size + 1) #[.int .i64 (6 + y), .int .i64 (3), .int .i64 (5), .int .i64 (5), .slice (some ⟨v1.heap.size, 0, none⟩) 6 6] 24 ∧ Ints ((v1.alloc (.cells #[.int .i64 0, .int .i64 1, .int .i64 2, .int .i64 0, .int .i64 1, .int .i64 2] 3)).alloc (.cells #[.int .i64 (6 + y), .int .i64 (3), .int .i64 (5), .int .i64 (5), .slice (some ⟨v1.heap.size, 0, none⟩) 6 6] 24)) (.slice (some ⟨v1.heap.size, 0, none⟩) 6 6) sixL ∧ Below w.heap.size w ((v1.alloc (.cells #[.int .i64 0, .int .i64 1, .int .i64 2, .int .i64 0, .int .i64 1, .int .i64 2] 3)).alloc (.cells #[.int .i64 (6 + y), .int .i64 (3), .int .i64 (5), .int .i64 (5), .slice (some ⟨v1.heap.size, 0, none⟩) 6 6] 24))) := ⟨blk_two _ _ _ _, ints_six _ _ _, btrans G1.out (btrans (balloc _ _) (balloc _ _))⟩
        go_wp2_with fail
        refine (rconfig_any (6 + y) (3) (5) (5) (.slice (some ⟨v1.heap.size, 0, none⟩) 6 6) sixL ((v1.alloc (.cells #[.int .i64 0, .int .i64 1, .int .i64 2, .int .i64 0, .int .i64 1, .int .i64 2] 3)).alloc (.cells #[.int .i64 (6 + y), .int .i64 (3), .int .i64 (5), .int .i64 (5), .slice (some ⟨v1.heap.size, 0, none⟩) 6 6] 24)) K.out.2.1 (by decide)).mono ?_
        rintro e v2 ⟨he, g2⟩
        rw [CB.out] at he
        subst he
        have K2 : Hid (Blk v2 (v1.heap.size + 1) #[.int .i64 (6 + y), .int .i64 (3), .int .i64 (5), .int .i64 (5), .slice (some ⟨v1.heap.size, 0, none⟩) 6 6] 24 ∧ Ints v2 (.slice (some ⟨v1.heap.size, 0, none⟩) 6 6) sixL ∧ Below w.heap.size w v2) := ⟨K.out.1.below g2, K.out.2.1.below g2, btrans K.out.2.2 g2⟩
        have u0 : v2.cell? ⟨v1.heap.size + 1, 0, none⟩ = some (.int .i64 (6 + y)) := K2.out.1.cell 0
        have u1 : v2.cell? ⟨v1.heap.size + 1, 1, none⟩ = some (.int .i64 (3)) := K2.out.1.cell 1
        have u2 : v2.cell? ⟨v1.heap.size + 1, 2, none⟩ = some (.int .i64 (5)) := K2.out.1.cell 2
        have u3 : v2.cell? ⟨v1.heap.size + 1, 3, none⟩ = some (.int .i64 (5)) := K2.out.1.cell 3
        have u4 : v2.cell? ⟨v1.heap.size + 1, 4, none⟩ = some (.slice (some ⟨v1.heap.size, 0, none⟩) 6 6) := K2.out.1.cell 4
        clear g2 K
        go_wp2_with fail
        refine (putCfg_any (6 + y) (3) (5) (5) (.slice (some ⟨v1.heap.size, 0, none⟩) 6 6) sixL v2 K2.out.2.1 (by decide)).mono ?_
        rintro e v3 ⟨t, rfl, ht, g3⟩
        obtain rfl := put_no ht CB.out
        clear ht
        go_wp2_with fail
        go_ret
        exact ⟨ret_bool (by first | (simp; done) | (simp; omega)), btrans K2.out.2.2 g3⟩
    by_cases y1 : B = 1
    · subst y1
      by_cases c : y ≤ 0
      · by_cases c2 : 0 ≤ y
        · have f1 : 0 ≤ 3 + y := by omega
          have f2 : 3 + y ≤ 3 := by omega
          have f3 : 3 ≤ 3 + y := by omega
          have CB : Hid (cfgB ⟨6, 3 + y, 5, 5, sixL⟩ = true) := by unfold Hid; rcases YY.out with rfl | rfl | rfl | rfl | rfl | rfl | rfl <;> first | rfl | (exfalso; omega)
          have K : Hid (Blk ((v1.alloc (.cells #[.int .i64 0, .int .i64 1, .int .i64 2, .int .i64 0, .int .i64 1, .int .i64 2] 3)).alloc (.cells #[.int .i64 (6), .int .i64 (3 + y), .int .i64 (5), .int .i64 (5), .slice (some ⟨v1.heap.size, 0, none⟩) 6 6] 24)) (v1.heap.size + 1) #[.int .i64 (6), .int .i64 (3 + y), .int .i64 (5), .int .i64 (5), .slice (some ⟨v1.heap.size, 0, none⟩) 6 6] 24 ∧ Ints ((v1.alloc (.cells #[.int .i64 0, .int .i64 1, .int .i64 2, .int .i64 0, .int .i64 1, .int .i64 2] 3)).alloc (.cells #[.int .i64 (6), .int .i64 (3 + y), .int .i64 (5), .int .i64 (5), .slice (some ⟨v1.heap.size, 0, none⟩) 6 6] 24)) (.slice (some ⟨v1.heap.size, 0, none⟩) 6 6) sixL ∧ Below w.heap.size w ((v1.alloc (.cells #[.int .i64 0, .int .i64 1, .int .i64 2, .int .i64 0, .int .i64 1, .int .i64 2] 3)).alloc (.cells #[.int .i64 (6), .int .i64 (3 + y), .int .i64 (5), .int .i64 (5), .slice (some ⟨v1.heap.size, 0, none⟩) 6 6] 24))) := ⟨blk_two _ _ _ _, ints_six _ _ _, btrans G1.out (btrans (balloc _ _) (balloc _ _))⟩
          go_wp2_with fail
          refine (rconfig_any (6) (3 + y) (5) (5) (.slice (some ⟨v1.heap.size, 0, none⟩) 6 6) sixL ((v1.alloc (.cells #[.int .i64 0, .int .i64 1, .int .i64 2, .int .i64 0, .int .i64 1, .int .i64 2] 3)).alloc (.cells #[.int .i64 (6), .int .i64 (3 + y), .int .i64 (5), .int .i64 (5), .slice (some ⟨v1.heap.size, 0, none⟩) 6 6] 24)) K.out.2.1 (by decide)).mono ?_
          rintro e v2 ⟨he, g2⟩
          rw [CB.out] at he
          subst he
          have K2 : Hid (Blk v2 (v1.heap.size + 1) #[.int .i64 (6), .int .i64 (3 + y), .int .i64 (5), .int .i64 (5), .slice (some ⟨v1.heap.size, 0, none⟩) 6 6] 24 ∧ Ints v2 (.slice (some ⟨v1.heap.size, 0, none⟩) 6 6) sixL ∧ Below w.heap.size w v2) := ⟨K.out.1.below g2, K.out.2.1.below g2, btrans K.out.2.2 g2⟩
          have u0 : v2.cell? ⟨v1.heap.size + 1, 0, none⟩ = some (.int .i64 (6)) := K2.out.1.cell 0
          have u1 : v2.cell? ⟨v1.heap.size + 1, 1, none⟩ = some (.int .i64 (3 + y)) := K2.out.1.cell 1
          have u2 : v2.cell? ⟨v1.heap.size + 1, 2, none⟩ = some (.int .i64 (5)) := K2.out.1.cell 2
          have u3 : v2.cell? ⟨v1.heap.size + 1, 3, none⟩ = some (.int .i64 (5)) := K2.out.1.cell 3
          have u4 : v2.cell? ⟨v1.heap.size + 1, 4, none⟩ = some (.slice (some ⟨v1.heap.size, 0, none⟩) 6 6) := K2.out.1.cell 4
          clear g2 K
          go_wp2_with fail
          refine (putCfg_any (6) (3 + y) (5) (5) (.slice (some ⟨v1.heap.size, 0, none⟩) 6 6) sixL v2 K2.out.2.1 (by decide)).mono ?_
          rintro e v3 ⟨t, rfl, ht, g3⟩
          have hn := put_yes ht CB.out
          clear ht
          go_wp2_with fail
          go_ret
          exact ⟨ret_bool (by simpa using put_yes2 hn), btrans K2.out.2.2 g3⟩
        · have f1 : 0 ≤ 3 + y := by omega
          have f2 : 3 + y ≤ 3 := by omega
          have f3 : ¬ 3 ≤ 3 + y := by omega
          have CB : Hid (cfgB ⟨6, 3 + y, 5, 5, sixL⟩ = false) := by unfold Hid; rcases YY.out with rfl | rfl | rfl | rfl | rfl | rfl | rfl <;> first | rfl | (exfalso; omega)
          have K : Hid (Blk ((v1.alloc (.cells #[.int .i64 0, .int .i64 1, .int .i64 2, .int .i64 0, .int .i64 1, .int .i64 2] 3)).alloc (.cells #[.int .i64 (6), .int .i64 (3 + y), .int .i64 (5), .int .i64 (5), .slice (some ⟨v1.heap.size, 0, none⟩) 6 6] 24)) (v1.heap.size + 1) #[.int .i64 (6), .int .i64 (3 + y), .int .i64 (5), .int .i64 (5), .slice (some ⟨v1.heap.size, 0, none⟩) 6 6] 24 ∧ Ints ((v1.alloc (.cells #[.int .i64 0, .int .i64 1, .int .i64 2, .int .i64 0, .int .i64 1, .int .i64 2] 3)).alloc (.cells #[.int .i64 (6), .int .i64 (3 + y), .int .i64 (5), .int .i64 (5), .slice (some ⟨v1.heap.size, 0, none⟩) 6 6] 24)) (.slice (some ⟨v1.heap.size, 0, none⟩) 6 6) sixL ∧ Below w.heap.size w ((v1.alloc (.cells #[.int .i64 0, .int .i64 1, .int .i64 2, .int .i64 0, .int .i64 1, .int .i64 2] 3)).alloc (.cells #[.int .i64 (6), .int .i64 (3 + y), .int .i64 (5), .int .i64 (5), .slice (some ⟨v1.heap.size, 0, none⟩) 6 6] 24))) := ⟨blk_two _ _ _ _, ints_six _ _ _, btrans G1.out (btrans (balloc _ _) (balloc _ _))⟩
          go_wp2_with fail
          refine (rconfig_any (6) (3 + y) (5) (5) (.slice (some ⟨v1.heap.size, 0, none⟩) 6 6) sixL ((v1.alloc (.cells #[.int .i64 0, .int .i64 1, .int .i64 2, .int .i64 0, .int .i64 1, .int .i64 2] 3)).alloc (.cells #[.int .i64 (6), .int .i64 (3 + y), .int .i64 (5), .int .i64 (5), .slice (some ⟨v1.heap.size, 0, none⟩) 6 6] 24)) K.out.2.1 (by decide)).mono ?_
          rintro e v2 ⟨he, g2⟩
          rw [CB.out] at he
          subst he
          have K2 : Hid (Blk v2 (v1.heap.size + 1) #[.int .i64 (6), .int .i64 (3 + y), .int .i64 (5), .int .i64 (5), .slice (some ⟨v1.heap.size, 0, none⟩) 6 6] 24 ∧ Ints v2 (.slice (some ⟨v1.heap.size, 0, none⟩) 6 6) sixL ∧ Below w.heap.size w v2) := ⟨K.out.1.below g2, K.out.2.1.below g2, btrans K.out.2.2 g2⟩
          have u0 : v2.cell? ⟨v1.heap.size + 1, 0, none⟩ = some (.int .i64 (6)) := K2.out.1.cell 0
          have u1 : v2.cell? ⟨v1.heap.size + 1, 1, none⟩ = some (.int .i64 (3 + y)) := K2.out.1.cell 1
          have u2 : v2.cell? ⟨v1.heap.size + 1, 2, none⟩ = some (.int .i64 (5)) := K2.out.1.cell 2
          have u3 : v2.cell? ⟨v1.heap.size + 1, 3, none⟩ = some (.int .i64 (5)) := K2.out.1.cell 3
          have u4 : v2.cell? ⟨v1.heap.size + 1, 4, none⟩ = some (.slice (some ⟨v1.heap.size, 0, none⟩) 6 6) := K2.out.1.cell 4
          clear g2 K
          go_wp2_with fail
          refine (putCfg_any (6) (3 + y) (5) (5) (.slice (some ⟨v1.heap.size, 0, none⟩) 6 6) sixL v2 K2.out.2.1 (by decide)).mono ?_
          rintro e v3 ⟨t, rfl, ht, g3⟩
          obtain rfl := put_no ht CB.out
          clear ht
          go_wp2_with fail
          go_ret
          exact ⟨ret_bool (by first | (simp; done) | (simp; omega)), btrans K2.out.2.2 g3⟩
      · have f1 : 0 ≤ 3 + y := by omega
        have f2 : ¬ 3 + y ≤ 3 := by omega
        have CB : Hid (cfgB ⟨6, 3 + y, 5, 5, sixL⟩ = false) := by unfold Hid; rcases YY.out with rfl | rfl | rfl | rfl | rfl | rfl | rfl <;> first | rfl | (exfalso; omega)
        have K : Hid (Blk ((v1.alloc (.cells #[.int .i64 0, .int .i64 1, .int .i64 2, .int .i64 0, .int .i64 1, .int .i64 2] 3)).alloc (.cells #[.int .i64 (6), .int .i64 (3 + y), .int .i64 (5), .int .i64 (5), .slice (some ⟨v1.heap.size, 0, none⟩) 6 6] 24)) (v1.heap.size + 1) #[.int .i64 (6), .int .i64 (3 + y), .int .i64 (5), .int .i64 (5), .slice (some ⟨v1.heap.size, 0, none⟩) 6 6] 24 ∧ Ints ((v1.alloc (.cells #[.int .i64 0, .int .i64 1, .int .i64 2, .int .i64 0, .int .i64 1, .int .i64 2] 3)).alloc (.cells #[.int .i64 (6), .int .i64 (3 + y), .int .i64 (5), .int .i64 (5), .slice (some ⟨v1.heap.size, 0, none⟩) 6 6] 24)) (.slice (some ⟨v1.heap.size, 0, none⟩) 6 6) sixL ∧ Below w.heap.size w ((v1.alloc (.cells #[.int .i64 0, .int .i64 1, .int .i64 2, .int .i64 0, .int .i64 1, .int .i64 2] 3)).alloc (.cells #[.int .i64 (6), .int .i64 (3 + y), .int .i64 (5), .int .i64 (5), .slice (some ⟨v1.heap.size, 0, none⟩) 6 6] 24))) := ⟨blk_two _ _ _ _, ints_six _ _ _, btrans G1.out (btrans (balloc _ _) (balloc _ _))⟩
        go_wp2_with fail
        refine (rconfig_any (6) (3 + y) (5) (5) (.slice (some ⟨v1.heap.size, 0, none⟩) 6 6) sixL ((v1.alloc (.cells #[.int .i64 0, .int .i64 1, .int .i64 2, .int .i64 0, .int .i64 1, .int .i64 2] 3)).alloc (.cells #[.int .i64 (6), .int .i64 (3 + y), .int .i64 (5), .int .i64 (5), .slice (some ⟨v1.heap.size, 0, none⟩) 6 6] 24)) K.out.2.1 (by decide)).mono ?_
        rintro e v2 ⟨he, g2⟩
        rw [CB.out] at he
        subst he
        have K2 : Hid (Blk v2 (v1.heap.size + 1) #[.int .i64 (6), .int .i64 (3 + y), .int .i64 (5), .int .i64 (5), .slice (some ⟨v1.heap.size, 0, none⟩) 6 6] 24 ∧ Ints v2 (.slice (some ⟨v1.heap.size, 0, none⟩) 6 6) sixL ∧ Below w.heap.size w v2) := ⟨K.out.1.below g2, K.out.2.1.below g2, btrans K.out.2.2 g2⟩
        have u0 : v2.cell? ⟨v1.heap.size + 1, 0, none⟩ = some (.int .i64 (6)) := K2.out.1.cell 0
        have u1 : v2.cell? ⟨v1.heap.size + 1, 1, none⟩ = some (.int .i64 (3 + y)) := K2.out.1.cell 1
        have u2 : v2.cell? ⟨v1.heap.size + 1, 2, none⟩ = some (.int .i64 (5)) := K2.out.1.cell 2
        have u3 : v2.cell? ⟨v1.heap.size + 1, 3, none⟩ = some (.int .i64 (5)) := K2.out.1.cell 3
        have u4 : v2.cell? ⟨v1.heap.size + 1, 4, none⟩ = some (.slice (some ⟨v1.heap.size, 0, none⟩) 6 6) := K2.out.1.cell 4
        clear g2 K
        go_wp2_with fail
        refine (putCfg_any (6) (3 + y) (5) (5) (.slice (some ⟨v1.heap.size, 0, none⟩) 6 6) sixL v2 K2.out.2.1 (by decide)).mono ?_
        rintro e v3 ⟨t, rfl, ht, g3⟩
        obtain rfl := put_no ht CB.out
        clear ht
        go_wp2_with fail
        go_ret
        exact ⟨ret_bool (by first | (simp; done) | (simp; omega)), btrans K2.out.2.2 g3⟩
    by_cases y2 : B = 2
    · subst y2
      by_cases c : y ≤ 0
      · have f1 : 0 ≤ 5 + y := by omega
        have f2 : 5 + y ≤ 5 := by omega
        have CB : Hid (cfgB ⟨6, 3, 5 + y, 5, sixL⟩ = true) := by unfold Hid; rcases YY.out with rfl | rfl | rfl | rfl | rfl | rfl | rfl <;> first | rfl | (exfalso; omega)
        have K : Hid (Blk ((v1.alloc (.cells #[.int .i64 0, .int .i64 1, .int .i64 2, .int .i64 0, .int .i64 1, .int .i64 2] 3)).alloc (.cells #[.int .i64 (6), .int .i64 (3), .int .i64 (5 + y), .int .i64 (5), .slice (some ⟨v1.heap.size, 0, none⟩) 6 6] 24)) (v1.heap.size + 1) #[.int .i64 (6), .int .i64 (3), .int .i64 (5 + y), .int .i64 (5), .slice (some ⟨v1.heap.size, 0, none⟩) 6 6] 24 ∧ Ints ((v1.alloc (.cells #[.int .i64 0, .int .i64 1, .int .i64 2, .int .i64 0, .int .i64 1, .int .i64 2] 3)).alloc (.cells #[.int .i64 (6), .int .i64 (3), .int .i64 (5 + y), .int .i64 (5), .slice (some ⟨v1.heap.size, 0, none⟩) 6 6] 24)) (.slice (some ⟨v1.heap.size, 0, none⟩) 6 6) sixL ∧ Below w.heap.size w ((v1.alloc (.cells #[.int .i64 0, .int .i64 1, .int .i64 2, .int .i64 0, .int .i64 1, .int .i64 2] 3)).alloc (.cells #[.int .i64 (6), .int .i64 (3), .int .i64 (5 + y), .int .i64 (5), .slice (some ⟨v1.heap.size, 0, none⟩) 6 6] 24))) := ⟨blk_two _ _ _ _, ints_six _ _ _, btrans G1.out (btrans (balloc _ _) (balloc _ _))⟩
        go_wp2_with fail
        refine (rconfig_any (6) (3) (5 + y) (5) (.slice (some ⟨v1.heap.size, 0, none⟩) 6 6) sixL ((v1.alloc (.cells #[.int .i64 0, .int .i64 1, .int .i64 2, .int .i64 0, .int .i64 1, .int .i64 2] 3)).alloc (.cells #[.int .i64 (6), .int .i64 (3), .int .i64 (5 + y), .int .i64 (5), .slice (some ⟨v1.heap.size, 0, none⟩) 6 6] 24)) K.out.2.1 (by decide)).mono ?_
        rintro e v2 ⟨he, g2⟩
        rw [CB.out] at he
        subst he
        have K2 : Hid (Blk v2 (v1.heap.size + 1) #[.int .i64 (6), .int .i64 (3), .int .i64 (5 + y), .int .i64 (5), .slice (some ⟨v1.heap.size, 0, none⟩) 6 6] 24 ∧ Ints v2 (.slice (some ⟨v1.heap.size, 0, none⟩) 6 6) sixL ∧ Below w.heap.size w v2) := ⟨K.out.1.below g2, K.out.2.1.below g2, btrans K.out.2.2 g2⟩
        have u0 : v2.cell? ⟨v1.heap.size + 1, 0, none⟩ = some (.int .i64 (6)) := K2.out.1.cell 0
        have u1 : v2.cell? ⟨v1.heap.size + 1, 1, none⟩ = some (.int .i64 (3)) := K2.out.1.cell 1
        have u2 : v2.cell? ⟨v1.heap.size + 1, 2, none⟩ = some (.int .i64 (5 + y)) := K2.out.1.cell 2
        have u3 : v2.cell? ⟨v1.heap.size + 1, 3, none⟩ = some (.int .i64 (5)) := K2.out.1.cell 3
        have u4 : v2.cell? ⟨v1.heap.size + 1, 4, none⟩ = some (.slice (some ⟨v1.heap.size, 0, none⟩) 6 6) := K2.out.1.cell 4
        clear g2 K
        go_wp2_with fail
        refine (putCfg_any (6) (3) (5 + y) (5) (.slice (some ⟨v1.heap.size, 0, none⟩) 6 6) sixL v2 K2.out.2.1 (by decide)).mono ?_
        rintro e v3 ⟨t, rfl, ht, g3⟩
        have hn := put_yes ht CB.out
        clear ht
        go_wp2_with fail
        go_ret
        exact ⟨ret_bool (by simpa using put_yes2 hn), btrans K2.out.2.2 g3⟩
      · have f1 : 0 ≤ 5 + y := by omega
        have f2 : ¬ 5 + y ≤ 5 := by omega
        have CB : Hid (cfgB ⟨6, 3, 5 + y, 5, sixL⟩ = false) := by unfold Hid; rcases YY.out with rfl | rfl | rfl | rfl | rfl | rfl | rfl <;> first | rfl | (exfalso; omega)
        have K : Hid (Blk ((v1.alloc (.cells #[.int .i64 0, .int .i64 1, .int .i64 2, .int .i64 0, .int .i64 1, .int .i64 2] 3)).alloc (.cells #[.int .i64 (6), .int .i64 (3), .int .i64 (5 + y), .int .i64 (5), .slice (some ⟨v1.heap.size, 0, none⟩) 6 6] 24)) (v1.heap.size + 1) #[.int .i64 (6), .int .i64 (3), .int .i64 (5 + y), .int .i64 (5), .slice (some ⟨v1.heap.size, 0, none⟩) 6 6] 24 ∧ Ints ((v1.alloc (.cells #[.int .i64 0, .int .i64 1, .int .i64 2, .int .i64 0, .int .i64 1, .int .i64 2] 3)).alloc (.cells #[.int .i64 (6), .int .i64 (3), .int .i64 (5 + y), .int .i64 (5), .slice (some ⟨v1.heap.size, 0, none⟩) 6 6] 24)) (.slice (some ⟨v1.heap.size, 0, none⟩) 6 6) sixL ∧ Below w.heap.size w ((v1.alloc (.cells #[.int .i64 0, .int .i64 1, .int .i64 2, .int .i64 0, .int .i64 1, .int .i64 2] 3)).alloc (.cells #[.int .i64 (6), .int .i64 (3), .int .i64 (5 + y), .int .i64 (5), .slice (some ⟨v1.heap.size, 0, none⟩) 6 6] 24))) := ⟨blk_two _ _ _ _, ints_six _ _ _, btrans G1.out (btrans (balloc _ _) (balloc _ _))⟩
        go_wp2_with fail
        refine (rconfig_any (6) (3) (5 + y) (5) (.slice (some ⟨v1.heap.size, 0, none⟩) 6 6) sixL ((v1.alloc (.cells #[.int .i64 0, .int .i64 1, .int .i64 2, .int .i64 0, .int .i64 1, .int .i64 2] 3)).alloc (.cells #[.int .i64 (6), .int .i64 (3), .int .i64 (5 + y), .int .i64 (5), .slice (some ⟨v1.heap.size, 0, none⟩) 6 6] 24)) K.out.2.1 (by decide)).mono ?_
        rintro e v2 ⟨he, g2⟩
        rw [CB.out] at he
        subst he
        have K2 : Hid (Blk v2 (v1.heap.size + 1) #[.int .i64 (6), .int .i64 (3), .int .i64 (5 + y), .int .i64 (5), .slice (some ⟨v1.heap.size, 0, none⟩) 6 6] 24 ∧ Ints v2 (.slice (some ⟨v1.heap.size, 0, none⟩) 6 6) sixL ∧ Below w.heap.size w v2) := ⟨K.out.1.below g2, K.out.2.1.below g2, btrans K.out.2.2 g2⟩
        have u0 : v2.cell? ⟨v1.heap.size + 1, 0, none⟩ = some (.int .i64 (6)) := K2.out.1.cell 0
        have u1 : v2.cell? ⟨v1.heap.size + 1, 1, none⟩ = some (.int .i64 (3)) := K2.out.1.cell 1
        have u2 : v2.cell? ⟨v1.heap.size + 1, 2, none⟩ = some (.int .i64 (5 + y)) := K2.out.1.cell 2
        have u3 : v2.cell? ⟨v1.heap.size + 1, 3, none⟩ = some (.int .i64 (5)) := K2.out.1.cell 3
        have u4 : v2.cell? ⟨v1.heap.size + 1, 4, none⟩ = some (.slice (some ⟨v1.heap.size, 0, none⟩) 6 6) := K2.out.1.cell 4
        clear g2 K
        go_wp2_with fail
        refine (putCfg_any (6) (3) (5 + y) (5) (.slice (some ⟨v1.heap.size, 0, none⟩) 6 6) sixL v2 K2.out.2.1 (by decide)).mono ?_
        rintro e v3 ⟨t, rfl, ht, g3⟩
        obtain rfl := put_no ht CB.out
        clear ht
        go_wp2_with fail
        go_ret
        exact ⟨ret_bool (by first | (simp; done) | (simp; omega)), btrans K2.out.2.2 g3⟩
    by_cases y3 : B = 3
    · subst y3
      by_cases c : y ≤ 0
      · have f1 : 0 ≤ 5 + y := by omega
        have f2 : 5 + y ≤ 5 := by omega
        have CB : Hid (cfgB ⟨6, 3, 5, 5 + y, sixL⟩ = true) := by unfold Hid; rcases YY.out with rfl | rfl | rfl | rfl | rfl | rfl | rfl <;> first | rfl | (exfalso; omega)
        have K : Hid (Blk ((v1.alloc (.cells #[.int .i64 0, .int .i64 1, .int .i64 2, .int .i64 0, .int .i64 1, .int .i64 2] 3)).alloc (.cells #[.int .i64 (6), .int .i64 (3), .int .i64 (5), .int .i64 (5 + y), .slice (some ⟨v1.heap.size, 0, none⟩) 6 6] 24)) (v1.heap.size + 1) #[.int .i64 (6), .int .i64 (3), .int .i64 (5), .int .i64 (5 + y), .slice (some ⟨v1.heap.size, 0, none⟩) 6 6] 24 ∧ Ints ((v1.alloc (.cells #[.int .i64 0, .int .i64 1, .int .i64 2, .int .i64 0, .int .i64 1, .int .i64 2] 3)).alloc (.cells #[.int .i64 (6), .int .i64 (3), .int .i64 (5), .int .i64 (5 + y), .slice (some ⟨v1.heap.size, 0, none⟩) 6 6] 24)) (.slice (some ⟨v1.heap.size, 0, none⟩) 6 6) sixL ∧ Below w.heap.size w ((v1.alloc (.cells #[.int .i64 0, .int .i64 1, .int .i64 2, .int .i64 0, .int .i64 1, .int .i64 2] 3)).alloc (.cells #[.int .i64 (6), .int .i64 (3), .int .i64 (5), .int .i64 (5 + y), .slice (some ⟨v1.heap.size, 0, none⟩) 6 6] 24))) := ⟨blk_two _ _ _ _, ints_six _ _ _, btrans G1.out (btrans (balloc _ _) (balloc _ _))⟩
        go_wp2_with fail
        refine (rconfig_any (6) (3) (5) (5 + y) (.slice (some ⟨v1.heap.size, 0, none⟩) 6 6) sixL ((v1.alloc (.cells #[.int .i64 0, .int .i64 1, .int .i64 2, .int .i64 0, .int .i64 1, .int .i64 2] 3)).alloc (.cells #[.int .i64 (6), .int .i64 (3), .int .i64 (5), .int .i64 (5 + y), .slice (some ⟨v1.heap.size, 0, none⟩) 6 6] 24)) K.out.2.1 (by decide)).mono ?_
        rintro e v2 ⟨he, g2⟩
        rw [CB.out] at he
        subst he
        have K2 : Hid (Blk v2 (v1.heap.size + 1) #[.int .i64 (6), .int .i64 (3), .int .i64 (5), .int .i64 (5 + y), .slice (some ⟨v1.heap.size, 0, none⟩) 6 6] 24 ∧ Ints v2 (.slice (some ⟨v1.heap.size, 0, none⟩) 6 6) sixL ∧ Below w.heap.size w v2) := ⟨K.out.1.below g2, K.out.2.1.below g2, btrans K.out.2.2 g2⟩
        have u0 : v2.cell? ⟨v1.heap.size + 1, 0, none⟩ = some (.int .i64 (6)) := K2.out.1.cell 0
        have u1 : v2.cell? ⟨v1.heap.size + 1, 1, none⟩ = some (.int .i64 (3)) := K2.out.1.cell 1
        have u2 : v2.cell? ⟨v1.heap.size + 1, 2, none⟩ = some (.int .i64 (5)) := K2.out.1.cell 2
        have u3 : v2.cell? ⟨v1.heap.size + 1, 3, none⟩ = some (.int .i64 (5 + y)) := K2.out.1.cell 3
        have u4 : v2.cell? ⟨v1.heap.size + 1, 4, none⟩ = some (.slice (some ⟨v1.heap.size, 0, none⟩) 6 6) := K2.out.1.cell 4
        clear g2 K
        go_wp2_with fail
        refine (putCfg_any (6) (3) (5) (5 + y) (.slice (some ⟨v1.heap.size, 0, none⟩) 6 6) sixL v2 K2.out.2.1 (by decide)).mono ?_
        rintro e v3 ⟨t, rfl, ht, g3⟩
        have hn := put_yes ht CB.out
        clear ht
        go_wp2_with fail
        go_ret
        exact ⟨ret_bool (by simpa using put_yes2 hn), btrans K2.out.2.2 g3⟩
      · have f1 : 0 ≤ 5 + y := by omega
        have f2 : ¬ 5 + y ≤ 5 := by omega
        have CB : Hid (cfgB ⟨6, 3, 5, 5 + y, sixL⟩ = false) := by unfold Hid; rcases YY.out with rfl | rfl | rfl | rfl | rfl | rfl | rfl <;> first | rfl | (exfalso; omega)
        have K : Hid (Blk ((v1.alloc (.cells #[.int .i64 0, .int .i64 1, .int .i64 2, .int .i64 0, .int .i64 1, .int .i64 2] 3)).alloc (.cells #[.int .i64 (6), .int .i64 (3), .int .i64 (5), .int .i64 (5 + y), .slice (some ⟨v1.heap.size, 0, none⟩) 6 6] 24)) (v1.heap.size + 1) #[.int .i64 (6), .int .i64 (3), .int .i64 (5), .int .i64 (5 + y), .slice (some ⟨v1.heap.size, 0, none⟩) 6 6] 24 ∧ Ints ((v1.alloc (.cells #[.int .i64 0, .int .i64 1, .int .i64 2, .int .i64 0, .int .i64 1, .int .i64 2] 3)).alloc (.cells #[.int .i64 (6), .int .i64 (3), .int .i64 (5), .int .i64 (5 + y), .slice (some ⟨v1.heap.size, 0, none⟩) 6 6] 24)) (.slice (some ⟨v1.heap.size, 0, none⟩) 6 6) sixL ∧ Below w.heap.size w ((v1.alloc (.cells #[.int .i64 0, .int .i64 1, .int .i64 2, .int .i64 0, .int .i64 1, .int .i64 2] 3)).alloc (.cells #[.int .i64 (6), .int .i64 (3), .int .i64 (5), .int .i64 (5 + y), .slice (some ⟨v1.heap.size, 0, none⟩) 6 6] 24))) := ⟨blk_two _ _ _ _, ints_six _ _ _, btrans G1.out (btrans (balloc _ _) (balloc _ _))⟩
        go_wp2_with fail
        refine (rconfig_any (6) (3) (5) (5 + y) (.slice (some ⟨v1.heap.size, 0, none⟩) 6 6) sixL ((v1.alloc (.cells #[.int .i64 0, .int .i64 1, .int .i64 2, .int .i64 0, .int .i64 1, .int .i64 2] 3)).alloc (.cells #[.int .i64 (6), .int .i64 (3), .int .i64 (5), .int .i64 (5 + y), .slice (some ⟨v1.heap.size, 0, none⟩) 6 6] 24)) K.out.2.1 (by decide)).mono ?_
        rintro e v2 ⟨he, g2⟩
        rw [CB.out] at he
        subst he
        have K2 : Hid (Blk v2 (v1.heap.size + 1) #[.int .i64 (6), .int .i64 (3), .int .i64 (5), .int .i64 (5 + y), .slice (some ⟨v1.heap.size, 0, none⟩) 6 6] 24 ∧ Ints v2 (.slice (some ⟨v1.heap.size, 0, none⟩) 6 6) sixL ∧ Below w.heap.size w v2) := ⟨K.out.1.below g2, K.out.2.1.below g2, btrans K.out.2.2 g2⟩
        have u0 : v2.cell? ⟨v1.heap.size + 1, 0, none⟩ = some (.int .i64 (6)) := K2.out.1.cell 0
        have u1 : v2.cell? ⟨v1.heap.size + 1, 1, none⟩ = some (.int .i64 (3)) := K2.out.1.cell 1
        have u2 : v2.cell? ⟨v1.heap.size + 1, 2, none⟩ = some (.int .i64 (5)) := K2.out.1.cell 2
        have u3 : v2.cell? ⟨v1.heap.size + 1, 3, none⟩ = some (.int .i64 (5 + y)) := K2.out.1.cell 3
        have u4 : v2.cell? ⟨v1.heap.size + 1, 4, none⟩ = some (.slice (some ⟨v1.heap.size, 0, none⟩) 6 6) := K2.out.1.cell 4
        clear g2 K
        go_wp2_with fail
        refine (putCfg_any (6) (3) (5) (5 + y) (.slice (some ⟨v1.heap.size, 0, none⟩) 6 6) sixL v2 K2.out.2.1 (by decide)).mono ?_
        rintro e v3 ⟨t, rfl, ht, g3⟩
        obtain rfl := put_no ht CB.out
        clear ht
        go_wp2_with fail
        go_ret
        exact ⟨ret_bool (by first | (simp; done) | (simp; omega)), btrans K2.out.2.2 g3⟩
    have V2 : Hid ((v1.alloc (.cells #[.int .i64 0, .int .i64 1, .int .i64 2, .int .i64 0, .int .i64 1, .int .i64 2] 3)).heap.size = v1.heap.size + 1) := by unfold Hid; simp
    have O : Hid ((v1.alloc (.cells #[.int .i64 0, .int .i64 1, .int .i64 2, .int .i64 0, .int .i64 1, .int .i64 2] 3)).ownsRow v1.heap.size 3 1 (.slice (some ⟨v1.heap.size, 0, none⟩) 6 6) 6 (sixL.map mkI)) := (own_six v1 3)
    have CT : Hid (∀ j q, ([.int .i64 y] : List Value)[j]? = some q → (((v1.alloc (.cells #[.int .i64 0, .int .i64 1, .int .i64 2, .int .i64 0, .int .i64 1, .int .i64 2] 3)).alloc (.cells #[.int .i64 6, .int .i64 3, .int .i64 5, .int .i64 5, .slice (some ⟨v1.heap.size, 0, none⟩) 6 6] 24)).alloc (.cells #[.int .i64 y] 3)).cell? ((⟨v1.heap.size + 2, 0, none⟩ : Addr).add j) = some q) := by intro j q hj; have := cell_one ((v1.alloc (.cells #[.int .i64 0, .int .i64 1, .int .i64 2, .int .i64 0, .int .i64 1, .int .i64 2] 3)).alloc (.cells #[.int .i64 6, .int .i64 3, .int .i64 5, .int .i64 5, .slice (some ⟨v1.heap.size, 0, none⟩) 6 6] 24)) (.int .i64 y) 3 j q hj; simpa using this
    have CB : Hid (cfgB ⟨6, 3, 5, 5, (sixL ++ [y])⟩ = false) := by unfold Hid; rcases YY.out with rfl | rfl | rfl | rfl | rfl | rfl | rfl <;> rfl
    go_wp2_with (at_builtin; refine wpList_append_own_at _ rfl (.tmp 22) (.tmp 24) 22 rfl v1.heap.size 3 i0 (.int .i64 0) 1 8 Tryd.underlying22 hi0 hz0 hz1 hz2 rfl (by decide) _ _ _ rfl ((O.out.alloc _).alloc _) ⟨v1.heap.size + 2, 0, none⟩ 1 1 [.int .i64 y] rfl rfl CT.out (by intro u hu; simp at hu; subst hu; rfl) (by unfold maxLen; omega) (by omega) (by simp; omega) ?_; intro v7 w7 own7 grow7 nil7 at7; obtain ⟨s7, k7, e7⟩ := own_form own7; subst e7; have L7 : Hid (Blk w7 (v1.heap.size + 1) #[.int .i64 6, .int .i64 3, .int .i64 5, .int .i64 5, .slice (some ⟨v1.heap.size, 0, none⟩) 6 6] 24 ∧ w7.ownsRow v1.heap.size 3 1 (.slice s7 7 k7) 7 ((sixL ++ [y]).map mkI) ∧ Below w.heap.size w w7 ∧ ∀ k, (Value.slice s7 7 k7).ownBlock = some k → k ≠ v1.heap.size + 1) := ⟨V2.out ▸ gnew grow7 (fun h => by have := (O.out.lt _ h).2; omega), own7, btrans G1.out ((balloc v1 _).trans (gbelow grow7 (by simp) (fun k h => (O.out.lt _ h).1))), fun k hk => at7.elim (fun h => by rw [h] at hk; have := (O.out.lt _ hk).2; rw [V2.out] at this; omega) (fun h => by rw [h] at hk; simp at hk; omega)⟩; have u0 : w7.cell? ⟨v1.heap.size + 1, 0, none⟩ = some (.int .i64 6) := L7.out.1.cell 0; have u1 : w7.cell? ⟨v1.heap.size + 1, 1, none⟩ = some (.int .i64 3) := L7.out.1.cell 1; have u2 : w7.cell? ⟨v1.heap.size + 1, 2, none⟩ = some (.int .i64 5) := L7.out.1.cell 2; have u3 : w7.cell? ⟨v1.heap.size + 1, 3, none⟩ = some (.int .i64 5) := L7.out.1.cell 3; have u4 : w7.cell? ⟨v1.heap.size + 1, 4, none⟩ = some (.slice (some ⟨v1.heap.size, 0, none⟩) 6 6) := L7.out.1.cell 4; have fr := L7.out.1.frozen 4; clear own7 grow7 nil7 at7 CT)
    obtain ⟨r8, o8⟩ := L7.out.1.set 4 (.slice s7 7 k7)
    have K : Hid (Blk (w7.setCell ⟨v1.heap.size + 1, 4, none⟩ (.slice s7 7 k7)) (v1.heap.size + 1) #[.int .i64 (6), .int .i64 (3), .int .i64 (5), .int .i64 (5), .slice s7 7 k7] 24 ∧ Ints (w7.setCell ⟨v1.heap.size + 1, 4, none⟩ (.slice s7 7 k7)) (.slice s7 7 k7) (sixL ++ [y]) ∧ Below w.heap.size w (w7.setCell ⟨v1.heap.size + 1, 4, none⟩ (.slice s7 7 k7))) := ⟨r8, own_ints (own_off L7.out.2.1 o8 (fun k hk => by have := L7.out.2.2.2 k hk; simpa using this)), L7.out.2.2.1.trans (o8.belowOf (by have := L7.out.1.lt; omega) (by simp; omega))⟩
    clear r8 o8 L7
    refine (rconfig_any 6 3 5 5 (.slice s7 7 k7) (sixL ++ [y]) (w7.setCell ⟨v1.heap.size + 1, 4, none⟩ (.slice s7 7 k7)) K.out.2.1 (by simp [sixL])).mono ?_
    rintro e v2 ⟨he, g2⟩
    rw [CB.out] at he
    subst he
    have K2 : Hid (Blk v2 (v1.heap.size + 1) #[.int .i64 (6), .int .i64 (3), .int .i64 (5), .int .i64 (5), .slice s7 7 k7] 24 ∧ Ints v2 (.slice s7 7 k7) (sixL ++ [y]) ∧ Below w.heap.size w v2) := ⟨K.out.1.below g2, K.out.2.1.below g2, btrans K.out.2.2 g2⟩
    have u0 : v2.cell? ⟨v1.heap.size + 1, 0, none⟩ = some (.int .i64 (6)) := K2.out.1.cell 0
    have u1 : v2.cell? ⟨v1.heap.size + 1, 1, none⟩ = some (.int .i64 (3)) := K2.out.1.cell 1
    have u2 : v2.cell? ⟨v1.heap.size + 1, 2, none⟩ = some (.int .i64 (5)) := K2.out.1.cell 2
    have u3 : v2.cell? ⟨v1.heap.size + 1, 3, none⟩ = some (.int .i64 (5)) := K2.out.1.cell 3
    have u4 : v2.cell? ⟨v1.heap.size + 1, 4, none⟩ = some (.slice s7 7 k7) := K2.out.1.cell 4
    clear g2 K
    go_wp2_with fail
    refine (putCfg_any (6) (3) (5) (5) (.slice s7 7 k7) (sixL ++ [y]) v2 K2.out.2.1 (by simp [sixL])).mono ?_
    rintro e v3 ⟨t, rfl, ht, g3⟩
    obtain rfl := put_no ht CB.out
    clear ht
    go_wp2_with fail
    go_ret
    exact ⟨ret_bool (by first | (simp; done) | (simp; omega)), btrans K2.out.2.2 g3⟩
  · skip
    by_cases y0 : B = 0
    · subst y0
      by_cases c : 0 ≤ y
      · have f1 : 1 ≤ 1 + y := by omega
        have f2 : 1 + y ≤ 6 := by omega
        have CB : Hid (cfgB ⟨1 + y, 0, 0, 0, ([] : List Int)⟩ = true) := by unfold Hid; rcases YY.out with rfl | rfl | rfl | rfl | rfl | rfl | rfl <;> first | rfl | (exfalso; omega)
        have K : Hid (Blk ((v1.alloc (.cells #[.int .i64 0, .int .i64 1, .int .i64 2, .int .i64 0, .int .i64 1, .int .i64 2] 3)).alloc (.cells #[.int .i64 (1 + y), .int .i64 (0), .int .i64 (0), .int .i64 (0), .slice none 0 0] 24)) (v1.heap.size + 1) #[.int .i64 (1 + y), .int .i64 (0), .int .i64 (0), .int .i64 (0), .slice none 0 0] 24 ∧ Ints ((v1.alloc (.cells #[.int .i64 0, .int .i64 1, .int .i64 2, .int .i64 0, .int .i64 1, .int .i64 2] 3)).alloc (.cells #[.int .i64 (1 + y), .int .i64 (0), .int .i64 (0), .int .i64 (0), .slice none 0 0] 24)) (.slice none 0 0) ([] : List Int) ∧ Below w.heap.size w ((v1.alloc (.cells #[.int .i64 0, .int .i64 1, .int .i64 2, .int .i64 0, .int .i64 1, .int .i64 2] 3)).alloc (.cells #[.int .i64 (1 + y), .int .i64 (0), .int .i64 (0), .int .i64 (0), .slice none 0 0] 24))) := ⟨blk_two _ _ _ _, ints_nil _, btrans G1.out (btrans (balloc _ _) (balloc _ _))⟩
        go_wp2_with fail
        refine (rconfig_any (1 + y) (0) (0) (0) (.slice none 0 0) ([] : List Int) ((v1.alloc (.cells #[.int .i64 0, .int .i64 1, .int .i64 2, .int .i64 0, .int .i64 1, .int .i64 2] 3)).alloc (.cells #[.int .i64 (1 + y), .int .i64 (0), .int .i64 (0), .int .i64 (0), .slice none 0 0] 24)) K.out.2.1 (by decide)).mono ?_
        rintro e v2 ⟨he, g2⟩
        rw [CB.out] at he
        subst he
        have K2 : Hid (Blk v2 (v1.heap.size + 1) #[.int .i64 (1 + y), .int .i64 (0), .int .i64 (0), .int .i64 (0), .slice none 0 0] 24 ∧ Ints v2 (.slice none 0 0) ([] : List Int) ∧ Below w.heap.size w v2) := ⟨K.out.1.below g2, K.out.2.1.below g2, btrans K.out.2.2 g2⟩
        have u0 : v2.cell? ⟨v1.heap.size + 1, 0, none⟩ = some (.int .i64 (1 + y)) := K2.out.1.cell 0
        have u1 : v2.cell? ⟨v1.heap.size + 1, 1, none⟩ = some (.int .i64 (0)) := K2.out.1.cell 1
        have u2 : v2.cell? ⟨v1.heap.size + 1, 2, none⟩ = some (.int .i64 (0)) := K2.out.1.cell 2
        have u3 : v2.cell? ⟨v1.heap.size + 1, 3, none⟩ = some (.int .i64 (0)) := K2.out.1.cell 3
        have u4 : v2.cell? ⟨v1.heap.size + 1, 4, none⟩ = some (.slice none 0 0) := K2.out.1.cell 4
        clear g2 K
        go_wp2_with fail
        refine (putCfg_any (1 + y) (0) (0) (0) (.slice none 0 0) ([] : List Int) v2 K2.out.2.1 (by decide)).mono ?_
        rintro e v3 ⟨t, rfl, ht, g3⟩
        have hn := put_yes ht CB.out
        clear ht
        go_wp2_with fail
        go_ret
        exact ⟨ret_bool (by simpa using put_yes2 hn), btrans K2.out.2.2 g3⟩
      · have f1 : ¬ 1 ≤ 1 + y := by omega
        have CB : Hid (cfgB ⟨1 + y, 0, 0, 0, ([] : List Int)⟩ = false) := by unfold Hid; rcases YY.out with rfl | rfl | rfl | rfl | rfl | rfl | rfl <;> first | rfl | (exfalso; omega)
        have K : Hid (Blk ((v1.alloc (.cells #[.int .i64 0, .int .i64 1, .int .i64 2, .int .i64 0, .int .i64 1, .int .i64 2] 3)).alloc (.cells #[.int .i64 (1 + y), .int .i64 (0), .int .i64 (0), .int .i64 (0), .slice none 0 0] 24)) (v1.heap.size + 1) #[.int .i64 (1 + y), .int .i64 (0), .int .i64 (0), .int .i64 (0), .slice none 0 0] 24 ∧ Ints ((v1.alloc (.cells #[.int .i64 0, .int .i64 1, .int .i64 2, .int .i64 0, .int .i64 1, .int .i64 2] 3)).alloc (.cells #[.int .i64 (1 + y), .int .i64 (0), .int .i64 (0), .int .i64 (0), .slice none 0 0] 24)) (.slice none 0 0) ([] : List Int) ∧ Below w.heap.size w ((v1.alloc (.cells #[.int .i64 0, .int .i64 1, .int .i64 2, .int .i64 0, .int .i64 1, .int .i64 2] 3)).alloc (.cells #[.int .i64 (1 + y), .int .i64 (0), .int .i64 (0), .int .i64 (0), .slice none 0 0] 24))) := ⟨blk_two _ _ _ _, ints_nil _, btrans G1.out (btrans (balloc _ _) (balloc _ _))⟩
        go_wp2_with fail
        refine (rconfig_any (1 + y) (0) (0) (0) (.slice none 0 0) ([] : List Int) ((v1.alloc (.cells #[.int .i64 0, .int .i64 1, .int .i64 2, .int .i64 0, .int .i64 1, .int .i64 2] 3)).alloc (.cells #[.int .i64 (1 + y), .int .i64 (0), .int .i64 (0), .int .i64 (0), .slice none 0 0] 24)) K.out.2.1 (by decide)).mono ?_
        rintro e v2 ⟨he, g2⟩
        rw [CB.out] at he
        subst he
        have K2 : Hid (Blk v2 (v1.heap.size + 1) #[.int .i64 (1 + y), .int .i64 (0), .int .i64 (0), .int .i64 (0), .slice none 0 0] 24 ∧ Ints v2 (.slice none 0 0) ([] : List Int) ∧ Below w.heap.size w v2) := ⟨K.out.1.below g2, K.out.2.1.below g2, btrans K.out.2.2 g2⟩
        have u0 : v2.cell? ⟨v1.heap.size + 1, 0, none⟩ = some (.int .i64 (1 + y)) := K2.out.1.cell 0
        have u1 : v2.cell? ⟨v1.heap.size + 1, 1, none⟩ = some (.int .i64 (0)) := K2.out.1.cell 1
        have u2 : v2.cell? ⟨v1.heap.size + 1, 2, none⟩ = some (.int .i64 (0)) := K2.out.1.cell 2
        have u3 : v2.cell? ⟨v1.heap.size + 1, 3, none⟩ = some (.int .i64 (0)) := K2.out.1.cell 3
        have u4 : v2.cell? ⟨v1.heap.size + 1, 4, none⟩ = some (.slice none 0 0) := K2.out.1.cell 4
        clear g2 K
        go_wp2_with fail
        refine (putCfg_any (1 + y) (0) (0) (0) (.slice none 0 0) ([] : List Int) v2 K2.out.2.1 (by decide)).mono ?_
        rintro e v3 ⟨t, rfl, ht, g3⟩
        obtain rfl := put_no ht CB.out
        clear ht
        go_wp2_with fail
        go_ret
        exact ⟨ret_bool (by first | (simp; done) | (simp; omega)), btrans K2.out.2.2 g3⟩
    by_cases y1 : B = 1
    · subst y1
      by_cases c : 0 ≤ y
      · have f1 : 0 ≤ y := by omega
        have f2 : y ≤ 3 := by omega
        have CB : Hid (cfgB ⟨1, y, 0, 0, ([] : List Int)⟩ = true) := by unfold Hid; rcases YY.out with rfl | rfl | rfl | rfl | rfl | rfl | rfl <;> first | rfl | (exfalso; omega)
        have K : Hid (Blk ((v1.alloc (.cells #[.int .i64 0, .int .i64 1, .int .i64 2, .int .i64 0, .int .i64 1, .int .i64 2] 3)).alloc (.cells #[.int .i64 (1), .int .i64 (y), .int .i64 (0), .int .i64 (0), .slice none 0 0] 24)) (v1.heap.size + 1) #[.int .i64 (1), .int .i64 (y), .int .i64 (0), .int .i64 (0), .slice none 0 0] 24 ∧ Ints ((v1.alloc (.cells #[.int .i64 0, .int .i64 1, .int .i64 2, .int .i64 0, .int .i64 1, .int .i64 2] 3)).alloc (.cells #[.int .i64 (1), .int .i64 (y), .int .i64 (0), .int .i64 (0), .slice none 0 0] 24)) (.slice none 0 0) ([] : List Int) ∧ Below w.heap.size w ((v1.alloc (.cells #[.int .i64 0, .int .i64 1, .int .i64 2, .int .i64 0, .int .i64 1, .int .i64 2] 3)).alloc (.cells #[.int .i64 (1), .int .i64 (y), .int .i64 (0), .int .i64 (0), .slice none 0 0] 24))) := ⟨blk_two _ _ _ _, ints_nil _, btrans G1.out (btrans (balloc _ _) (balloc _ _))⟩
        go_wp2_with fail
        refine (rconfig_any (1) (y) (0) (0) (.slice none 0 0) ([] : List Int) ((v1.alloc (.cells #[.int .i64 0, .int .i64 1, .int .i64 2, .int .i64 0, .int .i64 1, .int .i64 2] 3)).alloc (.cells #[.int .i64 (1), .int .i64 (y), .int .i64 (0), .int .i64 (0), .slice none 0 0] 24)) K.out.2.1 (by decide)).mono ?_
        rintro e v2 ⟨he, g2⟩
        rw [CB.out] at he
        subst he
        have K2 : Hid (Blk v2 (v1.heap.size + 1) #[.int .i64 (1), .int .i64 (y), .int .i64 (0), .int .i64 (0), .slice none 0 0] 24 ∧ Ints v2 (.slice none 0 0) ([] : List Int) ∧ Below w.heap.size w v2) := ⟨K.out.1.below g2, K.out.2.1.below g2, btrans K.out.2.2 g2⟩
        have u0 : v2.cell? ⟨v1.heap.size + 1, 0, none⟩ = some (.int .i64 (1)) := K2.out.1.cell 0
        have u1 : v2.cell? ⟨v1.heap.size + 1, 1, none⟩ = some (.int .i64 (y)) := K2.out.1.cell 1
        have u2 : v2.cell? ⟨v1.heap.size + 1, 2, none⟩ = some (.int .i64 (0)) := K2.out.1.cell 2
        have u3 : v2.cell? ⟨v1.heap.size + 1, 3, none⟩ = some (.int .i64 (0)) := K2.out.1.cell 3
        have u4 : v2.cell? ⟨v1.heap.size + 1, 4, none⟩ = some (.slice none 0 0) := K2.out.1.cell 4
        clear g2 K
        go_wp2_with fail
        refine (putCfg_any (1) (y) (0) (0) (.slice none 0 0) ([] : List Int) v2 K2.out.2.1 (by decide)).mono ?_
        rintro e v3 ⟨t, rfl, ht, g3⟩
        have hn := put_yes ht CB.out
        clear ht
        go_wp2_with fail
        go_ret
        exact ⟨ret_bool (by simpa using put_yes2 hn), btrans K2.out.2.2 g3⟩
      · have f1 : ¬ 0 ≤ y := by omega
        have CB : Hid (cfgB ⟨1, y, 0, 0, ([] : List Int)⟩ = false) := by unfold Hid; rcases YY.out with rfl | rfl | rfl | rfl | rfl | rfl | rfl <;> first | rfl | (exfalso; omega)
        have K : Hid (Blk ((v1.alloc (.cells #[.int .i64 0, .int .i64 1, .int .i64 2, .int .i64 0, .int .i64 1, .int .i64 2] 3)).alloc (.cells #[.int .i64 (1), .int .i64 (y), .int .i64 (0), .int .i64 (0), .slice none 0 0] 24)) (v1.heap.size + 1) #[.int .i64 (1), .int .i64 (y), .int .i64 (0), .int .i64 (0), .slice none 0 0] 24 ∧ Ints ((v1.alloc (.cells #[.int .i64 0, .int .i64 1, .int .i64 2, .int .i64 0, .int .i64 1, .int .i64 2] 3)).alloc (.cells #[.int .i64 (1), .int .i64 (y), .int .i64 (0), .int .i64 (0), .slice none 0 0] 24)) (.slice none 0 0) ([] : List Int) ∧ Below w.heap.size w ((v1.alloc (.cells #[.int .i64 0, .int .i64 1, .int .i64 2, .int .i64 0, .int .i64 1, .int .i64 2] 3)).alloc (.cells #[.int .i64 (1), .int .i64 (y), .int .i64 (0), .int .i64 (0), .slice none 0 0] 24))) := ⟨blk_two _ _ _ _, ints_nil _, btrans G1.out (btrans (balloc _ _) (balloc _ _))⟩
        go_wp2_with fail
        refine (rconfig_any (1) (y) (0) (0) (.slice none 0 0) ([] : List Int) ((v1.alloc (.cells #[.int .i64 0, .int .i64 1, .int .i64 2, .int .i64 0, .int .i64 1, .int .i64 2] 3)).alloc (.cells #[.int .i64 (1), .int .i64 (y), .int .i64 (0), .int .i64 (0), .slice none 0 0] 24)) K.out.2.1 (by decide)).mono ?_
        rintro e v2 ⟨he, g2⟩
        rw [CB.out] at he
        subst he
        have K2 : Hid (Blk v2 (v1.heap.size + 1) #[.int .i64 (1), .int .i64 (y), .int .i64 (0), .int .i64 (0), .slice none 0 0] 24 ∧ Ints v2 (.slice none 0 0) ([] : List Int) ∧ Below w.heap.size w v2) := ⟨K.out.1.below g2, K.out.2.1.below g2, btrans K.out.2.2 g2⟩
        have u0 : v2.cell? ⟨v1.heap.size + 1, 0, none⟩ = some (.int .i64 (1)) := K2.out.1.cell 0
        have u1 : v2.cell? ⟨v1.heap.size + 1, 1, none⟩ = some (.int .i64 (y)) := K2.out.1.cell 1
        have u2 : v2.cell? ⟨v1.heap.size + 1, 2, none⟩ = some (.int .i64 (0)) := K2.out.1.cell 2
        have u3 : v2.cell? ⟨v1.heap.size + 1, 3, none⟩ = some (.int .i64 (0)) := K2.out.1.cell 3
        have u4 : v2.cell? ⟨v1.heap.size + 1, 4, none⟩ = some (.slice none 0 0) := K2.out.1.cell 4
        clear g2 K
        go_wp2_with fail
        refine (putCfg_any (1) (y) (0) (0) (.slice none 0 0) ([] : List Int) v2 K2.out.2.1 (by decide)).mono ?_
        rintro e v3 ⟨t, rfl, ht, g3⟩
        obtain rfl := put_no ht CB.out
        clear ht
        go_wp2_with fail
        go_ret
        exact ⟨ret_bool (by first | (simp; done) | (simp; omega)), btrans K2.out.2.2 g3⟩
    by_cases y2 : B = 2
    · subst y2
      by_cases c : 0 ≤ y
      · have f1 : 0 ≤ y := by omega
        have f2 : y ≤ 5 := by omega
        have CB : Hid (cfgB ⟨1, 0, y, 0, ([] : List Int)⟩ = true) := by unfold Hid; rcases YY.out with rfl | rfl | rfl | rfl | rfl | rfl | rfl <;> first | rfl | (exfalso; omega)
        have K : Hid (Blk ((v1.alloc (.cells #[.int .i64 0, .int .i64 1, .int .i64 2, .int .i64 0, .int .i64 1, .int .i64 2] 3)).alloc (.cells #[.int .i64 (1), .int .i64 (0), .int .i64 (y), .int .i64 (0), .slice none 0 0] 24)) (v1.heap.size + 1) #[.int .i64 (1), .int .i64 (0), .int .i64 (y), .int .i64 (0), .slice none 0 0] 24 ∧ Ints ((v1.alloc (.cells #[.int .i64 0, .int .i64 1, .int .i64 2, .int .i64 0, .int .i64 1, .int .i64 2] 3)).alloc (.cells #[.int .i64 (1), .int .i64 (0), .int .i64 (y), .int .i64 (0), .slice none 0 0] 24)) (.slice none 0 0) ([] : List Int) ∧ Below w.heap.size w ((v1.alloc (.cells #[.int .i64 0, .int .i64 1, .int .i64 2, .int .i64 0, .int .i64 1, .int .i64 2] 3)).alloc (.cells #[.int .i64 (1), .int .i64 (0), .int .i64 (y), .int .i64 (0), .slice none 0 0] 24))) := ⟨blk_two _ _ _ _, ints_nil _, btrans G1.out (btrans (balloc _ _) (balloc _ _))⟩
        go_wp2_with fail
        refine (rconfig_any (1) (0) (y) (0) (.slice none 0 0) ([] : List Int) ((v1.alloc (.cells #[.int .i64 0, .int .i64 1, .int .i64 2, .int .i64 0, .int .i64 1, .int .i64 2] 3)).alloc (.cells #[.int .i64 (1), .int .i64 (0), .int .i64 (y), .int .i64 (0), .slice none 0 0] 24)) K.out.2.1 (by decide)).mono ?_
        rintro e v2 ⟨he, g2⟩
        rw [CB.out] at he
        subst he
        have K2 : Hid (Blk v2 (v1.heap.size + 1) #[.int .i64 (1), .int .i64 (0), .int .i64 (y), .int .i64 (0), .slice none 0 0] 24 ∧ Ints v2 (.slice none 0 0) ([] : List Int) ∧ Below w.heap.size w v2) := ⟨K.out.1.below g2, K.out.2.1.below g2, btrans K.out.2.2 g2⟩
        have u0 : v2.cell? ⟨v1.heap.size + 1, 0, none⟩ = some (.int .i64 (1)) := K2.out.1.cell 0
        have u1 : v2.cell? ⟨v1.heap.size + 1, 1, none⟩ = some (.int .i64 (0)) := K2.out.1.cell 1
        have u2 : v2.cell? ⟨v1.heap.size + 1, 2, none⟩ = some (.int .i64 (y)) := K2.out.1.cell 2
        have u3 : v2.cell? ⟨v1.heap.size + 1, 3, none⟩ = some (.int .i64 (0)) := K2.out.1.cell 3
        have u4 : v2.cell? ⟨v1.heap.size + 1, 4, none⟩ = some (.slice none 0 0) := K2.out.1.cell 4
        clear g2 K
        go_wp2_with fail
        refine (putCfg_any (1) (0) (y) (0) (.slice none 0 0) ([] : List Int) v2 K2.out.2.1 (by decide)).mono ?_
        rintro e v3 ⟨t, rfl, ht, g3⟩
        have hn := put_yes ht CB.out
        clear ht
        go_wp2_with fail
        go_ret
        exact ⟨ret_bool (by simpa using put_yes2 hn), btrans K2.out.2.2 g3⟩
      · have f1 : ¬ 0 ≤ y := by omega
        have CB : Hid (cfgB ⟨1, 0, y, 0, ([] : List Int)⟩ = false) := by unfold Hid; rcases YY.out with rfl | rfl | rfl | rfl | rfl | rfl | rfl <;> first | rfl | (exfalso; omega)
        have K : Hid (Blk ((v1.alloc (.cells #[.int .i64 0, .int .i64 1, .int .i64 2, .int .i64 0, .int .i64 1, .int .i64 2] 3)).alloc (.cells #[.int .i64 (1), .int .i64 (0), .int .i64 (y), .int .i64 (0), .slice none 0 0] 24)) (v1.heap.size + 1) #[.int .i64 (1), .int .i64 (0), .int .i64 (y), .int .i64 (0), .slice none 0 0] 24 ∧ Ints ((v1.alloc (.cells #[.int .i64 0, .int .i64 1, .int .i64 2, .int .i64 0, .int .i64 1, .int .i64 2] 3)).alloc (.cells #[.int .i64 (1), .int .i64 (0), .int .i64 (y), .int .i64 (0), .slice none 0 0] 24)) (.slice none 0 0) ([] : List Int) ∧ Below w.heap.size w ((v1.alloc (.cells #[.int .i64 0, .int .i64 1, .int .i64 2, .int .i64 0, .int .i64 1, .int .i64 2] 3)).alloc (.cells #[.int .i64 (1), .int .i64 (0), .int .i64 (y), .int .i64 (0), .slice none 0 0] 24))) := ⟨blk_two _ _ _ _, ints_nil _, btrans G1.out (btrans (balloc _ _) (balloc _ _))⟩
        go_wp2_with fail
        refine (rconfig_any (1) (0) (y) (0) (.slice none 0 0) ([] : List Int) ((v1.alloc (.cells #[.int .i64 0, .int .i64 1, .int .i64 2, .int .i64 0, .int .i64 1, .int .i64 2] 3)).alloc (.cells #[.int .i64 (1), .int .i64 (0), .int .i64 (y), .int .i64 (0), .slice none 0 0] 24)) K.out.2.1 (by decide)).mono ?_
        rintro e v2 ⟨he, g2⟩
        rw [CB.out] at he
        subst he
        have K2 : Hid (Blk v2 (v1.heap.size + 1) #[.int .i64 (1), .int .i64 (0), .int .i64 (y), .int .i64 (0), .slice none 0 0] 24 ∧ Ints v2 (.slice none 0 0) ([] : List Int) ∧ Below w.heap.size w v2) := ⟨K.out.1.below g2, K.out.2.1.below g2, btrans K.out.2.2 g2⟩
        have u0 : v2.cell? ⟨v1.heap.size + 1, 0, none⟩ = some (.int .i64 (1)) := K2.out.1.cell 0
        have u1 : v2.cell? ⟨v1.heap.size + 1, 1, none⟩ = some (.int .i64 (0)) := K2.out.1.cell 1
        have u2 : v2.cell? ⟨v1.heap.size + 1, 2, none⟩ = some (.int .i64 (y)) := K2.out.1.cell 2
        have u3 : v2.cell? ⟨v1.heap.size + 1, 3, none⟩ = some (.int .i64 (0)) := K2.out.1.cell 3
        have u4 : v2.cell? ⟨v1.heap.size + 1, 4, none⟩ = some (.slice none 0 0) := K2.out.1.cell 4
        clear g2 K
        go_wp2_with fail
        refine (putCfg_any (1) (0) (y) (0) (.slice none 0 0) ([] : List Int) v2 K2.out.2.1 (by decide)).mono ?_
        rintro e v3 ⟨t, rfl, ht, g3⟩
        obtain rfl := put_no ht CB.out
        clear ht
        go_wp2_with fail
        go_ret
        exact ⟨ret_bool (by first | (simp; done) | (simp; omega)), btrans K2.out.2.2 g3⟩
    by_cases y3 : B = 3
    · subst y3
      by_cases c : 0 ≤ y
      · have f1 : 0 ≤ y := by omega
        have f2 : y ≤ 5 := by omega
        have CB : Hid (cfgB ⟨1, 0, 0, y, ([] : List Int)⟩ = true) := by unfold Hid; rcases YY.out with rfl | rfl | rfl | rfl | rfl | rfl | rfl <;> first | rfl | (exfalso; omega)
        have K : Hid (Blk ((v1.alloc (.cells #[.int .i64 0, .int .i64 1, .int .i64 2, .int .i64 0, .int .i64 1, .int .i64 2] 3)).alloc (.cells #[.int .i64 (1), .int .i64 (0), .int .i64 (0), .int .i64 (y), .slice none 0 0] 24)) (v1.heap.size + 1) #[.int .i64 (1), .int .i64 (0), .int .i64 (0), .int .i64 (y), .slice none 0 0] 24 ∧ Ints ((v1.alloc (.cells #[.int .i64 0, .int .i64 1, .int .i64 2, .int .i64 0, .int .i64 1, .int .i64 2] 3)).alloc (.cells #[.int .i64 (1), .int .i64 (0), .int .i64 (0), .int .i64 (y), .slice none 0 0] 24)) (.slice none 0 0) ([] : List Int) ∧ Below w.heap.size w ((v1.alloc (.cells #[.int .i64 0, .int .i64 1, .int .i64 2, .int .i64 0, .int .i64 1, .int .i64 2] 3)).alloc (.cells #[.int .i64 (1), .int .i64 (0), .int .i64 (0), .int .i64 (y), .slice none 0 0] 24))) := ⟨blk_two _ _ _ _, ints_nil _, btrans G1.out (btrans (balloc _ _) (balloc _ _))⟩
        go_wp2_with fail
        refine (rconfig_any (1) (0) (0) (y) (.slice none 0 0) ([] : List Int) ((v1.alloc (.cells #[.int .i64 0, .int .i64 1, .int .i64 2, .int .i64 0, .int .i64 1, .int .i64 2] 3)).alloc (.cells #[.int .i64 (1), .int .i64 (0), .int .i64 (0), .int .i64 (y), .slice none 0 0] 24)) K.out.2.1 (by decide)).mono ?_
        rintro e v2 ⟨he, g2⟩
        rw [CB.out] at he
        subst he
        have K2 : Hid (Blk v2 (v1.heap.size + 1) #[.int .i64 (1), .int .i64 (0), .int .i64 (0), .int .i64 (y), .slice none 0 0] 24 ∧ Ints v2 (.slice none 0 0) ([] : List Int) ∧ Below w.heap.size w v2) := ⟨K.out.1.below g2, K.out.2.1.below g2, btrans K.out.2.2 g2⟩
        have u0 : v2.cell? ⟨v1.heap.size + 1, 0, none⟩ = some (.int .i64 (1)) := K2.out.1.cell 0
        have u1 : v2.cell? ⟨v1.heap.size + 1, 1, none⟩ = some (.int .i64 (0)) := K2.out.1.cell 1
        have u2 : v2.cell? ⟨v1.heap.size + 1, 2, none⟩ = some (.int .i64 (0)) := K2.out.1.cell 2
        have u3 : v2.cell? ⟨v1.heap.size + 1, 3, none⟩ = some (.int .i64 (y)) := K2.out.1.cell 3
        have u4 : v2.cell? ⟨v1.heap.size + 1, 4, none⟩ = some (.slice none 0 0) := K2.out.1.cell 4
        clear g2 K
        go_wp2_with fail
        refine (putCfg_any (1) (0) (0) (y) (.slice none 0 0) ([] : List Int) v2 K2.out.2.1 (by decide)).mono ?_
        rintro e v3 ⟨t, rfl, ht, g3⟩
        have hn := put_yes ht CB.out
        clear ht
        go_wp2_with fail
        go_ret
        exact ⟨ret_bool (by simpa using put_yes2 hn), btrans K2.out.2.2 g3⟩
      · have f1 : ¬ 0 ≤ y := by omega
        have CB : Hid (cfgB ⟨1, 0, 0, y, ([] : List Int)⟩ = false) := by unfold Hid; rcases YY.out with rfl | rfl | rfl | rfl | rfl | rfl | rfl <;> first | rfl | (exfalso; omega)
        have K : Hid (Blk ((v1.alloc (.cells #[.int .i64 0, .int .i64 1, .int .i64 2, .int .i64 0, .int .i64 1, .int .i64 2] 3)).alloc (.cells #[.int .i64 (1), .int .i64 (0), .int .i64 (0), .int .i64 (y), .slice none 0 0] 24)) (v1.heap.size + 1) #[.int .i64 (1), .int .i64 (0), .int .i64 (0), .int .i64 (y), .slice none 0 0] 24 ∧ Ints ((v1.alloc (.cells #[.int .i64 0, .int .i64 1, .int .i64 2, .int .i64 0, .int .i64 1, .int .i64 2] 3)).alloc (.cells #[.int .i64 (1), .int .i64 (0), .int .i64 (0), .int .i64 (y), .slice none 0 0] 24)) (.slice none 0 0) ([] : List Int) ∧ Below w.heap.size w ((v1.alloc (.cells #[.int .i64 0, .int .i64 1, .int .i64 2, .int .i64 0, .int .i64 1, .int .i64 2] 3)).alloc (.cells #[.int .i64 (1), .int .i64 (0), .int .i64 (0), .int .i64 (y), .slice none 0 0] 24))) := ⟨blk_two _ _ _ _, ints_nil _, btrans G1.out (btrans (balloc _ _) (balloc _ _))⟩
        go_wp2_with fail
        refine (rconfig_any (1) (0) (0) (y) (.slice none 0 0) ([] : List Int) ((v1.alloc (.cells #[.int .i64 0, .int .i64 1, .int .i64 2, .int .i64 0, .int .i64 1, .int .i64 2] 3)).alloc (.cells #[.int .i64 (1), .int .i64 (0), .int .i64 (0), .int .i64 (y), .slice none 0 0] 24)) K.out.2.1 (by decide)).mono ?_
        rintro e v2 ⟨he, g2⟩
        rw [CB.out] at he
        subst he
        have K2 : Hid (Blk v2 (v1.heap.size + 1) #[.int .i64 (1), .int .i64 (0), .int .i64 (0), .int .i64 (y), .slice none 0 0] 24 ∧ Ints v2 (.slice none 0 0) ([] : List Int) ∧ Below w.heap.size w v2) := ⟨K.out.1.below g2, K.out.2.1.below g2, btrans K.out.2.2 g2⟩
        have u0 : v2.cell? ⟨v1.heap.size + 1, 0, none⟩ = some (.int .i64 (1)) := K2.out.1.cell 0
        have u1 : v2.cell? ⟨v1.heap.size + 1, 1, none⟩ = some (.int .i64 (0)) := K2.out.1.cell 1
        have u2 : v2.cell? ⟨v1.heap.size + 1, 2, none⟩ = some (.int .i64 (0)) := K2.out.1.cell 2
        have u3 : v2.cell? ⟨v1.heap.size + 1, 3, none⟩ = some (.int .i64 (y)) := K2.out.1.cell 3
        have u4 : v2.cell? ⟨v1.heap.size + 1, 4, none⟩ = some (.slice none 0 0) := K2.out.1.cell 4
        clear g2 K
        go_wp2_with fail
        refine (putCfg_any (1) (0) (0) (y) (.slice none 0 0) ([] : List Int) v2 K2.out.2.1 (by decide)).mono ?_
        rintro e v3 ⟨t, rfl, ht, g3⟩
        obtain rfl := put_no ht CB.out
        clear ht
        go_wp2_with fail
        go_ret
        exact ⟨ret_bool (by first | (simp; done) | (simp; omega)), btrans K2.out.2.2 g3⟩
    by_cases c : 0 ≤ y
    · have f1 : ¬ y < 0 := by omega
      have V2 : Hid ((v1.alloc (.cells #[.int .i64 0, .int .i64 1, .int .i64 2, .int .i64 0, .int .i64 1, .int .i64 2] 3)).heap.size = v1.heap.size + 1) := by unfold Hid; simp
      have O : Hid ((v1.alloc (.cells #[.int .i64 0, .int .i64 1, .int .i64 2, .int .i64 0, .int .i64 1, .int .i64 2] 3)).ownsRow v1.heap.size 3 1 (.slice none 0 0) 0 (([] : List Int).map mkI)) := (World.ownsRow_nil (v1.alloc (.cells #[.int .i64 0, .int .i64 1, .int .i64 2, .int .i64 0, .int .i64 1, .int .i64 2] 3)) v1.heap.size 3 1)
      have CT : Hid (∀ j q, ([.int .i64 y] : List Value)[j]? = some q → (((v1.alloc (.cells #[.int .i64 0, .int .i64 1, .int .i64 2, .int .i64 0, .int .i64 1, .int .i64 2] 3)).alloc (.cells #[.int .i64 1, .int .i64 0, .int .i64 0, .int .i64 0, .slice none 0 0] 24)).alloc (.cells #[.int .i64 y] 3)).cell? ((⟨v1.heap.size + 2, 0, none⟩ : Addr).add j) = some q) := by intro j q hj; have := cell_one ((v1.alloc (.cells #[.int .i64 0, .int .i64 1, .int .i64 2, .int .i64 0, .int .i64 1, .int .i64 2] 3)).alloc (.cells #[.int .i64 1, .int .i64 0, .int .i64 0, .int .i64 0, .slice none 0 0] 24)) (.int .i64 y) 3 j q hj; simpa using this
      have CB : Hid (cfgB ⟨1, 0, 0, 0, ([y] : List Int)⟩ = false) := by unfold Hid; rcases YY.out with rfl | rfl | rfl | rfl | rfl | rfl | rfl <;> rfl
      go_wp2_with (at_builtin; refine wpList_append_own_at _ rfl (.tmp 22) (.tmp 24) 22 rfl v1.heap.size 3 i0 (.int .i64 0) 1 8 Tryd.underlying22 hi0 hz0 hz1 hz2 rfl (by decide) _ _ _ rfl ((O.out.alloc _).alloc _) ⟨v1.heap.size + 2, 0, none⟩ 1 1 [.int .i64 y] rfl rfl CT.out (by intro u hu; simp at hu; subst hu; rfl) (by unfold maxLen; omega) (by omega) (by simp; omega) ?_; intro v7 w7 own7 grow7 nil7 at7; obtain ⟨s7, k7, e7⟩ := own_form own7; subst e7; have L7 : Hid (Blk w7 (v1.heap.size + 1) #[.int .i64 1, .int .i64 0, .int .i64 0, .int .i64 0, .slice none 0 0] 24 ∧ w7.ownsRow v1.heap.size 3 1 (.slice s7 1 k7) 1 (([y] : List Int).map mkI) ∧ Below w.heap.size w w7 ∧ ∀ k, (Value.slice s7 1 k7).ownBlock = some k → k ≠ v1.heap.size + 1) := ⟨V2.out ▸ gnew grow7 (fun h => by have := (O.out.lt _ h).2; omega), own7, btrans G1.out ((balloc v1 _).trans (gbelow grow7 (by simp) (fun k h => (O.out.lt _ h).1))), fun k hk => at7.elim (fun h => by rw [h] at hk; have := (O.out.lt _ hk).2; rw [V2.out] at this; omega) (fun h => by rw [h] at hk; simp at hk; omega)⟩; have u0 : w7.cell? ⟨v1.heap.size + 1, 0, none⟩ = some (.int .i64 1) := L7.out.1.cell 0; have u1 : w7.cell? ⟨v1.heap.size + 1, 1, none⟩ = some (.int .i64 0) := L7.out.1.cell 1; have u2 : w7.cell? ⟨v1.heap.size + 1, 2, none⟩ = some (.int .i64 0) := L7.out.1.cell 2; have u3 : w7.cell? ⟨v1.heap.size + 1, 3, none⟩ = some (.int .i64 0) := L7.out.1.cell 3; have u4 : w7.cell? ⟨v1.heap.size + 1, 4, none⟩ = some (.slice none 0 0) := L7.out.1.cell 4; have fr := L7.out.1.frozen 4; clear own7 grow7 nil7 at7 CT)
      obtain ⟨r8, o8⟩ := L7.out.1.set 4 (.slice s7 1 k7)
      have K : Hid (Blk (w7.setCell ⟨v1.heap.size + 1, 4, none⟩ (.slice s7 1 k7)) (v1.heap.size + 1) #[.int .i64 (1), .int .i64 (0), .int .i64 (0), .int .i64 (0), .slice s7 1 k7] 24 ∧ Ints (w7.setCell ⟨v1.heap.size + 1, 4, none⟩ (.slice s7 1 k7)) (.slice s7 1 k7) ([y] : List Int) ∧ Below w.heap.size w (w7.setCell ⟨v1.heap.size + 1, 4, none⟩ (.slice s7 1 k7))) := ⟨r8, own_ints (own_off L7.out.2.1 o8 (fun k hk => by have := L7.out.2.2.2 k hk; simpa using this)), L7.out.2.2.1.trans (o8.belowOf (by have := L7.out.1.lt; omega) (by simp; omega))⟩
      clear r8 o8 L7
      refine (rconfig_any 1 0 0 0 (.slice s7 1 k7) ([y] : List Int) (w7.setCell ⟨v1.heap.size + 1, 4, none⟩ (.slice s7 1 k7)) K.out.2.1 (by simp)).mono ?_
      rintro e v2 ⟨he, g2⟩
      rw [CB.out] at he
      subst he
      have K2 : Hid (Blk v2 (v1.heap.size + 1) #[.int .i64 (1), .int .i64 (0), .int .i64 (0), .int .i64 (0), .slice s7 1 k7] 24 ∧ Ints v2 (.slice s7 1 k7) ([y] : List Int) ∧ Below w.heap.size w v2) := ⟨K.out.1.below g2, K.out.2.1.below g2, btrans K.out.2.2 g2⟩
      have u0 : v2.cell? ⟨v1.heap.size + 1, 0, none⟩ = some (.int .i64 (1)) := K2.out.1.cell 0
      have u1 : v2.cell? ⟨v1.heap.size + 1, 1, none⟩ = some (.int .i64 (0)) := K2.out.1.cell 1
      have u2 : v2.cell? ⟨v1.heap.size + 1, 2, none⟩ = some (.int .i64 (0)) := K2.out.1.cell 2
      have u3 : v2.cell? ⟨v1.heap.size + 1, 3, none⟩ = some (.int .i64 (0)) := K2.out.1.cell 3
      have u4 : v2.cell? ⟨v1.heap.size + 1, 4, none⟩ = some (.slice s7 1 k7) := K2.out.1.cell 4
      clear g2 K
      go_wp2_with fail
      refine (putCfg_any (1) (0) (0) (0) (.slice s7 1 k7) ([y] : List Int) v2 K2.out.2.1 (by simp)).mono ?_
      rintro e v3 ⟨t, rfl, ht, g3⟩
      obtain rfl := put_no ht CB.out
      clear ht
      go_wp2_with fail
      go_ret
      exact ⟨ret_bool (by first | (simp; done) | (simp; omega)), btrans K2.out.2.2 g3⟩
    · have f1 : y < 0 := by omega
      have V2 : Hid ((v1.alloc (.cells #[.int .i64 0, .int .i64 1, .int .i64 2, .int .i64 0, .int .i64 1, .int .i64 2] 3)).heap.size = v1.heap.size + 1) := by unfold Hid; simp
      have O : Hid ((v1.alloc (.cells #[.int .i64 0, .int .i64 1, .int .i64 2, .int .i64 0, .int .i64 1, .int .i64 2] 3)).ownsRow v1.heap.size 3 1 (.slice none 0 0) 0 (([] : List Int).map mkI)) := (World.ownsRow_nil (v1.alloc (.cells #[.int .i64 0, .int .i64 1, .int .i64 2, .int .i64 0, .int .i64 1, .int .i64 2] 3)) v1.heap.size 3 1)
      have CT : Hid (∀ j q, ([.int .i64 y] : List Value)[j]? = some q → (((v1.alloc (.cells #[.int .i64 0, .int .i64 1, .int .i64 2, .int .i64 0, .int .i64 1, .int .i64 2] 3)).alloc (.cells #[.int .i64 1, .int .i64 0, .int .i64 0, .int .i64 0, .slice none 0 0] 24)).alloc (.cells #[.int .i64 y] 3)).cell? ((⟨v1.heap.size + 2, 0, none⟩ : Addr).add j) = some q) := by intro j q hj; have := cell_one ((v1.alloc (.cells #[.int .i64 0, .int .i64 1, .int .i64 2, .int .i64 0, .int .i64 1, .int .i64 2] 3)).alloc (.cells #[.int .i64 1, .int .i64 0, .int .i64 0, .int .i64 0, .slice none 0 0] 24)) (.int .i64 y) 3 j q hj; simpa using this
      have CB : Hid (cfgB ⟨1, 0, 0, 0, ([y] : List Int)⟩ = false) := by unfold Hid; rcases YY.out with rfl | rfl | rfl | rfl | rfl | rfl | rfl <;> rfl
      go_wp2_with (at_builtin; refine wpList_append_own_at _ rfl (.tmp 22) (.tmp 24) 22 rfl v1.heap.size 3 i0 (.int .i64 0) 1 8 Tryd.underlying22 hi0 hz0 hz1 hz2 rfl (by decide) _ _ _ rfl ((O.out.alloc _).alloc _) ⟨v1.heap.size + 2, 0, none⟩ 1 1 [.int .i64 y] rfl rfl CT.out (by intro u hu; simp at hu; subst hu; rfl) (by unfold maxLen; omega) (by omega) (by simp; omega) ?_; intro v7 w7 own7 grow7 nil7 at7; obtain ⟨s7, k7, e7⟩ := own_form own7; subst e7; have L7 : Hid (Blk w7 (v1.heap.size + 1) #[.int .i64 1, .int .i64 0, .int .i64 0, .int .i64 0, .slice none 0 0] 24 ∧ w7.ownsRow v1.heap.size 3 1 (.slice s7 1 k7) 1 (([y] : List Int).map mkI) ∧ Below w.heap.size w w7 ∧ ∀ k, (Value.slice s7 1 k7).ownBlock = some k → k ≠ v1.heap.size + 1) := ⟨V2.out ▸ gnew grow7 (fun h => by have := (O.out.lt _ h).2; omega), own7, btrans G1.out ((balloc v1 _).trans (gbelow grow7 (by simp) (fun k h => (O.out.lt _ h).1))), fun k hk => at7.elim (fun h => by rw [h] at hk; have := (O.out.lt _ hk).2; rw [V2.out] at this; omega) (fun h => by rw [h] at hk; simp at hk; omega)⟩; have u0 : w7.cell? ⟨v1.heap.size + 1, 0, none⟩ = some (.int .i64 1) := L7.out.1.cell 0; have u1 : w7.cell? ⟨v1.heap.size + 1, 1, none⟩ = some (.int .i64 0) := L7.out.1.cell 1; have u2 : w7.cell? ⟨v1.heap.size + 1, 2, none⟩ = some (.int .i64 0) := L7.out.1.cell 2; have u3 : w7.cell? ⟨v1.heap.size + 1, 3, none⟩ = some (.int .i64 0) := L7.out.1.cell 3; have u4 : w7.cell? ⟨v1.heap.size + 1, 4, none⟩ = some (.slice none 0 0) := L7.out.1.cell 4; have fr := L7.out.1.frozen 4; clear own7 grow7 nil7 at7 CT)
      obtain ⟨r8, o8⟩ := L7.out.1.set 4 (.slice s7 1 k7)
      have K : Hid (Blk (w7.setCell ⟨v1.heap.size + 1, 4, none⟩ (.slice s7 1 k7)) (v1.heap.size + 1) #[.int .i64 (1), .int .i64 (0), .int .i64 (0), .int .i64 (0), .slice s7 1 k7] 24 ∧ Ints (w7.setCell ⟨v1.heap.size + 1, 4, none⟩ (.slice s7 1 k7)) (.slice s7 1 k7) ([y] : List Int) ∧ Below w.heap.size w (w7.setCell ⟨v1.heap.size + 1, 4, none⟩ (.slice s7 1 k7))) := ⟨r8, own_ints (own_off L7.out.2.1 o8 (fun k hk => by have := L7.out.2.2.2 k hk; simpa using this)), L7.out.2.2.1.trans (o8.belowOf (by have := L7.out.1.lt; omega) (by simp; omega))⟩
      clear r8 o8 L7
      refine (rconfig_any 1 0 0 0 (.slice s7 1 k7) ([y] : List Int) (w7.setCell ⟨v1.heap.size + 1, 4, none⟩ (.slice s7 1 k7)) K.out.2.1 (by simp)).mono ?_
      rintro e v2 ⟨he, g2⟩
      rw [CB.out] at he
      subst he
      have K2 : Hid (Blk v2 (v1.heap.size + 1) #[.int .i64 (1), .int .i64 (0), .int .i64 (0), .int .i64 (0), .slice s7 1 k7] 24 ∧ Ints v2 (.slice s7 1 k7) ([y] : List Int) ∧ Below w.heap.size w v2) := ⟨K.out.1.below g2, K.out.2.1.below g2, btrans K.out.2.2 g2⟩
      have u0 : v2.cell? ⟨v1.heap.size + 1, 0, none⟩ = some (.int .i64 (1)) := K2.out.1.cell 0
      have u1 : v2.cell? ⟨v1.heap.size + 1, 1, none⟩ = some (.int .i64 (0)) := K2.out.1.cell 1
      have u2 : v2.cell? ⟨v1.heap.size + 1, 2, none⟩ = some (.int .i64 (0)) := K2.out.1.cell 2
      have u3 : v2.cell? ⟨v1.heap.size + 1, 3, none⟩ = some (.int .i64 (0)) := K2.out.1.cell 3
      have u4 : v2.cell? ⟨v1.heap.size + 1, 4, none⟩ = some (.slice s7 1 k7) := K2.out.1.cell 4
      clear g2 K
      go_wp2_with fail
      refine (putCfg_any (1) (0) (0) (0) (.slice s7 1 k7) ([y] : List Int) v2 K2.out.2.1 (by simp)).mono ?_
      rintro e v3 ⟨t, rfl, ht, g3⟩
      obtain rfl := put_no ht CB.out
      clear ht
      go_wp2_with fail
      go_ret
      exact ⟨ret_bool (by first | (simp; done) | (simp; omega)), btrans K2.out.2.2 g3⟩

set_option maxRecDepth 100000 in
theorem lifted (os : Os) (started : os.Started) (H : Type) (enc : TypeId × Value → H) :
    ReturnsInHanded {} Tryd.checked os 4 .any (fun w args => (Rows.ruleLimitsSpec.pre enc Tryd.prog Tryd.f4 [] false w args ∧ laidMetH Tryd.prog laid5 w) ∧ sizedMet enc Tryd.prog Tryd.f4 (OpenSpec.ofChange Rows.ruleLimitsSpec) false w args)
      (Rows.ruleLimitsSpec.post enc Tryd.prog Tryd.f4 false true false false) := by
  refine returnsInHanded_of_change_and (C := Tryd.checked) (X := fun w _ => laidMetH Tryd.prog laid5 w) (fun _ _ _ hh h => h.of_heap hh) own started (by kernel_rfl) Tryd.func4
    (ChangeSpec.witness_shaped (enc := enc) (C := Tryd.checked) (os := os) (X := fun w _ => laidMetH Tryd.prog laid5 w) false (World.doorLaid Tryd.prog 62 os) #[.int .i64 0, .int .i64 0] 8 rfl (World.shaped_of_RefB (by kernel_rfl) (by kernel_rfl)) (by kernel_rfl) (by kernel_rfl) (by kernel_rfl) (door_met os _)) ?_
  intro W base args ds gs before hval0 hW _ _ hL _
  have hval : ∀ (j : Nat) t v, Tryd.f4.params[j]? = some t → args[j]? = some v → Value.okWide Tryd.prog W .any base t v := hval0
  have hW' := hW
  obtain ⟨p, q, hA0, hV, rfl, hfz, hnd⟩ := hW
  have hA : DataW.TrodAll enc Tryd.prog W 0 (fun _ => true) true Tryd.f4.params.toList args.toList ds p := hA0
  rw [Tryd.params4] at hA hval
  obtain ⟨v0, vs0, d0, ds0, p0, q0, hargs, rfl, rfl, h0, r0⟩ := trodAll_cons hA
  obtain ⟨v1, vs1, d1, ds1, p1, q1, rfl, rfl, rfl, h1, r1⟩ := trodAll_cons r0
  obtain ⟨rfl, rfl, rfl⟩ := trodAll_nil r1
  obtain rfl : args = #[v0, v1] := by cases args; simp_all
  obtain ⟨rfl, rfl⟩ := trodVars_none hV
  obtain ⟨a0, rfl, rfl, rfl, w0⟩ := open_int Tryd.underlying3 (hval 0 3 v0 rfl rfl) h0
  obtain ⟨a1, rfl, rfl, rfl, w1⟩ := open_int Tryd.underlying3 (hval 1 3 v1 rfl rfl) h1
  clear hA0 hval0
  simp only [List.append_nil] at hW'
  refine (walk a0 a1 W (env_of_laid hL) w0 w1).mono fun e W' ⟨he, bel⟩ => ?_
  subst he
  exact ⟨_, rfl, _, _, _, [], _, [], hW', trodAll_mk1 (shut_bool Tryd.underlying4 _), (trodAll_cons_mk (shut_int Tryd.underlying3 w0) (trodAll_cons_mk (shut_int Tryd.underlying3 w1) trodAll_mk0)), rfl, bel.frame _, fun h => by cases h⟩

theorem over : Rows.ruleLimitsRow.holds Tryd.pinned (OpenSpec.ofChange Rows.ruleLimitsSpec) :=
  OpenClaim.holds_of_wide 4 Tryd.f4 rfl rfl rfl rfl rfl rfl rfl ⟨rfl, rfl, rfl, rfl, rfl⟩ rfl rfl rfl rfl rfl (by kernel_rfl) Tryd.func4 (by kernel_rfl)
    (of_decide_eq_true (by kernel_rfl)) (by unfold Func.isWrapper; first | (rw [if_pos (by decide +kernel)]; kernel_rfl) | (rw [if_neg (by decide +kernel)]; exact ⟨rfl, rfl⟩))
    (fun os started H enc _ => lifted os started H enc)

theorem proved : Rows.RuleLimitsCardSaid :=
  Claim7.holds_tied_plain_at .later [] [.data, .data, .data, .sentinel, .sentinel] true (true, "1a6d372db0b00892c861878746c9b402df8e3ee8bbf8bfc1e42d205f4486eca9") true
    over (fun _ h => by cases h) (by kernel_rfl) (fun _ h => by cases h) ruleLimits_row_tie rfl ⟨rfl, rfl⟩ (by kernel_rfl) rfl
    (fun f fn hf hfn => by
      obtain rfl : f = 4 := Option.some.inj ((show Tryd.prog.funcNamed "hortator/hortatorlaw7.RuleLimits" = some 4 by kernel_rfl).symm.trans hf) |>.symm
      obtain rfl : fn = Tryd.f4 := (Option.some.inj (Tryd.func4.symm.trans hfn)).symm
      exact ⟨by kernel_rfl, fun j t ht => by
        rw [Tryd.params4] at ht
        match j, ht with
        | 0, ht => obtain rfl : t = 3 := by simpa using ht.symm
                   exact (show Tryd.prog.wantsStandIn 3 = false by kernel_rfl)
        | 1, ht => obtain rfl : t = 3 := by simpa using ht.symm
                   exact (show Tryd.prog.wantsStandIn 3 = false by kernel_rfl)
        | (_ + 2), ht => simp at ht⟩)
    (by kernel_rfl)
end Go.Proofs.YtfhhpmnohbmnoaaDoor.ruleLimits
