/- The contracts of cmp.Compare, cmp.Or at three numbers, and of the keys' order. -/
import Derived.Test.YtbfbijfedamgaaaRows
import Derived.Test.YtbfbijfedamgaaaHeapMath
import Derived.WalkKit
import Derived.WalkSpells
import Derived.WalkLawsBesides
import Derived.Deep.RegionHeld3
import Derived.BigRegion
import Derived.Deep.QuietTactic
import Derived.BigQuiet
namespace Go.Proofs.Ytbfbijfedamgaaa
open Go.RowKit

theorem ret_int {k : IntKind} {a b : Int} (h : a = b) : Ending.returned (.int k a) = .returned (.int k b) := by rw [h]
theorem ret_bool {a b : Bool} (h : a = b) : Ending.returned (.bool a) = .returned (.bool b) := by rw [h]
theorem below_step {w a b : World} (g : Below w.heap.size w a) (h : Below a.heap.size a b) : Below w.heap.size w b := g.trans (h.mono g.size)

theorem cell_drew (w : World) (p : Addr) : w.drew.cell? p = w.cell? p := rfl
theorem cell_alloc_at {w : World} {b o : Nat} {cs : Array Value} {ty : TypeId} {v : Value} (hb : b = w.heap.size) (hv : cs[o]? = some v) : (w.alloc (.cells cs ty)).cell? ⟨b, o, none⟩ = some v := by
  subst hb
  have h := heap_alloc_new w (.cells cs ty)
  unfold World.cell?
  rw [h]
  simpa using hv

/-- Which of two is less: -1, 0, 1. -/
def cmpV (x y : Int) : Int := if x < y then -1 else if y < x then 1 else 0
theorem cmpV_lt {x y : Int} (h : x < y) : cmpV x y = -1 := by unfold cmpV; rw [if_pos h]
theorem cmpV_gt {x y : Int} (h : y < x) : cmpV x y = 1 := by unfold cmpV; rw [if_neg (by omega), if_pos h]
theorem cmpV_eq {x y : Int} (h : x = y) : cmpV x y = 0 := by unfold cmpV; rw [if_neg (by omega), if_neg (by omega)]

set_option maxHeartbeats 400000 in
theorem isNaN_any (x : Int) (w : World) :
    Calls Try.prog 124 #[.int .i64 x] w fun e w' => e = .returned (.bool false) ∧ w' = w := by
  go_enter Try.func124, Try.ntmps124
  go_wp2
  go_ret
  exact ⟨rfl, rfl⟩

set_option maxHeartbeats 400000 in
theorem compare_any (x y : Int) (w : World) :
    Calls Try.prog 120 #[.int .i64 x, .int .i64 y] w fun e w' => e = .returned (.int .i64 (cmpV x y)) ∧ w' = w := by
  rcases Int.lt_trichotomy x y with h | h | h
  · have K : Hid (cmpV x y = -1) := cmpV_lt h
    go_enter Try.func120, Try.ntmps120
    go_wp2_with (go_at_call 124; refine (isNaN_any _ _).mono ?_; rintro e w' ⟨rfl, rfl⟩)
    go_ret
    exact ⟨ret_int K.out.symm, rfl⟩
  · subst h
    have K : Hid (cmpV x x = 0) := cmpV_eq rfl
    go_enter Try.func120, Try.ntmps120
    go_wp2_with (go_at_call 124; refine (isNaN_any _ _).mono ?_; rintro e w' ⟨rfl, rfl⟩)
    go_ret
    exact ⟨ret_int K.out.symm, rfl⟩
  · have K : Hid (cmpV x y = 1) := cmpV_gt h
    have h' : ¬ x < y := by omega
    go_enter Try.func120, Try.ntmps120
    go_wp2_with (go_at_call 124; refine (isNaN_any _ _).mono ?_; rintro e w' ⟨rfl, rfl⟩)
    go_ret
    exact ⟨ret_int K.out.symm, rfl⟩

/-- The first that is not nought. -/
def orV (x y z : Int) : Int := if x ≠ 0 then x else if y ≠ 0 then y else z

set_option maxHeartbeats 400000 in
theorem or_three (b : Nat) (x y z : Int) (w : World) (h0 : w.cell? ⟨b, 0, none⟩ = some (.int .i64 x)) (h1 : w.cell? ⟨b, 1, none⟩ = some (.int .i64 y)) (h2 : w.cell? ⟨b, 2, none⟩ = some (.int .i64 z)) :
    Calls Try.prog 119 #[.slice (some ⟨b, 0, none⟩) 3 3] w fun e w' => e = .returned (.int .i64 (orV x y z)) ∧ w' = w := by
  go_enter Try.func119, Try.ntmps119
  go_wp2
  go_loop [8] (fun i => ∃ k : Nat, k ≤ 3 ∧ i = .int .i64 k ∧ (1 ≤ k → x = 0) ∧ (2 ≤ k → y = 0) ∧ (3 ≤ k → z = 0)) (fun i => 3 - (intOf i).toNat)
  case atStart => exact ⟨0, by omega, rfl, by omega, by omega, by omega⟩
  case round =>
    obtain ⟨k, hk, rfl, e0, e1, e2⟩ := hrel
    rcases (by omega : k = 0 ∨ k = 1 ∨ k = 2 ∨ k = 3) with rfl | rfl | rfl | rfl
    · by_cases hx : x = 0
      · go_wp2
        go_round
        case rel => exact ⟨1, by omega, by go_num, fun _ => hx, by omega, by omega⟩
        case measure => simp [intOf]
      · go_wp2
        go_ret
        exact ⟨ret_int (by unfold orV; rw [if_pos hx]), rfl⟩
    · have hx := e0 (by omega)
      by_cases hy : y = 0
      · go_wp2
        go_round
        case rel => exact ⟨2, by omega, by go_num, fun _ => hx, fun _ => hy, by omega⟩
        case measure => simp [intOf]
      · go_wp2
        go_ret
        exact ⟨ret_int (by unfold orV; rw [if_neg (by omega), if_pos hy]), rfl⟩
    · have hx := e0 (by omega)
      have hy := e1 (by omega)
      by_cases hz : z = 0
      · go_wp2
        go_round
        case rel => exact ⟨3, by omega, by go_num, fun _ => hx, fun _ => hy, fun _ => hz⟩
        case measure => simp [intOf]
      · go_wp2
        go_ret
        exact ⟨ret_int (by unfold orV; rw [if_neg (by omega), if_neg (by omega)]), rfl⟩
    · have hx := e0 (by omega)
      have hy := e1 (by omega)
      have hz := e2 (by omega)
      go_wp2
      go_ret
      exact ⟨ret_int (by unfold orV; rw [if_neg (by omega), if_neg (by omega)]), rfl⟩

/-- The order of two keys. -/
def ltB (a b c d e f : Int) : Bool := decide (a < d ∨ a = d ∧ (b < e ∨ b = e ∧ c < f))
theorem ltB_or (a b c d e f : Int) : decide (orV (cmpV a d) (cmpV b e) (cmpV c f) < 0) = ltB a b c d e f := by
  unfold ltB orV cmpV
  rw [decide_eq_decide]
  split <;> split <;> (try split) <;> (try split) <;> (try split) <;> (try split) <;> (try split) <;> omega

set_option maxHeartbeats 1000000 in
theorem before_any (a b c d e f : Int) (w : World) :
    Calls Try.prog 105 #[.agg #[.int .i64 a, .int .i64 b, .int .i64 c], .agg #[.int .i64 d, .int .i64 e, .int .i64 f]] w fun r w' => r = .returned (.bool (ltB a b c d e f)) ∧ Below w.heap.size w w' := by
  have K : Hid (decide (orV (cmpV a d) (cmpV b e) (cmpV c f) < 0) = ltB a b c d e f) := ltB_or a b c d e f
  go_enter Try.func105, Try.ntmps105
  go_wp2
  go_region_held3 (fun w' => w'.cell? ⟨w.heap.size, 0, none⟩ = some (.int .i64 a) ∧ w'.cell? ⟨w.heap.size, 1, none⟩ = some (.int .i64 b) ∧ w'.cell? ⟨w.heap.size, 2, none⟩ = some (.int .i64 c) ∧ w'.cell? ⟨w.heap.size + 1, 0, none⟩ = some (.int .i64 d) ∧ w'.cell? ⟨w.heap.size + 1, 1, none⟩ = some (.int .i64 e) ∧ w'.cell? ⟨w.heap.size + 1, 2, none⟩ = some (.int .i64 f)) (go_keep)
    (first | (go_at_call 120; refine (compare_any _ _ _).mono ?_; rintro e w' ⟨rfl, rfl⟩) | (go_at_call 119; refine (or_three (w.heap.size + 1 + 1) (cmpV a d) (cmpV b e) (cmpV c f) _ (by rw [cell_drew]; exact cell_alloc_at (by simp) rfl) (by rw [cell_drew]; exact cell_alloc_at (by simp) rfl) (by rw [cell_drew]; exact cell_alloc_at (by simp) rfl)).mono ?_; rintro e w' ⟨rfl, rfl⟩))
  all_goals go_wp2
  all_goals go_ret
  all_goals exact ⟨ret_bool K.out, ((((Below.refl _ _).alloc (Nat.le_refl _) _).alloc (by simp) _).alloc (by simp; omega) _).drew⟩
end Go.Proofs.Ytbfbijfedamgaaa
