/- The contract of the laws' own beginning; tick.Sum of three and of four times that the caller wrote out. -/
import Derived.Test.YtcgmbfpmcldfdaaGreatDoorTSum
namespace Go.Proofs.YtcgmbfpmcldfdaaGreatDoor.T
open Go.RowKit

theorem below_step {w a b : World} (g : Below w.heap.size w a) (h : Below a.heap.size a b) : Below w.heap.size w b := g.trans (h.mono g.size)
theorem allIn_cons {x : Int} {l : List Int} (h1 : -9223372036854775808 ≤ x) (h2 : x ≤ 9223372036854775807) (h : AllIn l) : AllIn (x :: l) := by
  intro i
  cases i with
  | zero => exact ⟨h1, h2⟩
  | succ n => simpa using h n
theorem allIn_nil : AllIn [] := fun i => by simp

theorem sum_three (x y z : Int) (w : World) (x0 : -9223372036854775808 ≤ x) (x1 : x ≤ 9223372036854775807) (y0 : -9223372036854775808 ≤ y) (y1 : y ≤ 9223372036854775807) (z0 : -9223372036854775808 ≤ z) (z1 : z ≤ 9223372036854775807) :
    Calls Tryz.prog 64 #[.slice (some ⟨w.heap.size, 0, none⟩) 3 3] (w.alloc (.cells #[.int .i64 x, .int .i64 y, .int .i64 z] 2)) fun e w' =>
      e = .returned (.tuple #[.int .i64 (fitV (x + (y + z))), .bool (fitB (x + (y + z)))]) ∧ w' = (w.alloc (.cells #[.int .i64 x, .int .i64 y, .int .i64 z] 2)) := by
  have h := sum_any (some ⟨w.heap.size, 0, none⟩) 3 [x, y, z] (w.alloc (.cells #[.int .i64 x, .int .i64 y, .int .i64 z] 2))
    (.inr ⟨_, _, rfl, fun i hi => by
      match i, hi with
      | 0, _ => simp
      | 1, _ => simp
      | 2, _ => simp⟩) (allIn_cons x0 x1 (allIn_cons y0 y1 (allIn_cons z0 z1 allIn_nil))) (by simp)
  have e : sumL [x, y, z] = x + (y + z) := by simp [sumL]
  rw [e] at h
  exact h
theorem fv1 : fitV 9223372036854775808 = 0 := fitV_no (.inr (by omega))
theorem fb1 : fitB 9223372036854775808 = false := fitB_no (.inr (by omega))
theorem fv2 : fitV (-15) = -15 := fitV_yes (by omega) (by omega)
theorem fb2 : fitB (-15) = true := fitB_yes (by omega) (by omega)
theorem fv3 : fitV 4611686018427387904 = 4611686018427387904 := fitV_yes (by omega) (by omega)
theorem fb3 : fitB 4611686018427387904 = true := fitB_yes (by omega) (by omega)
theorem u72 : upV 7 2 = 4 := by decide
theorem d72 : downV (-7) 2 = -4 := by decide
theorem l1325 : lessB 1 3 2 5 = true := by decide
theorem l1025 : lessB 1 0 2 5 = false := by decide

set_option maxHeartbeats 400000 in
theorem begun_any (w : World) :
    Calls Tryz.prog 50 #[] w fun e w' => e = .returned (.bool true) ∧ Below w.heap.size w w' := by
  have fv1 := fv1
  have fb1 := fb1
  have fv2 := fv2
  have fb2 := fb2
  have fv3 := fv3
  have fb3 := fb3
  have u72 := u72
  have d72 := d72
  have l1 := l1325
  have l2 := l1025
  go_enter Tryz.func50, Tryz.ntmps50
  go_wp2_with (first | (go_at_call 62; refine (add_any _ _ _ (by omega) (by omega) (by omega) (by omega)).mono ?_; rintro e w' ⟨rfl, rfl⟩) | (go_at_call 63; refine (mul_any _ _ _ (by omega) (by omega) (by omega) (by omega)).mono ?_; rintro e w' ⟨rfl, rfl⟩) | (go_at_call 64; refine (sum_three _ _ _ _ (by omega) (by omega) (by omega) (by omega) (by omega) (by omega)).mono ?_; rintro e w' ⟨rfl, rfl⟩) | (go_at_call 26; refine (up_any _ _ _ (by omega) (by omega) (by omega)).mono ?_; rintro e w' ⟨rfl, rfl⟩) | (go_at_call 65; refine (down_any _ _ _ (by omega) (by omega) (by omega)).mono ?_; rintro e w' ⟨rfl, rfl⟩) | (go_at_call 66; refine (less_any _ _ _ _ _ (by omega) (by omega) (by omega) (by omega) (by omega) (by omega)).mono ?_; rintro e w' ⟨rfl, rfl⟩))
  go_ret
  exact ⟨rfl, (Below.refl _ _).alloc (Nat.le_refl _) _⟩

set_option maxHeartbeats 400000 in
theorem Begun_any (w : World) :
    Calls Tryz.prog 31 #[] w fun e w' => e = .returned (.bool true) ∧ Below w.heap.size w w' := by
  go_enter Tryz.func31, Tryz.ntmps31
  go_wp2_with (go_at_call 50; refine (begun_any _).mono ?_; rintro e w1 ⟨rfl, g1⟩)
  go_ret
  exact ⟨rfl, g1⟩
end Go.Proofs.YtcgmbfpmcldfdaaGreatDoor.T
