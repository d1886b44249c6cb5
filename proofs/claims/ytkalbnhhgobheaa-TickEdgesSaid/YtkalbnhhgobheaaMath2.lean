/- Plain laws of the order of fractions: no program in sight. -/
import Derived.Test.YtkalbnhhgobheaaMath
namespace Go.Proofs.Ytkalbnhhgobheaa

theorem less_b0 {a b c d : Int} (h : b ≤ 0) : lessB a b c d = false := by unfold lessB; rw [decide_eq_false (by omega)]; rfl
theorem less_d0 {a b c d : Int} (h : d ≤ 0) : lessB a b c d = false := by unfold lessB; rw [decide_eq_false (p := 1 ≤ d) (by omega)]; simp
theorem less_iff {a b c d : Int} (hb : 1 ≤ b) (hd : 1 ≤ d) : lessB a b c d = true ↔ a * d < c * b := by
  unfold lessB; rw [decide_eq_true hb, decide_eq_true hd]; simp
theorem less_irr (a b : Int) : lessB a b a b = false := by
  unfold lessB; rw [decide_eq_false (p := a * b < a * b) (by omega)]; simp

/-- a/b < c/d and c/d < e/f give a/b < e/f, multiplied out. -/
theorem cross_trans {a b c d e f : Int} (hb : 1 ≤ b) (hd : 1 ≤ d) (hf : 1 ≤ f) (h1 : a * d < c * b) (h2 : c * f < e * d) : a * f < e * b := by
  have k1 : a * d * f < c * b * f := Int.mul_lt_mul_of_pos_right h1 (by omega)
  have k2 : c * f * b < e * d * b := Int.mul_lt_mul_of_pos_right h2 (by omega)
  have e1 : c * b * f = c * f * b := Int.mul_right_comm _ _ _
  have e2 : a * d * f = a * f * d := Int.mul_right_comm _ _ _
  have e3 : e * d * b = e * b * d := Int.mul_right_comm _ _ _
  have k3 : a * f * d < e * b * d := by omega
  exact Int.lt_of_mul_lt_mul_right k3 (by omega)
/-- Where neither of a/b, c/d is less than the other, and a/b < e/f, c/d < e/f too. -/
theorem cross_even {a b c d e f : Int} (hb : 1 ≤ b) (hd : 1 ≤ d) (_hf : 1 ≤ f) (h : a * d = c * b) (h2 : a * f < e * b) : c * f < e * d := by
  have k2 : a * f * d < e * b * d := Int.mul_lt_mul_of_pos_right h2 (by omega)
  have e1 : a * f * d = a * d * f := Int.mul_right_comm _ _ _
  have e3 : e * b * d = e * d * b := Int.mul_right_comm _ _ _
  have e4 : c * b * f = c * f * b := Int.mul_right_comm _ _ _
  rw [h] at e1
  have k3 : c * f * b < e * d * b := by omega
  exact Int.lt_of_mul_lt_mul_right k3 (by omega)

theorem less_facts (a b c d e f : Int) (hb : 1 ≤ b) (hd : 1 ≤ d) (hf : 1 ≤ f) :
    ((lessB a b c d && lessB c d a b) = false) ∧
    ((lessB a b c d && lessB c d e f && !lessB a b e f) = false) ∧
    ((!lessB a b c d && !lessB c d a b && lessB a b e f && !lessB c d e f) = false) := by
  have i1 := less_iff (a := a) (c := c) hb hd
  have i2 := less_iff (a := c) (c := a) hd hb
  have i3 := less_iff (a := c) (c := e) hd hf
  have i4 := less_iff (a := a) (c := e) hb hf
  refine ⟨?_, ?_, ?_⟩
  · cases x : lessB a b c d <;> cases v : lessB c d a b <;> first | rfl | skip
    have := i1.1 x; have := i2.1 v; omega
  · cases x : lessB a b c d <;> cases y : lessB c d e f <;> cases z : lessB a b e f <;> first | rfl | skip
    have := cross_trans hb hd hf (i1.1 x) (i3.1 y)
    rw [i4.2 this] at z; cases z
  · cases x : lessB a b c d <;> cases v : lessB c d a b <;> cases z : lessB a b e f <;> cases y : lessB c d e f <;> first | rfl | skip
    have n1 : ¬ a * d < c * b := fun g => by rw [i1.2 g] at x; cases x
    have n2 : ¬ c * b < a * d := fun g => by rw [i2.2 g] at v; cases v
    have := cross_even hb hd hf (show a * d = c * b by omega) (i4.1 z)
    rw [i3.2 this] at y; cases y
end Go.Proofs.Ytkalbnhhgobheaa

namespace Go.Proofs.Ytkalbnhhgobheaa
theorem round_facts (a b c : Int) (hb : 1 ≤ b) (hb2 : b ≤ 2147483648) (ha : -2147483648 ≤ a) (ha2 : a ≤ 2147483648) :
    ∃ D U C : Int, downV a b = D ∧ upV a b = U ∧ downV (-a) b = -U ∧ c.tmod 1048576 = C ∧ -1048576 ≤ C ∧ C ≤ 1048576 ∧ -2251799813685248 ≤ C * b ∧ C * b ≤ 2251799813685248 ∧
      upV (C * b) b = C ∧ downV (C * b) b = C ∧ -2147483648 ≤ D ∧ D ≤ 2147483648 ∧ -2147483648 ≤ U ∧ U ≤ 2147483648 ∧
      D * b ≤ a ∧ -4294967296 ≤ D * b ∧ a ≤ U * b ∧ U * b ≤ 4294967296 ∧ U - D ≤ 1 ∧
      ((U == D) = true ∧ (a.tmod b == 0) = true ∨ (U == D) = false ∧ (a.tmod b == 0) = false) := by
  have eD : downV a b = a / b := if_neg (by omega)
  have eU : upV a b = -((-a) / b) := if_neg (by omega)
  have eN : downV (-a) b = -(-((-a) / b)) := by unfold downV; rw [if_neg (by omega), Int.neg_neg]
  have m1 := Int.mul_ediv_add_emod a b
  have m2 := Int.mul_ediv_add_emod (-a) b
  have r1 := Int.emod_nonneg a (show b ≠ 0 by omega)
  have r2 := Int.emod_nonneg (-a) (show b ≠ 0 by omega)
  have l1 := Int.emod_lt_of_pos a (show 0 < b by omega)
  have l2 := Int.emod_lt_of_pos (-a) (show 0 < b by omega)
  have x1 : a / b * b = b * (a / b) := Int.mul_comm _ _
  have x2 : -((-a) / b) * b = -(b * ((-a) / b)) := by rw [Int.neg_mul, Int.mul_comm]
  have bd : ∀ z : Int, -2147483648 ≤ z → z ≤ 2147483648 → -2147483648 ≤ z / b ∧ z / b ≤ 2147483648 := by
    intro z h1 h2
    constructor
    · rw [Int.le_ediv_iff_mul_le (by omega)]
      have : (1 : Int) * 2147483648 ≤ b * 2147483648 := Int.mul_le_mul_of_nonneg_right hb (by omega)
      omega
    · have : z / b < 2147483649 := by
        rw [Int.ediv_lt_iff_lt_mul (by omega)]
        have : (1 : Int) * 2147483649 ≤ b * 2147483649 := Int.mul_le_mul_of_nonneg_right hb (by omega)
        omega
      omega
  have b1 := bd a ha ha2
  have b2 := bd (-a) (by omega) (by omega)
  have C0 : -1048576 ≤ c.tmod 1048576 ∧ c.tmod 1048576 ≤ 1048576 := by
    have h1 := Int.tmod_lt_of_pos c (show (0 : Int) < 1048576 by omega)
    have h2 := Int.tmod_lt_of_pos (-c) (show (0 : Int) < 1048576 by omega)
    rw [Int.neg_tmod] at h2
    omega
  have cb : -2251799813685248 ≤ c.tmod 1048576 * b ∧ c.tmod 1048576 * b ≤ 2251799813685248 := by
    generalize c.tmod 1048576 = C at *
    have h1 : -1048576 * b ≤ C * b := Int.mul_le_mul_of_nonneg_right C0.1 (by omega)
    have h2 : C * b ≤ 1048576 * b := Int.mul_le_mul_of_nonneg_right C0.2 (by omega)
    omega
  have eu : upV (c.tmod 1048576 * b) b = c.tmod 1048576 := by
    unfold upV; rw [if_neg (by omega), ← Int.neg_mul, Int.mul_ediv_cancel _ (by omega), Int.neg_neg]
  have ed : downV (c.tmod 1048576 * b) b = c.tmod 1048576 := by
    unfold downV; rw [if_neg (by omega), Int.mul_ediv_cancel _ (by omega)]
  refine ⟨_, _, _, eD, eU, eN, rfl, C0.1, C0.2, cb.1, cb.2, eu, ed, b1.1, b1.2, by omega, by omega, by omega, by omega, by omega, by omega, ?_, ?_⟩
  · -- at most one apart: b * (U - D) is less than twice b
    have h : ∀ P Q : Int, b * P = a - a % b → b * Q = -a - (-a) % b → -Q - P ≤ 1 := by
      intro P Q h1 h2
      by_cases g : -Q - P ≤ 1
      · exact g
      · have : b * 2 ≤ b * (-Q - P) := Int.mul_le_mul_of_nonneg_left (by omega) (by omega)
        rw [Int.mul_sub, Int.mul_neg] at this
        omega
    exact h _ _ (by omega) (by omega)
  · by_cases h : a.tmod b = 0
    · left
      have g1 := down_ge hb (show 0 ≤ a.tmod b by omega)
      have g2 := up_le' hb (show a.tmod b ≤ 0 by omega)
      exact ⟨by rw [← g1, ← g2]; simp, by simpa using h⟩
    · right
      refine ⟨?_, by simpa using h⟩
      by_cases g : 0 < a.tmod b
      · have g1 := down_ge hb (show 0 ≤ a.tmod b by omega)
        have g2 := up_gt hb g
        rw [← g1, ← g2]; simp; omega
      · have g1 := down_lt hb (show a.tmod b < 0 by omega)
        have g2 := up_le' hb (show a.tmod b ≤ 0 by omega)
        rw [← g1, ← g2]; simp; omega
end Go.Proofs.Ytkalbnhhgobheaa
