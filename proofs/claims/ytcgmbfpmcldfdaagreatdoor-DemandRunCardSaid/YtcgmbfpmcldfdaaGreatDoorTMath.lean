/- Plain arithmetic for the contracts of package tick: no program in sight. -/
import Derived.Laws.BitsLemmas
namespace Go.Proofs.YtcgmbfpmcldfdaaGreatDoor.T

/-- Does an int64 have it? -/
def fitB (x : Int) : Bool := decide (-9223372036854775808 ≤ x) && decide (x ≤ 9223372036854775807)
/-- It, or nought. -/
def fitV (x : Int) : Int := if fitB x = true then x else 0
theorem fitB_yes {x : Int} (h1 : -9223372036854775808 ≤ x) (h2 : x ≤ 9223372036854775807) : fitB x = true := by
  simp [fitB, h1, h2]
theorem fitB_no {x : Int} (h : x < -9223372036854775808 ∨ 9223372036854775807 < x) : fitB x = false := by
  unfold fitB
  rcases h with h | h
  · rw [decide_eq_false (by omega)]; rfl
  · rw [decide_eq_false (p := x ≤ 9223372036854775807) (by omega), Bool.and_false]
theorem fitV_yes {x : Int} (h1 : -9223372036854775808 ≤ x) (h2 : x ≤ 9223372036854775807) : fitV x = x := by
  unfold fitV; rw [if_pos (fitB_yes h1 h2)]
theorem fitV_no {x : Int} (h : x < -9223372036854775808 ∨ 9223372036854775807 < x) : fitV x = 0 := by
  unfold fitV; rw [fitB_no h]; rfl
theorem fitV_bd (x : Int) : -9223372036854775808 ≤ fitV x ∧ fitV x ≤ 9223372036854775807 := by
  by_cases h : x < -9223372036854775808 ∨ 9223372036854775807 < x
  · rw [fitV_no h]; omega
  · rw [fitV_yes (by omega) (by omega)]; omega
theorem fitB_bd {x : Int} (h : fitB x = true) : -9223372036854775808 ≤ x ∧ x ≤ 9223372036854775807 := by
  simpa [fitB] using h

/-! ### quotients -/
theorem t_eq (a b : Int) : b * a.tdiv b + a.tmod b = a := Int.mul_tdiv_add_tmod a b
theorem t_lt (a b : Int) (hb : 1 ≤ b) : -b < a.tmod b ∧ a.tmod b < b := by
  have h1 := Int.tmod_lt_of_pos a (show 0 < b by omega)
  have h2 := Int.tmod_lt_of_pos (-a) (show 0 < b by omega)
  rw [Int.neg_tmod] at h2
  omega
theorem ediv_of {a b q r : Int} (hb : 1 ≤ b) (h : r + b * q = a) (h0 : 0 ≤ r) (h1 : r < b) : a / b = q :=
  ((Int.ediv_emod_unique (show 0 < b by omega)).2 ⟨h, h0, h1⟩).1
theorem emod_of {a b q r : Int} (hb : 1 ≤ b) (h : r + b * q = a) (h0 : 0 ≤ r) (h1 : r < b) : a % b = r :=
  ((Int.ediv_emod_unique (show 0 < b by omega)).2 ⟨h, h0, h1⟩).2
theorem down_lt {a b : Int} (hb : 1 ≤ b) (h : a.tmod b < 0) : a.tdiv b - 1 = a / b := by
  have e := t_eq a b
  have l := t_lt a b hb
  refine (ediv_of (r := a.tmod b + b) hb ?_ (by omega) (by omega)).symm
  rw [Int.mul_sub]; omega
theorem down_ge {a b : Int} (hb : 1 ≤ b) (h : 0 ≤ a.tmod b) : a.tdiv b = a / b := by
  have e := t_eq a b
  have l := t_lt a b hb
  exact (ediv_of (r := a.tmod b) hb (by omega) (by omega) (by omega)).symm
theorem up_gt {a b : Int} (hb : 1 ≤ b) (h : 0 < a.tmod b) : a.tdiv b + 1 = -((-a) / b) := by
  have e := t_eq a b
  have l := t_lt a b hb
  have : (-a) / b = -(a.tdiv b + 1) := ediv_of (r := b - a.tmod b) hb (by rw [Int.mul_neg, Int.mul_add]; omega) (by omega) (by omega)
  rw [this]; omega
theorem up_le' {a b : Int} (hb : 1 ≤ b) (h : a.tmod b ≤ 0) : a.tdiv b = -((-a) / b) := by
  have e := t_eq a b
  have l := t_lt a b hb
  have : (-a) / b = -(a.tdiv b) := ediv_of (r := - a.tmod b) hb (by rw [Int.mul_neg]; omega) (by omega) (by omega)
  rw [this]; omega
theorem div_bd {a b : Int} (hb : 1 ≤ b) (h1 : -9223372036854775808 ≤ a) (h2 : a ≤ 9223372036854775807) : -9223372036854775808 ≤ a / b ∧ a / b ≤ 9223372036854775807 := by
  constructor
  · rw [Int.le_ediv_iff_mul_le (by omega)]
    have : (1 : Int) * 9223372036854775808 ≤ b * 9223372036854775808 := Int.mul_le_mul_of_nonneg_right hb (by omega)
    have e : (-9223372036854775808 : Int) * b = -(b * 9223372036854775808) := by rw [Int.neg_mul, Int.mul_comm]
    omega
  · have : a / b < 9223372036854775808 := by
      rw [Int.ediv_lt_iff_lt_mul (by omega)]
      have : (1 : Int) * 9223372036854775808 ≤ b * 9223372036854775808 := Int.mul_le_mul_of_nonneg_right hb (by omega)
      have e : (9223372036854775808 : Int) * b = b * 9223372036854775808 := Int.mul_comm _ _
      omega
    omega
theorem up_bd {a b : Int} (hb : 1 ≤ b) (h1 : -9223372036854775808 ≤ a) (h2 : a ≤ 9223372036854775807) : -9223372036854775808 ≤ -((-a) / b) ∧ -((-a) / b) ≤ 9223372036854775807 := by
  have g : -((-a)/b) < 9223372036854775808 := by
    have : -9223372036854775807 ≤ (-a)/b := by
      rw [Int.le_ediv_iff_mul_le (by omega)]
      have : (1 : Int) * 9223372036854775807 ≤ b * 9223372036854775807 := Int.mul_le_mul_of_nonneg_right hb (by omega)
      have e : (-9223372036854775807 : Int) * b = -(b * 9223372036854775807) := by rw [Int.neg_mul, Int.mul_comm]
      omega
    omega
  have g2 : (-a)/b < 9223372036854775809 := by
    rw [Int.ediv_lt_iff_lt_mul (by omega)]
    have : (1 : Int) * 9223372036854775809 ≤ b * 9223372036854775809 := Int.mul_le_mul_of_nonneg_right hb (by omega)
    have e : (9223372036854775809 : Int) * b = b * 9223372036854775809 := Int.mul_comm _ _
    omega
  omega

/-- a / b, rounded up, rounded down; nought where b is not above nought. -/
def upV (a b : Int) : Int := if b ≤ 0 then 0 else -((-a) / b)
def downV (a b : Int) : Int := if b ≤ 0 then 0 else a / b

/-! ### which products fit -/
theorem fit_pp {a b : Int} (_ha : 1 ≤ a) (hb : 1 ≤ b) : a ≤ 9223372036854775807 / b ↔ a * b ≤ 9223372036854775807 :=
  Int.le_ediv_iff_mul_le (by omega)
theorem pp_pos {a b : Int} (ha : 1 ≤ a) (hb : 1 ≤ b) : 1 ≤ a * b := by
  have := Int.mul_pos (show 0 < a by omega) (show 0 < b by omega)
  omega
theorem min_tdiv {a : Int} (_ha : 1 ≤ a) : (-9223372036854775808 : Int).tdiv a = -(9223372036854775808 / a) := by
  rw [Int.neg_tdiv, Int.tdiv_eq_ediv_of_nonneg (by omega)]
theorem fit_pm {a b : Int} (ha : 1 ≤ a) : (-9223372036854775808 : Int).tdiv a ≤ b ↔ -9223372036854775808 ≤ a * b := by
  rw [min_tdiv ha]
  have h := Int.le_ediv_iff_mul_le (a := -b) (b := 9223372036854775808) (c := a) (by omega)
  have e : -b * a = -(a * b) := by rw [Int.neg_mul, Int.mul_comm]
  rw [e] at h
  constructor
  · intro g; have := h.1 (by omega); omega
  · intro g; have := h.2 (by omega); omega
theorem max_tdiv {b : Int} (_hb : b ≤ -1) : (9223372036854775807 : Int).tdiv b = -(9223372036854775807 / (-b)) := by
  have : b = -(-b) := by omega
  rw [this, Int.tdiv_neg, Int.tdiv_eq_ediv_of_nonneg (by omega), Int.neg_neg]
theorem fit_mm {a b : Int} (hb : b ≤ -1) : (9223372036854775807 : Int).tdiv b ≤ a ↔ a * b ≤ 9223372036854775807 := by
  rw [max_tdiv hb]
  have h := Int.le_ediv_iff_mul_le (a := -a) (b := 9223372036854775807) (c := -b) (by omega)
  rw [Int.neg_mul_neg] at h
  constructor
  · intro g; exact h.1 (by omega)
  · intro g; have := h.2 g; omega
theorem pm_neg {a b : Int} (ha : 1 ≤ a) (hb : b ≤ -1) : a * b ≤ -1 := by
  have := pp_pos ha (show 1 ≤ -b by omega)
  rw [Int.mul_neg] at this
  omega
theorem mm_pos {a b : Int} (ha : a ≤ -1) (hb : b ≤ -1) : 1 ≤ a * b := by
  have := pp_pos (show 1 ≤ -a by omega) (show 1 ≤ -b by omega)
  rw [Int.neg_mul_neg] at this
  omega

/-! ### fractions -/
def lessB (a b c d : Int) : Bool := decide (1 ≤ b) && (decide (1 ≤ d) && decide (a * d < c * b))
theorem less_cross {a b c d : Int} (hb : 1 ≤ b) (hd : 1 ≤ d) :
    a * d < c * b ↔ (a / b < c / d ∨ a / b = c / d ∧ (a % b) * d < (c % d) * b) := by
  have ea := Int.mul_ediv_add_emod a b
  have ec := Int.mul_ediv_add_emod c d
  have ra := Int.emod_nonneg a (show b ≠ 0 by omega)
  have rc := Int.emod_nonneg c (show d ≠ 0 by omega)
  have la := Int.emod_lt_of_pos a (show 0 < b by omega)
  have lc := Int.emod_lt_of_pos c (show 0 < d by omega)
  generalize a / b = p at *
  generalize c / d = q at *
  generalize a % b = r at *
  generalize c % d = s at *
  subst ea
  subst ec
  have e1 : (b * p + r) * d = b * d * p + r * d := by rw [Int.add_mul, Int.mul_right_comm]
  have e2 : (d * q + s) * b = b * d * q + s * b := by rw [Int.add_mul, Int.mul_right_comm, Int.mul_comm d b]
  rw [e1, e2]
  have hbd : 0 < b * d := Int.mul_pos (by omega) (by omega)
  have x1 : r * d < b * d := Int.mul_lt_mul_of_pos_right la (by omega)
  have x2 : s * b < d * b := Int.mul_lt_mul_of_pos_right lc (by omega)
  rw [Int.mul_comm d b] at x2
  have x3 : 0 ≤ r * d := Int.mul_nonneg ra (by omega)
  have x4 : 0 ≤ s * b := Int.mul_nonneg rc (by omega)
  rcases Int.lt_trichotomy p q with h | h | h
  · have : b * d * (p + 1) ≤ b * d * q := Int.mul_le_mul_of_nonneg_left (by omega) (by omega)
    rw [Int.mul_add] at this
    constructor
    · intro _; exact .inl h
    · intro _; omega
  · subst h
    constructor
    · intro g; exact .inr ⟨rfl, by omega⟩
    · rintro (g | ⟨_, g⟩) <;> omega
  · have : b * d * (q + 1) ≤ b * d * p := Int.mul_le_mul_of_nonneg_left (by omega) (by omega)
    rw [Int.mul_add] at this
    constructor
    · intro g; omega
    · rintro (g | ⟨g, _⟩) <;> omega

/-! ### halves -/
theorem half_mul_le {a b : Int} (h0 : 0 ≤ a) (ha : a ≤ 4294967295) (g0 : 0 ≤ b) (hb : b ≤ 4294967295) : 0 ≤ a * b ∧ a * b ≤ 18446744065119617025 := by
  refine ⟨Int.mul_nonneg h0 g0, ?_⟩
  have h1 : a * b ≤ 4294967295 * b := Int.mul_le_mul_of_nonneg_right ha g0
  omega
theorem split_mul (x1 x0 y1 y0 : Int) : (x1 * 4294967296 + x0) * (y1 * 4294967296 + y0) = x1 * y1 * 18446744073709551616 + (x1 * y0 + x0 * y1) * 4294967296 + x0 * y0 := by
  have e1 : x1 * 4294967296 * (y1 * 4294967296) = x1 * y1 * 18446744073709551616 := by
    rw [Int.mul_assoc, Int.mul_left_comm 4294967296 y1, ← Int.mul_assoc]; rfl
  have e2 : x1 * 4294967296 * y0 = x1 * y0 * 4294967296 := Int.mul_right_comm _ _ _
  have e3 : x0 * (y1 * 4294967296) = x0 * y1 * 4294967296 := (Int.mul_assoc _ _ _).symm
  rw [Int.add_mul, Int.mul_add, Int.mul_add, e1, e2, e3, Int.add_mul]
  omega

theorem and_mask (n : Int) : bits .and .i64 n 4294967295 = n % 4294967296 := by
  have h127 : (BitVec.ofInt 64 4294967295).toNat = 2 ^ 32 - 1 := by decide
  have key : (BitVec.ofInt 64 n &&& BitVec.ofInt 64 4294967295).toNat = (n % ((2 ^ 64 : Nat) : Int)).toNat % 2 ^ 32 := by
    rw [BitVec.toNat_and, BitVec.toNat_ofInt, h127, Nat.and_two_pow_sub_one_eq_mod]
  show IntKind.i64.wrap ((BitVec.ofInt 64 n &&& BitVec.ofInt 64 4294967295).toNat : Nat) = n % 4294967296
  rw [key, IntKind.wrap_i64]
  omega
theorem and_mask62 (n : Int) : bits .and .i64 n 4611686018427387903 = n % 4611686018427387904 := by
  have h127 : (BitVec.ofInt 64 4611686018427387903).toNat = 2 ^ 62 - 1 := by decide
  have key : (BitVec.ofInt 64 n &&& BitVec.ofInt 64 4611686018427387903).toNat = (n % ((2 ^ 64 : Nat) : Int)).toNat % 2 ^ 62 := by
    rw [BitVec.toNat_and, BitVec.toNat_ofInt, h127, Nat.and_two_pow_sub_one_eq_mod]
  show IntKind.i64.wrap ((BitVec.ofInt 64 n &&& BitVec.ofInt 64 4611686018427387903).toNat : Nat) = n % 4611686018427387904
  rw [key, IntKind.wrap_i64]
  omega
theorem and_mask_u (n : Int) (h0 : 0 ≤ n) (h1 : n ≤ 18446744073709551615) : bits .and .u64 n 4294967295 = n % 4294967296 := by
  have h127 : (BitVec.ofInt 64 4294967295).toNat = 2 ^ 32 - 1 := by decide
  have key : (BitVec.ofInt 64 n &&& BitVec.ofInt 64 4294967295).toNat = (n % ((2 ^ 64 : Nat) : Int)).toNat % 2 ^ 32 := by
    rw [BitVec.toNat_and, BitVec.toNat_ofInt, h127, Nat.and_two_pow_sub_one_eq_mod]
  have wu : ∀ n : Int, IntKind.u64.wrap n = n % 18446744073709551616 := fun n => by simp [IntKind.wrap, IntKind.bits, IntKind.signed]
  show IntKind.u64.wrap ((BitVec.ofInt 64 n &&& BitVec.ofInt 64 4294967295).toNat : Nat) = n % 4294967296
  rw [key, wu]
  omega
theorem or_join (h l : Int) (h0 : 0 ≤ l) (h1 : l < 4294967296) (h2 : -2147483648 ≤ h) (h3 : h ≤ 2147483647) : bits .or .i64 (h * 4294967296) l = h * 4294967296 + l := by
  have k1 : (BitVec.ofInt 64 (h * 4294967296)).toNat = 2 ^ 32 * (h % 4294967296).toNat := by
    rw [BitVec.toNat_ofInt]; omega
  have k2 : (BitVec.ofInt 64 l).toNat = l.toNat := by
    rw [BitVec.toNat_ofInt]; omega
  have key : (BitVec.ofInt 64 (h * 4294967296) ||| BitVec.ofInt 64 l).toNat = 2 ^ 32 * (h % 4294967296).toNat + l.toNat := by
    rw [BitVec.toNat_or, k1, k2, Nat.two_pow_add_eq_or_of_lt (by omega)]
  show IntKind.i64.wrap ((BitVec.ofInt 64 (h * 4294967296) ||| BitVec.ofInt 64 l).toNat : Nat) = h * 4294967296 + l
  rw [key, IntKind.wrap_i64]
  omega

/-! ### sums -/
def sumL : List Int → Int
  | [] => 0
  | x :: r => x + sumL r
theorem sumL_append (l m : List Int) : sumL (l ++ m) = sumL l + sumL m := by
  induction l with
  | nil => simp [sumL]
  | cons x r ih => simp only [List.cons_append, sumL, ih]; omega
theorem sumL_take_succ (l : List Int) (k : Nat) (h : k < l.length) : sumL (l.take (k + 1)) = sumL (l.take k) + l.getD k 0 := by
  rw [List.take_succ_eq_append_getElem h, sumL_append]
  simp [sumL, List.getD_eq_getElem?_getD, h]
theorem sumL_rot (l : List Int) (k : Nat) : sumL (l.drop k ++ l.take k) = sumL l := by
  rw [sumL_append, Int.add_comm, ← sumL_append, List.take_append_drop]

/-- A whole number as a sign and a size in two words. -/
def IsW (n : Bool) (h l x : Int) : Prop :=
  0 ≤ h ∧ h ≤ 18446744073709551615 ∧ 0 ≤ l ∧ l ≤ 18446744073709551615 ∧
  (n = true ∧ x < 0 ∧ x = -(h * 18446744073709551616 + l) ∨ n = false ∧ 0 ≤ x ∧ x = h * 18446744073709551616 + l)

end Go.Proofs.YtcgmbfpmcldfdaaGreatDoor.T
