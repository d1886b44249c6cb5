/- Plain arithmetic for the contracts of package tick: no program in sight. -/
import Derived.Laws.BitsLemmas
import Derived.Test.YtakdliecjfeedaaGreatDoorRows
import Derived.WalkKit
import Derived.WalkSpells
import Derived.WalkLawsBesides
namespace Go.Proofs.YtakdliecjfeedaaGreatDoor.T

/-- Does an int64 have it? -/
def fitB (x : Int) : Bool := decide (-9223372036854775808 ≤ x) && decide (x ≤ 9223372036854775807)
/-- It, or nought. -/
def fitV (x : Int) : Int := if fitB x = true then x else 0
theorem fitB_yes {x : Int} (h1 : -9223372036854775808 ≤ x) (h2 : x ≤ 9223372036854775807) : fitB x = true := by
  simp [fitB, h1, h2]
theorem fitB_no {x : Int} (h : x < -9223372036854775808 ∨ 9223372036854775807 < x) : fitB x = false := by
  unfold fitB
  rcases h with h | h
  · rw [decide_eq_false (by omega)]; rfl
  · rw [decide_eq_false (p := x ≤ 9223372036854775807) (by omega), Bool.and_false]
theorem fitV_yes {x : Int} (h1 : -9223372036854775808 ≤ x) (h2 : x ≤ 9223372036854775807) : fitV x = x := by
  unfold fitV; rw [if_pos (fitB_yes h1 h2)]
theorem fitV_no {x : Int} (h : x < -9223372036854775808 ∨ 9223372036854775807 < x) : fitV x = 0 := by
  unfold fitV; rw [fitB_no h]; rfl
theorem fitV_bd (x : Int) : -9223372036854775808 ≤ fitV x ∧ fitV x ≤ 9223372036854775807 := by
  by_cases h : x < -9223372036854775808 ∨ 9223372036854775807 < x
  · rw [fitV_no h]; omega
  · rw [fitV_yes (by omega) (by omega)]; omega
theorem fitB_bd {x : Int} (h : fitB x = true) : -9223372036854775808 ≤ x ∧ x ≤ 9223372036854775807 := by
  simpa [fitB] using h

/-! ### quotients -/
theorem t_eq (a b : Int) : b * a.tdiv b + a.tmod b = a := Int.mul_tdiv_add_tmod a b
theorem t_lt (a b : Int) (hb : 1 ≤ b) : -b < a.tmod b ∧ a.tmod b < b := by
  have h1 := Int.tmod_lt_of_pos a (show 0 < b by omega)
  have h2 := Int.tmod_lt_of_pos (-a) (show 0 < b by omega)
  rw [Int.neg_tmod] at h2
  omega
theorem ediv_of {a b q r : Int} (hb : 1 ≤ b) (h : r + b * q = a) (h0 : 0 ≤ r) (h1 : r < b) : a / b = q :=
  ((Int.ediv_emod_unique (show 0 < b by omega)).2 ⟨h, h0, h1⟩).1
theorem emod_of {a b q r : Int} (hb : 1 ≤ b) (h : r + b * q = a) (h0 : 0 ≤ r) (h1 : r < b) : a % b = r :=
  ((Int.ediv_emod_unique (show 0 < b by omega)).2 ⟨h, h0, h1⟩).2
theorem down_lt {a b : Int} (hb : 1 ≤ b) (h : a.tmod b < 0) : a.tdiv b - 1 = a / b := by
  have e := t_eq a b
  have l := t_lt a b hb
  refine (ediv_of (r := a.tmod b + b) hb ?_ (by omega) (by omega)).symm
  rw [Int.mul_sub]; omega
theorem down_ge {a b : Int} (hb : 1 ≤ b) (h : 0 ≤ a.tmod b) : a.tdiv b = a / b := by
  have e := t_eq a b
  have l := t_lt a b hb
  exact (ediv_of (r := a.tmod b) hb (by omega) (by omega) (by omega)).symm
theorem up_gt {a b : Int} (hb : 1 ≤ b) (h : 0 < a.tmod b) : a.tdiv b + 1 = -((-a) / b) := by
  have e := t_eq a b
  have l := t_lt a b hb
  have : (-a) / b = -(a.tdiv b + 1) := ediv_of (r := b - a.tmod b) hb (by rw [Int.mul_neg, Int.mul_add]; omega) (by omega) (by omega)
  rw [this]; omega
theorem up_le' {a b : Int} (hb : 1 ≤ b) (h : a.tmod b ≤ 0) : a.tdiv b = -((-a) / b) := by
  have e := t_eq a b
  have l := t_lt a b hb
  have : (-a) / b = -(a.tdiv b) := ediv_of (r := - a.tmod b) hb (by rw [Int.mul_neg]; omega) (by omega) (by omega)
  rw [this]; omega
theorem div_bd {a b : Int} (hb : 1 ≤ b) (h1 : -9223372036854775808 ≤ a) (h2 : a ≤ 9223372036854775807) : -9223372036854775808 ≤ a / b ∧ a / b ≤ 9223372036854775807 := by
  constructor
  · rw [Int.le_ediv_iff_mul_le (by omega)]
    have : (1 : Int) * 9223372036854775808 ≤ b * 9223372036854775808 := Int.mul_le_mul_of_nonneg_right hb (by omega)
    have e : (-9223372036854775808 : Int) * b = -(b * 9223372036854775808) := by rw [Int.neg_mul, Int.mul_comm]
    omega
  · have : a / b < 9223372036854775808 := by
      rw [Int.ediv_lt_iff_lt_mul (by omega)]
      have : (1 : Int) * 9223372036854775808 ≤ b * 9223372036854775808 := Int.mul_le_mul_of_nonneg_right hb (by omega)
      have e : (9223372036854775808 : Int) * b = b * 9223372036854775808 := Int.mul_comm _ _
      omega
    omega
theorem up_bd {a b : Int} (hb : 1 ≤ b) (h1 : -9223372036854775808 ≤ a) (h2 : a ≤ 9223372036854775807) : -9223372036854775808 ≤ -((-a) / b) ∧ -((-a) / b) ≤ 9223372036854775807 := by
  have g : -((-a)/b) < 9223372036854775808 := by
    have : -9223372036854775807 ≤ (-a)/b := by
      rw [Int.le_ediv_iff_mul_le (by omega)]
      have : (1 : Int) * 9223372036854775807 ≤ b * 9223372036854775807 := Int.mul_le_mul_of_nonneg_right hb (by omega)
      have e : (-9223372036854775807 : Int) * b = -(b * 9223372036854775807) := by rw [Int.neg_mul, Int.mul_comm]
      omega
    omega
  have g2 : (-a)/b < 9223372036854775809 := by
    rw [Int.ediv_lt_iff_lt_mul (by omega)]
    have : (1 : Int) * 9223372036854775809 ≤ b * 9223372036854775809 := Int.mul_le_mul_of_nonneg_right hb (by omega)
    have e : (9223372036854775809 : Int) * b = b * 9223372036854775809 := Int.mul_comm _ _
    omega
  omega

/-- a / b, rounded up, rounded down; nought where b is not above nought. -/
def upV (a b : Int) : Int := if b ≤ 0 then 0 else -((-a) / b)
def downV (a b : Int) : Int := if b ≤ 0 then 0 else a / b

/-! ### which products fit -/
theorem fit_pp {a b : Int} (_ha : 1 ≤ a) (hb : 1 ≤ b) : a ≤ 9223372036854775807 / b ↔ a * b ≤ 9223372036854775807 :=
  Int.le_ediv_iff_mul_le (by omega)
theorem pp_pos {a b : Int} (ha : 1 ≤ a) (hb : 1 ≤ b) : 1 ≤ a * b := by
  have := Int.mul_pos (show 0 < a by omega) (show 0 < b by omega)
  omega
theorem min_tdiv {a : Int} (_ha : 1 ≤ a) : (-9223372036854775808 : Int).tdiv a = -(9223372036854775808 / a) := by
  rw [Int.neg_tdiv, Int.tdiv_eq_ediv_of_nonneg (by omega)]
theorem fit_pm {a b : Int} (ha : 1 ≤ a) : (-9223372036854775808 : Int).tdiv a ≤ b ↔ -9223372036854775808 ≤ a * b := by
  rw [min_tdiv ha]
  have h := Int.le_ediv_iff_mul_le (a := -b) (b := 9223372036854775808) (c := a) (by omega)
  have e : -b * a = -(a * b) := by rw [Int.neg_mul, Int.mul_comm]
  rw [e] at h
  constructor
  · intro g; have := h.1 (by omega); omega
  · intro g; have := h.2 (by omega); omega
theorem max_tdiv {b : Int} (_hb : b ≤ -1) : (9223372036854775807 : Int).tdiv b = -(9223372036854775807 / (-b)) := by
  have : b = -(-b) := by omega
  rw [this, Int.tdiv_neg, Int.tdiv_eq_ediv_of_nonneg (by omega), Int.neg_neg]
theorem fit_mm {a b : Int} (hb : b ≤ -1) : (9223372036854775807 : Int).tdiv b ≤ a ↔ a * b ≤ 9223372036854775807 := by
  rw [max_tdiv hb]
  have h := Int.le_ediv_iff_mul_le (a := -a) (b := 9223372036854775807) (c := -b) (by omega)
  rw [Int.neg_mul_neg] at h
  constructor
  · intro g; exact h.1 (by omega)
  · intro g; have := h.2 g; omega
theorem pm_neg {a b : Int} (ha : 1 ≤ a) (hb : b ≤ -1) : a * b ≤ -1 := by
  have := pp_pos ha (show 1 ≤ -b by omega)
  rw [Int.mul_neg] at this
  omega
theorem mm_pos {a b : Int} (ha : a ≤ -1) (hb : b ≤ -1) : 1 ≤ a * b := by
  have := pp_pos (show 1 ≤ -a by omega) (show 1 ≤ -b by omega)
  rw [Int.neg_mul_neg] at this
  omega

/-! ### fractions -/
def lessB (a b c d : Int) : Bool := decide (1 ≤ b) && (decide (1 ≤ d) && decide (a * d < c * b))
theorem less_cross {a b c d : Int} (hb : 1 ≤ b) (hd : 1 ≤ d) :
    a * d < c * b ↔ (a / b < c / d ∨ a / b = c / d ∧ (a % b) * d < (c % d) * b) := by
  have ea := Int.mul_ediv_add_emod a b
  have ec := Int.mul_ediv_add_emod c d
  have ra := Int.emod_nonneg a (show b ≠ 0 by omega)
  have rc := Int.emod_nonneg c (show d ≠ 0 by omega)
  have la := Int.emod_lt_of_pos a (show 0 < b by omega)
  have lc := Int.emod_lt_of_pos c (show 0 < d by omega)
  generalize a / b = p at *
  generalize c / d = q at *
  generalize a % b = r at *
  generalize c % d = s at *
  subst ea
  subst ec
  have e1 : (b * p + r) * d = b * d * p + r * d := by rw [Int.add_mul, Int.mul_right_comm]
  have e2 : (d * q + s) * b = b * d * q + s * b := by rw [Int.add_mul, Int.mul_right_comm, Int.mul_comm d b]
  rw [e1, e2]
  have hbd : 0 < b * d := Int.mul_pos (by omega) (by omega)
  have x1 : r * d < b * d := Int.mul_lt_mul_of_pos_right la (by omega)
  have x2 : s * b < d * b := Int.mul_lt_mul_of_pos_right lc (by omega)
  rw [Int.mul_comm d b] at x2
  have x3 : 0 ≤ r * d := Int.mul_nonneg ra (by omega)
  have x4 : 0 ≤ s * b := Int.mul_nonneg rc (by omega)
  rcases Int.lt_trichotomy p q with h | h | h
  · have : b * d * (p + 1) ≤ b * d * q := Int.mul_le_mul_of_nonneg_left (by omega) (by omega)
    rw [Int.mul_add] at this
    constructor
    · intro _; exact .inl h
    · intro _; omega
  · subst h
    constructor
    · intro g; exact .inr ⟨rfl, by omega⟩
    · rintro (g | ⟨_, g⟩) <;> omega
  · have : b * d * (q + 1) ≤ b * d * p := Int.mul_le_mul_of_nonneg_left (by omega) (by omega)
    rw [Int.mul_add] at this
    constructor
    · intro g; omega
    · rintro (g | ⟨g, _⟩) <;> omega

/-! ### halves -/
theorem half_mul_le {a b : Int} (h0 : 0 ≤ a) (ha : a ≤ 4294967295) (g0 : 0 ≤ b) (hb : b ≤ 4294967295) : 0 ≤ a * b ∧ a * b ≤ 18446744065119617025 := by
  refine ⟨Int.mul_nonneg h0 g0, ?_⟩
  have h1 : a * b ≤ 4294967295 * b := Int.mul_le_mul_of_nonneg_right ha g0
  omega
theorem split_mul (x1 x0 y1 y0 : Int) : (x1 * 4294967296 + x0) * (y1 * 4294967296 + y0) = x1 * y1 * 18446744073709551616 + (x1 * y0 + x0 * y1) * 4294967296 + x0 * y0 := by
  have e1 : x1 * 4294967296 * (y1 * 4294967296) = x1 * y1 * 18446744073709551616 := by
    rw [Int.mul_assoc, Int.mul_left_comm 4294967296 y1, ← Int.mul_assoc]; rfl
  have e2 : x1 * 4294967296 * y0 = x1 * y0 * 4294967296 := Int.mul_right_comm _ _ _
  have e3 : x0 * (y1 * 4294967296) = x0 * y1 * 4294967296 := (Int.mul_assoc _ _ _).symm
  rw [Int.add_mul, Int.mul_add, Int.mul_add, e1, e2, e3, Int.add_mul]
  omega

theorem and_mask (n : Int) : bits .and .i64 n 4294967295 = n % 4294967296 := by
  have h127 : (BitVec.ofInt 64 4294967295).toNat = 2 ^ 32 - 1 := by decide
  have key : (BitVec.ofInt 64 n &&& BitVec.ofInt 64 4294967295).toNat = (n % ((2 ^ 64 : Nat) : Int)).toNat % 2 ^ 32 := by
    rw [BitVec.toNat_and, BitVec.toNat_ofInt, h127, Nat.and_two_pow_sub_one_eq_mod]
  show IntKind.i64.wrap ((BitVec.ofInt 64 n &&& BitVec.ofInt 64 4294967295).toNat : Nat) = n % 4294967296
  rw [key, IntKind.wrap_i64]
  omega
theorem and_mask62 (n : Int) : bits .and .i64 n 4611686018427387903 = n % 4611686018427387904 := by
  have h127 : (BitVec.ofInt 64 4611686018427387903).toNat = 2 ^ 62 - 1 := by decide
  have key : (BitVec.ofInt 64 n &&& BitVec.ofInt 64 4611686018427387903).toNat = (n % ((2 ^ 64 : Nat) : Int)).toNat % 2 ^ 62 := by
    rw [BitVec.toNat_and, BitVec.toNat_ofInt, h127, Nat.and_two_pow_sub_one_eq_mod]
  show IntKind.i64.wrap ((BitVec.ofInt 64 n &&& BitVec.ofInt 64 4611686018427387903).toNat : Nat) = n % 4611686018427387904
  rw [key, IntKind.wrap_i64]
  omega
theorem and_mask_u (n : Int) (h0 : 0 ≤ n) (h1 : n ≤ 18446744073709551615) : bits .and .u64 n 4294967295 = n % 4294967296 := by
  have h127 : (BitVec.ofInt 64 4294967295).toNat = 2 ^ 32 - 1 := by decide
  have key : (BitVec.ofInt 64 n &&& BitVec.ofInt 64 4294967295).toNat = (n % ((2 ^ 64 : Nat) : Int)).toNat % 2 ^ 32 := by
    rw [BitVec.toNat_and, BitVec.toNat_ofInt, h127, Nat.and_two_pow_sub_one_eq_mod]
  have wu : ∀ n : Int, IntKind.u64.wrap n = n % 18446744073709551616 := fun n => by simp [IntKind.wrap, IntKind.bits, IntKind.signed]
  show IntKind.u64.wrap ((BitVec.ofInt 64 n &&& BitVec.ofInt 64 4294967295).toNat : Nat) = n % 4294967296
  rw [key, wu]
  omega
theorem or_join (h l : Int) (h0 : 0 ≤ l) (h1 : l < 4294967296) (h2 : -2147483648 ≤ h) (h3 : h ≤ 2147483647) : bits .or .i64 (h * 4294967296) l = h * 4294967296 + l := by
  have k1 : (BitVec.ofInt 64 (h * 4294967296)).toNat = 2 ^ 32 * (h % 4294967296).toNat := by
    rw [BitVec.toNat_ofInt]; omega
  have k2 : (BitVec.ofInt 64 l).toNat = l.toNat := by
    rw [BitVec.toNat_ofInt]; omega
  have key : (BitVec.ofInt 64 (h * 4294967296) ||| BitVec.ofInt 64 l).toNat = 2 ^ 32 * (h % 4294967296).toNat + l.toNat := by
    rw [BitVec.toNat_or, k1, k2, Nat.two_pow_add_eq_or_of_lt (by omega)]
  show IntKind.i64.wrap ((BitVec.ofInt 64 (h * 4294967296) ||| BitVec.ofInt 64 l).toNat : Nat) = h * 4294967296 + l
  rw [key, IntKind.wrap_i64]
  omega

/-! ### sums -/
def sumL : List Int → Int
  | [] => 0
  | x :: r => x + sumL r
theorem sumL_append (l m : List Int) : sumL (l ++ m) = sumL l + sumL m := by
  induction l with
  | nil => simp [sumL]
  | cons x r ih => simp only [List.cons_append, sumL, ih]; omega
theorem sumL_take_succ (l : List Int) (k : Nat) (h : k < l.length) : sumL (l.take (k + 1)) = sumL (l.take k) + l.getD k 0 := by
  rw [List.take_succ_eq_append_getElem h, sumL_append]
  simp [sumL, List.getD_eq_getElem?_getD, h]
theorem sumL_rot (l : List Int) (k : Nat) : sumL (l.drop k ++ l.take k) = sumL l := by
  rw [sumL_append, Int.add_comm, ← sumL_append, List.take_append_drop]

/-- A whole number as a sign and a size in two words. -/
def IsW (n : Bool) (h l x : Int) : Prop :=
  0 ≤ h ∧ h ≤ 18446744073709551615 ∧ 0 ≤ l ∧ l ≤ 18446744073709551615 ∧
  (n = true ∧ x < 0 ∧ x = -(h * 18446744073709551616 + l) ∨ n = false ∧ 0 ≤ x ∧ x = h * 18446744073709551616 + l)

end Go.Proofs.YtakdliecjfeedaaGreatDoor.T

/- The contracts of package tick's functions over the landed code, but for Sum. -/
namespace Go.Proofs.YtakdliecjfeedaaGreatDoor.T
open Go.RowKit

theorem ret_int {k : IntKind} {a b : Int} (h : a = b) : Ending.returned (.int k a) = .returned (.int k b) := by rw [h]
theorem ret_bool {a b : Bool} (h : a = b) : Ending.returned (.bool a) = .returned (.bool b) := by rw [h]
theorem ret_two {k : IntKind} {a b : Int} {c d : Bool} (h : a = b) (g : c = d) : Ending.returned (.tuple #[.int k a, .bool c]) = .returned (.tuple #[.int k b, .bool d]) := by rw [h, g]
theorem w64 {x : Int} (h1 : -9223372036854775808 ≤ x) (h2 : x ≤ 9223372036854775807) : wrap64 x = x := IntWalk.wrap64_in x ⟨by omega, by omega⟩

set_option maxHeartbeats 400000 in
theorem up_any (a b : Int) (w : World) (h1 : -9223372036854775808 ≤ a) (h2 : a ≤ 9223372036854775807) (hb2 : b ≤ 9223372036854775807) :
    Calls Tryz.prog 80 #[.int .i64 a, .int .i64 b] w fun e w' => e = .returned (.int .i64 (upV a b)) ∧ w' = w := by
  by_cases hb : b ≤ 0
  · go_enter Tryz.func80, Tryz.ntmps80
    go_wp2
    go_ret
    exact ⟨ret_int (by unfold upV; rw [if_pos hb]), rfl⟩
  · have hb1 : 1 ≤ b := by omega
    have ub := up_bd hb1 h1 h2
    have hv : Hid (upV a b = -((-a) / b)) := by unfold upV; exact if_neg hb
    by_cases hm : 0 < a.tmod b
    · have hq := up_gt hb1 hm
      have HQ : Hid (a.tdiv b + 1 = -((-a) / b)) := hq
      clear hq
      go_enter Tryz.func80, Tryz.ntmps80
      go_wp2
      go_ret
      exact ⟨ret_int (by rw [hv.out, ← HQ.out]; exact w64 (by rw [HQ.out]; omega) (by rw [HQ.out]; omega)), rfl⟩
    · have hq := up_le' hb1 (show a.tmod b ≤ 0 by omega)
      have HQ : Hid (a.tdiv b = -((-a) / b)) := hq
      clear hq
      go_enter Tryz.func80, Tryz.ntmps80
      go_wp2
      go_ret
      exact ⟨ret_int (by rw [hv.out, ← HQ.out]), rfl⟩

set_option maxHeartbeats 400000 in
theorem down_any (a b : Int) (w : World) (h1 : -9223372036854775808 ≤ a) (h2 : a ≤ 9223372036854775807) (hb2 : b ≤ 9223372036854775807) :
    Calls Tryz.prog 111 #[.int .i64 a, .int .i64 b] w fun e w' => e = .returned (.int .i64 (downV a b)) ∧ w' = w := by
  by_cases hb : b ≤ 0
  · go_enter Tryz.func111, Tryz.ntmps111
    go_wp2
    go_ret
    exact ⟨ret_int (by unfold downV; rw [if_pos hb]), rfl⟩
  · have hb1 : 1 ≤ b := by omega
    have ub := div_bd hb1 h1 h2
    have hv : Hid (downV a b = a / b) := by unfold downV; exact if_neg hb
    by_cases hm : a.tmod b < 0
    · have hq := down_lt hb1 hm
      have HQ : Hid (a.tdiv b - 1 = a / b) := hq
      clear hq
      go_enter Tryz.func111, Tryz.ntmps111
      go_wp2
      go_ret
      exact ⟨ret_int (by rw [hv.out, ← HQ.out]; exact w64 (by rw [HQ.out]; omega) (by rw [HQ.out]; omega)), rfl⟩
    · have hq := down_ge hb1 (show 0 ≤ a.tmod b by omega)
      have HQ : Hid (a.tdiv b = a / b) := hq
      clear hq
      go_enter Tryz.func111, Tryz.ntmps111
      go_wp2
      go_ret
      exact ⟨ret_int (by rw [hv.out, ← HQ.out]), rfl⟩

set_option maxHeartbeats 400000 in
theorem rest_any (a b : Int) (w : World) (_h1 : -9223372036854775808 ≤ a) (_h2 : a ≤ 9223372036854775807) (hb : 1 ≤ b) (hb2 : b ≤ 9223372036854775807) :
    Calls Tryz.prog 120 #[.int .i64 a, .int .i64 b] w fun e w' => e = .returned (.int .u64 (a % b)) ∧ w' = w := by
  have l := t_lt a b hb
  have e := t_eq a b
  by_cases hm : a.tmod b < 0
  · have hq : Hid (a % b = a.tmod b + b) := emod_of (q := a.tdiv b - 1) hb (by rw [Int.mul_sub]; omega) (by omega) (by omega)
    clear e
    go_enter Tryz.func120, Tryz.ntmps120
    go_wp2
    go_ret
    exact ⟨ret_int (by rw [hq.out]), rfl⟩
  · have hq : Hid (a % b = a.tmod b) := emod_of (q := a.tdiv b) hb (by omega) (by omega) (by omega)
    clear e
    go_enter Tryz.func120, Tryz.ntmps120
    go_wp2
    go_ret
    exact ⟨ret_int (by rw [hq.out]), rfl⟩

set_option maxHeartbeats 400000 in
theorem add_any (a b : Int) (w : World) (h1 : -9223372036854775808 ≤ a) (h2 : a ≤ 9223372036854775807) (h3 : -9223372036854775808 ≤ b) (h4 : b ≤ 9223372036854775807) :
    Calls Tryz.prog 54 #[.int .i64 a, .int .i64 b] w fun e w' => e = .returned (.tuple #[.int .i64 (fitV (a + b)), .bool (fitB (a + b))]) ∧ w' = w := by
  by_cases h : a + b < -9223372036854775808 ∨ 9223372036854775807 < a + b
  · have HV := fitV_no h
    have HB := fitB_no h
    have KV : Hid (fitV (a + b) = 0) := HV
    have KB : Hid (fitB (a + b) = false) := HB
    clear HV HB
    by_cases hb : 0 < b
    · have g : 9223372036854775807 - b < a := by omega
      clear h
      go_enter Tryz.func54, Tryz.ntmps54
      go_wp2
      go_ret2
      exact ⟨ret_two KV.out.symm KB.out.symm, rfl⟩
    · have g : a < -9223372036854775808 - b := by omega
      have g2 : b < 0 := by omega
      clear h
      go_enter Tryz.func54, Tryz.ntmps54
      go_wp2
      go_ret2
      exact ⟨ret_two KV.out.symm KB.out.symm, rfl⟩
  · have k1 : -9223372036854775808 ≤ a + b := by omega
    have k2 : a + b ≤ 9223372036854775807 := by omega
    have KV : Hid (fitV (a + b) = a + b) := fitV_yes k1 k2
    have KB : Hid (fitB (a + b) = true) := fitB_yes k1 k2
    clear h
    rcases Int.lt_trichotomy 0 b with hb | hb | hb
    · go_enter Tryz.func54, Tryz.ntmps54
      go_wp2
      go_ret2
      exact ⟨ret_two KV.out.symm KB.out.symm, rfl⟩
    · subst hb
      go_enter Tryz.func54, Tryz.ntmps54
      go_wp2
      go_ret2
      exact ⟨ret_two (by rw [KV.out]; omega) KB.out.symm, rfl⟩
    · go_enter Tryz.func54, Tryz.ntmps54
      go_wp2
      go_ret2
      exact ⟨ret_two KV.out.symm KB.out.symm, rfl⟩
theorem min_quo {a : Int} (ha : 1 ≤ a) : wrap64 (-Int.tdiv 9223372036854775808 a) = (-9223372036854775808 : Int).tdiv a := by
  have h := div_bd (a := -9223372036854775808) ha (by omega) (by omega)
  have e : (-9223372036854775808 : Int).tdiv a = -Int.tdiv 9223372036854775808 a := Int.neg_tdiv _ _
  have k : (0 : Int) ≤ 9223372036854775808 / a := Int.ediv_nonneg (by omega) (by omega)
  have k2 : 9223372036854775808 / a ≤ 9223372036854775808 := Int.ediv_le_self _ (by omega)
  rw [← e, min_tdiv ha]
  exact w64 (by omega) (by omega)
theorem max_quo {b : Int} (hb : b ≤ -1) : wrap64 (Int.tdiv 9223372036854775807 b) = Int.tdiv 9223372036854775807 b := by
  have k : (0 : Int) ≤ 9223372036854775807 / (-b) := Int.ediv_nonneg (by omega) (by omega)
  have k2 : 9223372036854775807 / (-b) ≤ 9223372036854775807 := Int.ediv_le_self _ (by omega)
  rw [max_tdiv hb]
  exact w64 (by omega) (by omega)

set_option maxHeartbeats 400000 in
theorem fits_any (a b : Int) (w : World) (h1 : -9223372036854775808 ≤ a) (h2 : a ≤ 9223372036854775807) (h3 : -9223372036854775808 ≤ b) (h4 : b ≤ 9223372036854775807) :
    Calls Tryz.prog 67 #[.int .i64 a, .int .i64 b] w fun e w' => e = .returned (.bool (fitB (a * b))) ∧ w' = w := by
  rcases Int.lt_trichotomy 0 a with ha | ha | ha
  · rcases Int.lt_trichotomy 0 b with hb | hb | hb
    · have f := fit_pp (a := a) (b := b) (by omega) (by omega)
      have g := pp_pos (a := a) (b := b) (by omega) (by omega)
      have KB : Hid (fitB (a * b) = decide (a ≤ 9223372036854775807 / b)) := by
        show _ = _
        by_cases h : a * b ≤ 9223372036854775807
        · rw [fitB_yes (by omega) h, decide_eq_true (f.2 h)]
        · rw [fitB_no (.inr (by omega)), decide_eq_false (fun c => h (f.1 c))]
      clear f g
      go_enter Tryz.func67, Tryz.ntmps67
      go_wp2
      go_ret
      exact ⟨ret_bool (by rw [KB.out]), rfl⟩
    · subst hb
      go_enter Tryz.func67, Tryz.ntmps67
      go_wp2
      go_ret
      exact ⟨ret_bool (by rfl), rfl⟩
    · have f := fit_pm (a := a) (b := b) (by omega)
      have g := pm_neg (a := a) (b := b) (by omega) (by omega)
      have KB : Hid (fitB (a * b) = decide ((-9223372036854775808 : Int).tdiv a ≤ b)) := by
        show _ = _
        by_cases h : -9223372036854775808 ≤ a * b
        · rw [fitB_yes h (by omega), decide_eq_true (f.2 h)]
        · rw [fitB_no (.inl (by omega)), decide_eq_false (fun c => h (f.1 c))]
      clear f g
      go_enter Tryz.func67, Tryz.ntmps67
      go_wp2
      go_ret
      exact ⟨ret_bool (by rw [KB.out, ← min_quo (by omega)]), rfl⟩
  · subst ha
    go_enter Tryz.func67, Tryz.ntmps67
    go_wp2
    go_ret
    exact ⟨ret_bool (by first | rfl | (rw [Int.zero_mul]; rfl)), rfl⟩
  · rcases Int.lt_trichotomy 0 b with hb | hb | hb
    · have f := fit_pm (a := b) (b := a) (by omega)
      have g := pm_neg (a := b) (b := a) (by omega) (by omega)
      have KB : Hid (fitB (a * b) = decide ((-9223372036854775808 : Int).tdiv b ≤ a)) := by
        show _ = _
        rw [Int.mul_comm]
        by_cases h : -9223372036854775808 ≤ b * a
        · rw [fitB_yes h (by omega), decide_eq_true (f.2 h)]
        · rw [fitB_no (.inl (by omega)), decide_eq_false (fun c => h (f.1 c))]
      clear f g
      go_enter Tryz.func67, Tryz.ntmps67
      go_wp2
      go_ret
      exact ⟨ret_bool (by rw [KB.out, ← min_quo (by omega)]), rfl⟩
    · subst hb
      go_enter Tryz.func67, Tryz.ntmps67
      go_wp2
      go_ret
      exact ⟨ret_bool (by rfl), rfl⟩
    · have f := fit_mm (a := a) (b := b) (by omega)
      have g := mm_pos (a := a) (b := b) (by omega) (by omega)
      have KB : Hid (fitB (a * b) = decide ((9223372036854775807 : Int).tdiv b ≤ a)) := by
        show _ = _
        by_cases h : a * b ≤ 9223372036854775807
        · rw [fitB_yes (by omega) h, decide_eq_true (f.2 h)]
        · rw [fitB_no (.inr (by omega)), decide_eq_false (fun c => h (f.1 c))]
      clear f g
      go_enter Tryz.func67, Tryz.ntmps67
      go_wp2
      go_ret
      exact ⟨ret_bool (by rw [KB.out, max_quo (by omega)]), rfl⟩

set_option maxHeartbeats 400000 in
theorem mul_any (a b : Int) (w : World) (h1 : -9223372036854775808 ≤ a) (h2 : a ≤ 9223372036854775807) (h3 : -9223372036854775808 ≤ b) (h4 : b ≤ 9223372036854775807) :
    Calls Tryz.prog 53 #[.int .i64 a, .int .i64 b] w fun e w' => e = .returned (.tuple #[.int .i64 (fitV (a * b)), .bool (fitB (a * b))]) ∧ w' = w := by
  by_cases h : a * b < -9223372036854775808 ∨ 9223372036854775807 < a * b
  · have KV : Hid (fitV (a * b) = 0) := fitV_no h
    have KB : fitB (a * b) = false := fitB_no h
    clear h
    go_enter Tryz.func53, Tryz.ntmps53
    go_wp2_with (go_at_call 67; refine (fits_any _ _ _ h1 h2 h3 h4).mono ?_; rintro e w' ⟨rfl, rfl⟩)
    go_ret2
    exact ⟨ret_two KV.out.symm KB.symm, rfl⟩
  · have k1 : -9223372036854775808 ≤ a * b := by omega
    have k2 : a * b ≤ 9223372036854775807 := by omega
    have KV : Hid (fitV (a * b) = a * b) := fitV_yes k1 k2
    have KB : fitB (a * b) = true := fitB_yes k1 k2
    clear h
    go_enter Tryz.func53, Tryz.ntmps53
    go_wp2_with (go_at_call 67; refine (fits_any _ _ _ h1 h2 h3 h4).mono ?_; rintro e w' ⟨rfl, rfl⟩)
    go_ret2
    exact ⟨ret_two KV.out.symm KB.symm, rfl⟩


theorem wu64 {x : Int} (h1 : 0 ≤ x) (h2 : x ≤ 18446744073709551615) : IntKind.u64.wrap x = x := by rw [IntKind.wrap_u64]; omega

theorem ret_uu {a b c d : Int} (h : a = b) (g : c = d) : Ending.returned (.tuple #[.int .u64 a, .int .u64 c]) = .returned (.tuple #[.int .u64 b, .int .u64 d]) := by rw [h, g]

theorem four (x y : Int) (hx0 : 0 ≤ x) (hx : x ≤ 18446744073709551615) (hy0 : 0 ≤ y) (hy : y ≤ 18446744073709551615) :
    ∃ p q r s : Int, x / 4294967296 * (y / 4294967296) = p ∧ x / 4294967296 * (y % 4294967296) = q ∧ x % 4294967296 * (y / 4294967296) = r ∧ x % 4294967296 * (y % 4294967296) = s ∧
      0 ≤ p ∧ p ≤ 18446744065119617025 ∧ 0 ≤ q ∧ q ≤ 18446744065119617025 ∧ 0 ≤ r ∧ r ≤ 18446744065119617025 ∧ 0 ≤ s ∧ s ≤ 18446744065119617025 ∧
      x * y = p * 18446744073709551616 + (q + r) * 4294967296 + s := by
  have e : x * y = (x / 4294967296 * 4294967296 + x % 4294967296) * (y / 4294967296 * 4294967296 + y % 4294967296) := by
    rw [Int.ediv_mul_add_emod, Int.ediv_mul_add_emod]
  rw [split_mul] at e
  have b1 := half_mul_le (a := x / 4294967296) (b := y / 4294967296) (by omega) (by omega) (by omega) (by omega)
  have b2 := half_mul_le (a := x / 4294967296) (b := y % 4294967296) (by omega) (by omega) (by omega) (by omega)
  have b3 := half_mul_le (a := x % 4294967296) (b := y / 4294967296) (by omega) (by omega) (by omega) (by omega)
  have b4 := half_mul_le (a := x % 4294967296) (b := y % 4294967296) (by omega) (by omega) (by omega) (by omega)
  exact ⟨_, _, _, _, rfl, rfl, rfl, rfl, b1.1, b1.2, b2.1, b2.2, b3.1, b3.2, b4.1, b4.2, e⟩

theorem hi_eq (x y : Int) (hx0 : 0 ≤ x) (hx : x ≤ 18446744073709551615) (hy0 : 0 ≤ y) (hy : y ≤ 18446744073709551615) :
    (IntKind.u64.wrap
              (IntKind.u64.wrap
                  (IntKind.u64.wrap (x / 4294967296 * (y / 4294967296)) +
                    IntKind.u64.wrap
                        (IntKind.u64.wrap (x / 4294967296 * (y % 4294967296)) +
                          IntKind.u64.wrap (x % 4294967296 * (y % 4294967296)) / 4294967296) /
                      4294967296) +
                IntKind.u64.wrap
                    (bits BinOp.and IntKind.u64
                        (IntKind.u64.wrap
                          (IntKind.u64.wrap (x / 4294967296 * (y % 4294967296)) +
                            IntKind.u64.wrap (x % 4294967296 * (y % 4294967296)) / 4294967296))
                        4294967295 +
                      IntKind.u64.wrap (x % 4294967296 * (y / 4294967296))) /
                  4294967296)) = x * y / 18446744073709551616 := by
  obtain ⟨p, q, r, s, hp, hq, hr, hs, p0, p1, q0, q1, r0, r1, s0, s1, e⟩ := four x y hx0 hx hy0 hy
  rw [hp, hq, hr, hs, e]
  clear hp hq hr hs e hx0 hx hy0 hy
  rw [wu64 (x := p) p0 (by omega), wu64 (x := q) q0 (by omega), wu64 (x := r) r0 (by omega), wu64 (x := s) s0 (by omega)]
  rw [wu64 (x := q + s / 4294967296) (by omega) (by omega), and_mask_u _ (by omega) (by omega)]
  rw [wu64 (x := (q + s / 4294967296) % 4294967296 + r) (by omega) (by omega)]
  rw [wu64 (x := p + (q + s / 4294967296) / 4294967296) (by omega) (by omega)]
  rw [IntKind.wrap_u64]
  omega

set_option maxHeartbeats 1000000 in
theorem mul64_any (x y : Int) (w : World) (hx0 : 0 ≤ x) (hx : x ≤ 18446744073709551615) (hy0 : 0 ≤ y) (hy : y ≤ 18446744073709551615) :
    Calls Tryz.prog 68 #[.int .u64 x, .int .u64 y] w fun e w' => e = .returned (.tuple #[.int .u64 (x * y / 18446744073709551616), .int .u64 (x * y % 18446744073709551616)]) ∧ w' = w := by
  have mx := and_mask_u x hx0 hx
  have my := and_mask_u y hy0 hy
  go_enter Tryz.func68, Tryz.ntmps68
  go_wp2
  go_ret2
  exact ⟨ret_uu (hi_eq x y hx0 hx hy0 hy) (IntKind.wrap_u64 _), rfl⟩

set_option maxHeartbeats 400000 in
theorem pless_any (a b c d : Int) (w : World) (a0 : 0 ≤ a) (a1 : a ≤ 18446744073709551615) (b0 : 0 ≤ b) (b1 : b ≤ 18446744073709551615) (c0 : 0 ≤ c) (c1 : c ≤ 18446744073709551615) (d0 : 0 ≤ d) (d1 : d ≤ 18446744073709551615) :
    Calls Tryz.prog 119 #[.int .u64 a, .int .u64 b, .int .u64 c, .int .u64 d] w fun e w' => e = .returned (.bool (decide (a * b < c * d))) ∧ w' = w := by
  by_cases h : a * b / 18446744073709551616 = c * d / 18446744073709551616
  · have K : Hid (decide (a * b < c * d) = decide (a * b % 18446744073709551616 < c * d % 18446744073709551616)) := by
      show _ = _
      rw [decide_eq_decide]; omega
    have hne : (a * b / 18446744073709551616 != c * d / 18446744073709551616) = false := by rw [h]; simp
    clear h
    go_enter Tryz.func119, Tryz.ntmps119
    go_wp2_with (go_at_call 68; refine (mul64_any _ _ _ (by omega) (by omega) (by omega) (by omega)).mono ?_; rintro e w' ⟨rfl, rfl⟩)
    go_ret
    exact ⟨ret_bool K.out.symm, rfl⟩
  · have K : Hid (decide (a * b < c * d) = decide (a * b / 18446744073709551616 < c * d / 18446744073709551616)) := by
      show _ = _
      rw [decide_eq_decide]; omega
    have hne : (a * b / 18446744073709551616 != c * d / 18446744073709551616) = true := by simpa using h
    clear h
    go_enter Tryz.func119, Tryz.ntmps119
    go_wp2_with (go_at_call 68; refine (mul64_any _ _ _ (by omega) (by omega) (by omega) (by omega)).mono ?_; rintro e w' ⟨rfl, rfl⟩)
    go_ret
    exact ⟨ret_bool K.out.symm, rfl⟩


set_option maxHeartbeats 400000 in
theorem less_any (a b c d : Int) (w : World) (a0 : -9223372036854775808 ≤ a) (a1 : a ≤ 9223372036854775807) (b1 : b ≤ 9223372036854775807) (c0 : -9223372036854775808 ≤ c) (c1 : c ≤ 9223372036854775807) (d1 : d ≤ 9223372036854775807) :
    Calls Tryz.prog 112 #[.int .i64 a, .int .i64 b, .int .i64 c, .int .i64 d] w fun e w' => e = .returned (.bool (lessB a b c d)) ∧ w' = w := by
  by_cases hb : b ≤ 0
  · have K : Hid (lessB a b c d = false) := by show _ = _; unfold lessB; rw [decide_eq_false (by omega)]; rfl
    go_enter Tryz.func112, Tryz.ntmps112
    go_wp2
    go_ret
    exact ⟨ret_bool K.out.symm, rfl⟩
  · by_cases hd : d ≤ 0
    · have K : Hid (lessB a b c d = false) := by show _ = _; unfold lessB; rw [decide_eq_false (p := 1 ≤ d) (by omega)]; simp
      have hb' : 1 ≤ b := by omega
      go_enter Tryz.func112, Tryz.ntmps112
      go_wp2
      go_ret
      exact ⟨ret_bool K.out.symm, rfl⟩
    · have hb' : 1 ≤ b := by omega
      have hd' : 1 ≤ d := by omega
      have K : Hid (lessB a b c d = decide (a * d < c * b)) := by show _ = _; unfold lessB; rw [decide_eq_true hb', decide_eq_true hd']; simp
      have X := less_cross (a := a) (c := c) hb' hd'
      have e1 : Hid (downV a b = a / b) := if_neg hb
      have e2 : Hid (downV c d = c / d) := if_neg hd
      have r1 := Int.emod_nonneg a (show b ≠ 0 by omega)
      have r2 := Int.emod_nonneg c (show d ≠ 0 by omega)
      have l1 := Int.emod_lt_of_pos a (show 0 < b by omega)
      have l2 := Int.emod_lt_of_pos c (show 0 < d by omega)
      by_cases h : downV a b = downV c d
      · have hne : (downV a b != downV c d) = false := by rw [h]; simp
        have K2 : Hid (lessB a b c d = decide (a % b * d < c % d * b)) := by
          show _ = _
          rw [K.out, decide_eq_decide, X, ← e1.out, ← e2.out]
          constructor
          · rintro (g | ⟨_, g⟩)
            · omega
            · exact g
          · intro g; exact .inr ⟨h, g⟩
        clear h X
        go_enter Tryz.func112, Tryz.ntmps112
        go_wp2_with (first | (go_at_call 111; refine (down_any _ _ _ (by omega) (by omega) (by omega)).mono ?_; rintro e w' ⟨rfl, rfl⟩) | (go_at_call 120; refine (rest_any _ _ _ (by omega) (by omega) (by omega) (by omega)).mono ?_; rintro e w' ⟨rfl, rfl⟩) | (go_at_call 119; refine (pless_any _ _ _ _ _ (by omega) (by omega) (by omega) (by omega) (by omega) (by omega) (by omega) (by omega)).mono ?_; rintro e w' ⟨rfl, rfl⟩))
        go_ret
        exact ⟨ret_bool K2.out.symm, rfl⟩
      · have hne : (downV a b != downV c d) = true := by simpa using h
        have K2 : Hid (lessB a b c d = decide (downV a b < downV c d)) := by
          show _ = _
          rw [K.out, decide_eq_decide, X, ← e1.out, ← e2.out]
          constructor
          · rintro (g | ⟨g, _⟩)
            · exact g
            · exact absurd g h
          · intro g; exact .inl g
        clear h X
        go_enter Tryz.func112, Tryz.ntmps112
        go_wp2_with (first | (go_at_call 111; refine (down_any _ _ _ (by omega) (by omega) (by omega)).mono ?_; rintro e w' ⟨rfl, rfl⟩))
        go_ret
        exact ⟨ret_bool K2.out.symm, rfl⟩

end Go.Proofs.YtakdliecjfeedaaGreatDoor.T

/- The contract of tick.Sum over the landed code. -/
namespace Go.Proofs.YtakdliecjfeedaaGreatDoor.T
open Go.RowKit

/-- What a slice of int64 leads to: nothing, or a row of cells that hold zs. -/
def RowAt (w : World) (a : Option Addr) (zs : List Int) : Prop :=
  zs = [] ∨ ∃ b off, a = some ⟨b, off, none⟩ ∧ ∀ i, i < zs.length → w.cell? ⟨b, off + i, none⟩ = some (.int .i64 (zs.getD i 0))
def AllIn (zs : List Int) : Prop := ∀ i : Nat, -9223372036854775808 ≤ zs.getD i 0 ∧ zs.getD i 0 ≤ 9223372036854775807

set_option maxHeartbeats 400000 in
theorem sum_any (a : Option Addr) (cap : Nat) (zs : List Int) (w : World) (hr : RowAt w a zs) (hz : AllIn zs) (hl : zs.length ≤ 1000) :
    Calls Tryz.prog 47 #[.slice a zs.length cap] w fun e w' => e = .returned (.tuple #[.int .i64 (fitV (sumL zs)), .bool (fitB (sumL zs))]) ∧ w' = w := by
  generalize hn : zs.length = n at *
  have HN : Hid (zs.length = n) := hn
  clear hn
  go_enter Tryz.func47, Tryz.ntmps47
  go_wp2
  go_loop [4, 5, 10] (fun h l i => ∃ k : Nat, ∃ H L : Int, k ≤ n ∧ i = .int .i64 k ∧ h = .int .i64 H ∧ l = .int .i64 L ∧ H * 4294967296 + L = sumL (zs.take k) ∧ 0 ≤ L ∧ L ≤ 4294967295 ∧ -2147483648 * (k : Int) ≤ H ∧ H ≤ 2147483648 * (k : Int)) (fun _ _ i => n - (intOf i).toNat)
  case atStart => exact ⟨0, 0, 0, Nat.zero_le _, rfl, rfl, rfl, by simp [sumL], by omega, by omega, by omega, by omega⟩
  case round =>
    obtain ⟨k, H, L, hk, rfl, rfl, rfl, hs, hL0, hL1, hH0, hH1⟩ := hrel
    have HS : Hid (H * 4294967296 + L = sumL (zs.take k)) := hs
    clear hs
    by_cases hlt : k < n
    · have hb := hz k
      rcases hr with rfl | ⟨b, off, rfl, hc⟩
      · have := HN.out; simp at this; omega
      have hck := hc k (by rw [HN.out]; exact hlt)
      generalize hv : zs.getD k 0 = v at *
      have HV : Hid (zs.getD k 0 = v) := hv
      clear hv hc
      have m1 := and_mask v
      have m2 := and_mask (L + v % 4294967296)
      go_wp2
      go_round
      case rel =>
        have e := sumL_take_succ zs k (by rw [HN.out]; exact hlt)
        rw [HV.out, ← HS.out] at e
        have c : (-2147483648 : Int) ≤ v / 4294967296 ∧ v / 4294967296 ≤ 2147483647 := by omega
        exact ⟨k + 1, _, _, hlt, by go_num, rfl, rfl, by rw [e]; omega, by omega, by omega, by omega, by omega⟩
      case measure => simp [intOf]; omega
    · have hkn : k = n := by omega
      subst hkn
      have e : sumL (zs.take k) = sumL zs := by rw [List.take_of_length_le (by rw [HN.out]; exact Nat.le_refl _)]
      have HS2 : Hid (sumL zs = H * 4294967296 + L) := by show _ = _; rw [← e]; exact HS.out.symm
      clear e
      by_cases c1 : H < -2147483648
      · go_wp2
        go_ret2
        exact ⟨ret_two (by rw [HS2.out, fitV_no (.inl (by omega))]) (by rw [HS2.out, fitB_no (.inl (by omega))]), rfl⟩
      · by_cases c2 : 2147483647 < H
        · go_wp2
          go_ret2
          exact ⟨ret_two (by rw [HS2.out, fitV_no (.inr (by omega))]) (by rw [HS2.out, fitB_no (.inr (by omega))]), rfl⟩
        · have j := or_join H L hL0 (by omega) (by omega) (by omega)
          go_wp2
          go_ret2
          exact ⟨ret_two (by rw [HS2.out, fitV_yes (by omega) (by omega)]) (by rw [HS2.out, fitB_yes (by omega) (by omega)]), rfl⟩
end Go.Proofs.YtakdliecjfeedaaGreatDoor.T

/- The contract of the laws' own beginning; tick.Sum of three and of four times that the caller wrote out. -/
namespace Go.Proofs.YtakdliecjfeedaaGreatDoor.T
open Go.RowKit

theorem below_step {w a b : World} (g : Below w.heap.size w a) (h : Below a.heap.size a b) : Below w.heap.size w b := g.trans (h.mono g.size)
theorem allIn_cons {x : Int} {l : List Int} (h1 : -9223372036854775808 ≤ x) (h2 : x ≤ 9223372036854775807) (h : AllIn l) : AllIn (x :: l) := by
  intro i
  cases i with
  | zero => exact ⟨h1, h2⟩
  | succ n => simpa using h n
theorem allIn_nil : AllIn [] := fun i => by simp

theorem sum_three (x y z : Int) (w : World) (x0 : -9223372036854775808 ≤ x) (x1 : x ≤ 9223372036854775807) (y0 : -9223372036854775808 ≤ y) (y1 : y ≤ 9223372036854775807) (z0 : -9223372036854775808 ≤ z) (z1 : z ≤ 9223372036854775807) :
    Calls Tryz.prog 47 #[.slice (some ⟨w.heap.size, 0, none⟩) 3 3] (w.alloc (.cells #[.int .i64 x, .int .i64 y, .int .i64 z] 2)) fun e w' =>
      e = .returned (.tuple #[.int .i64 (fitV (x + (y + z))), .bool (fitB (x + (y + z)))]) ∧ w' = (w.alloc (.cells #[.int .i64 x, .int .i64 y, .int .i64 z] 2)) := by
  have h := sum_any (some ⟨w.heap.size, 0, none⟩) 3 [x, y, z] (w.alloc (.cells #[.int .i64 x, .int .i64 y, .int .i64 z] 2))
    (.inr ⟨_, _, rfl, fun i hi => by
      match i, hi with
      | 0, _ => simp
      | 1, _ => simp
      | 2, _ => simp⟩) (allIn_cons x0 x1 (allIn_cons y0 y1 (allIn_cons z0 z1 allIn_nil))) (by simp)
  have e : sumL [x, y, z] = x + (y + z) := by simp [sumL]
  rw [e] at h
  exact h
theorem fv1 : fitV 9223372036854775808 = 0 := fitV_no (.inr (by omega))
theorem fb1 : fitB 9223372036854775808 = false := fitB_no (.inr (by omega))
theorem fv2 : fitV (-15) = -15 := fitV_yes (by omega) (by omega)
theorem fb2 : fitB (-15) = true := fitB_yes (by omega) (by omega)
theorem fv3 : fitV 4611686018427387904 = 4611686018427387904 := fitV_yes (by omega) (by omega)
theorem fb3 : fitB 4611686018427387904 = true := fitB_yes (by omega) (by omega)
theorem u72 : upV 7 2 = 4 := by decide
theorem d72 : downV (-7) 2 = -4 := by decide
theorem l1325 : lessB 1 3 2 5 = true := by decide
theorem l1025 : lessB 1 0 2 5 = false := by decide

set_option maxHeartbeats 400000 in
theorem begun_any (w : World) :
    Calls Tryz.prog 103 #[] w fun e w' => e = .returned (.bool true) ∧ Below w.heap.size w w' := by
  have fv1 := fv1
  have fb1 := fb1
  have fv2 := fv2
  have fb2 := fb2
  have fv3 := fv3
  have fb3 := fb3
  have u72 := u72
  have d72 := d72
  have l1 := l1325
  have l2 := l1025
  go_enter Tryz.func103, Tryz.ntmps103
  go_wp2_with (first | (go_at_call 54; refine (add_any _ _ _ (by omega) (by omega) (by omega) (by omega)).mono ?_; rintro e w' ⟨rfl, rfl⟩) | (go_at_call 53; refine (mul_any _ _ _ (by omega) (by omega) (by omega) (by omega)).mono ?_; rintro e w' ⟨rfl, rfl⟩) | (go_at_call 47; refine (sum_three _ _ _ _ (by omega) (by omega) (by omega) (by omega) (by omega) (by omega)).mono ?_; rintro e w' ⟨rfl, rfl⟩) | (go_at_call 80; refine (up_any _ _ _ (by omega) (by omega) (by omega)).mono ?_; rintro e w' ⟨rfl, rfl⟩) | (go_at_call 111; refine (down_any _ _ _ (by omega) (by omega) (by omega)).mono ?_; rintro e w' ⟨rfl, rfl⟩) | (go_at_call 112; refine (less_any _ _ _ _ _ (by omega) (by omega) (by omega) (by omega) (by omega) (by omega)).mono ?_; rintro e w' ⟨rfl, rfl⟩))
  go_ret
  exact ⟨rfl, (Below.refl _ _).alloc (Nat.le_refl _) _⟩

set_option maxHeartbeats 400000 in
theorem Begun_any (w : World) :
    Calls Tryz.prog 85 #[] w fun e w' => e = .returned (.bool true) ∧ Below w.heap.size w w' := by
  go_enter Tryz.func85, Tryz.ntmps85
  go_wp2_with (go_at_call 103; refine (begun_any _).mono ?_; rintro e w1 ⟨rfl, g1⟩)
  go_ret
  exact ⟨rfl, g1⟩
end Go.Proofs.YtakdliecjfeedaaGreatDoor.T
