/- The contracts of the reference's product. -/
import Derived.Test.YtkalbnhhgobheaaRefTop
namespace Go.Proofs.Ytkalbnhhgobheaa
open Go.RowKit

def MulPost (M : Int) (sg : Bool) (w : World) (e : Ending) (w' : World) : Prop :=
  ∃ n h l, e = .returned (.agg #[.bool n, .int .u64 h, .int .u64 l]) ∧ (M = 0 ∧ n = false ∨ M ≠ 0 ∧ n = sg) ∧ (0 ≤ h ∧ 0 ≤ l ∧ l ≤ 18446744073709551615 ∧ h * 18446744073709551616 + l = M) ∧ Below w.heap.size w w'

set_option maxHeartbeats 400000 in
theorem rmul_pp (a b X Y p q r s : Int) (sg : Bool) (w : World) (h1 : -9223372036854775808 ≤ a) (h2 : a ≤ 9223372036854775807) (h3 : -9223372036854775808 ≤ b) (h4 : b ≤ 9223372036854775807)
    (eX : szV a = X) (eY : szV b = Y) (hsg : (!(decide (a < 0) == decide (b < 0))) = sg)
    (X0 : 0 ≤ X) (X1 : X ≤ 9223372036854775808) (Y0 : 0 ≤ Y) (Y1 : Y ≤ 9223372036854775808)
    (hp : X / 4294967296 * (Y / 4294967296) = p) (hq : X / 4294967296 * (Y % 4294967296) = q) (hr : X % 4294967296 * (Y / 4294967296) = r) (hs : X % 4294967296 * (Y % 4294967296) = s)
    (p0 : 0 ≤ p) (p1 : p ≤ 18446744065119617025) (q0 : 0 ≤ q) (q1 : q ≤ 18446744065119617025) (r0 : 0 ≤ r) (r1 : r ≤ 18446744065119617025) (s0 : 0 ≤ s) (s1 : s ≤ 18446744065119617025)
    (M : Int) (hM : M = p * 18446744073709551616 + (q + r) * 4294967296 + s) :
    Calls Try.prog 27 #[.int .i64 a, .int .i64 b] w (MulPost M sg w) := by
  have HM : Hid (M = p * 18446744073709551616 + (q + r) * 4294967296 + s) := hM
  clear hM
  go_enter Try.func27, Try.ntmps27
  go_wp2_with (go_at_call 31; refine (size_any _ _ (by omega) (by omega)).mono ?_; rintro e w' ⟨rfl, rfl⟩)
  · have g1 : (p + (q + s / 4294967296) / 4294967296 + (r + (q + s / 4294967296) % 4294967296) / 4294967296) = 0 := by assumption
    have g2 : (((r + (q + s / 4294967296)) % 4294967296 * 4294967296 + s % 4294967296) == 0) = true := by assumption
    have g3 : ((r + (q + s / 4294967296)) % 4294967296 * 4294967296 + s % 4294967296) = 0 := by simpa using g2
    have g4 := HM.out
    exact bodyPost_ret (v := .agg #[.bool false, .int .u64 0, .int .u64 ((r + (q + s / 4294967296)) % 4294967296 * 4294967296 + s % 4294967296)]) (by simp [results, Try.results27, go_sem]) rfl
      ⟨_, _, _, rfl, .inl ⟨by omega, rfl⟩, ⟨by omega, by omega, by omega, by omega⟩, ((Below.refl _ _).alloc (Nat.le_refl _) _).alloc (by simp) _⟩
  · have g1 : (p + (q + s / 4294967296) / 4294967296 + (r + (q + s / 4294967296) % 4294967296) / 4294967296) = 0 := by assumption
    have g2 : (((r + (q + s / 4294967296)) % 4294967296 * 4294967296 + s % 4294967296) == 0) = false := by assumption
    have g3 : ((r + (q + s / 4294967296)) % 4294967296 * 4294967296 + s % 4294967296) ≠ 0 := by simpa using g2
    have g4 := HM.out
    exact bodyPost_ret (v := .agg #[.bool sg, .int .u64 0, .int .u64 ((r + (q + s / 4294967296)) % 4294967296 * 4294967296 + s % 4294967296)]) (by simp [results, Try.results27, go_sem]) rfl
      ⟨_, _, _, rfl, .inr ⟨by omega, rfl⟩, ⟨by omega, by omega, by omega, by omega⟩, ((Below.refl _ _).alloc (Nat.le_refl _) _).alloc (by simp) _⟩
  · have g1 : ¬ (p + (q + s / 4294967296) / 4294967296 + (r + (q + s / 4294967296) % 4294967296) / 4294967296) = 0 := by assumption
    have g4 := HM.out
    exact bodyPost_ret (v := .agg #[.bool sg, .int .u64 (p + (q + s / 4294967296) / 4294967296 + (r + (q + s / 4294967296) % 4294967296) / 4294967296), .int .u64 ((r + (q + s / 4294967296)) % 4294967296 * 4294967296 + s % 4294967296)]) (by simp [results, Try.results27, go_sem]) rfl
      ⟨_, _, _, rfl, .inr ⟨by omega, rfl⟩, ⟨by omega, by omega, by omega, by omega⟩, ((Below.refl _ _).alloc (Nat.le_refl _) _).alloc (by simp) _⟩

theorem szV_mul (a b : Int) : szV a * szV b = szV (a * b) := by
  by_cases ha : a < 0
  · rw [szV_neg ha]
    by_cases hb : b < 0
    · have := mm_pos (a := a) (b := b) (by omega) (by omega)
      rw [szV_neg hb, Int.neg_mul_neg, szV_pos (by omega)]
    · rw [szV_pos (a := b) (by omega)]
      by_cases hb0 : b = 0
      · subst hb0; rw [Int.mul_zero, Int.mul_zero]; rfl
      · have := pm_neg (a := b) (b := a) (by omega) (by omega)
        rw [Int.mul_comm] at this
        rw [szV_neg (a := a * b) (by omega), Int.neg_mul]
  · rw [szV_pos (a := a) (by omega)]
    by_cases hb : b < 0
    · by_cases ha0 : a = 0
      · subst ha0; rw [Int.zero_mul, Int.zero_mul]; rfl
      · have := pm_neg (a := a) (b := b) (by omega) (by omega)
        rw [szV_neg hb, szV_neg (a := a * b) (by omega), Int.mul_neg]
    · have := Int.mul_nonneg (a := a) (b := b) (by omega) (by omega)
      rw [szV_pos (a := b) (by omega), szV_pos this]
theorem sign_mul {a b : Int} (h : a * b ≠ 0) : (!(decide (a < 0) == decide (b < 0))) = decide (a * b < 0) := by
  by_cases ha0 : a = 0
  · subst ha0; simp at h
  by_cases hb0 : b = 0
  · subst hb0; simp at h
  by_cases ha : a < 0
  · by_cases hb : b < 0
    · have := mm_pos (a := a) (b := b) (by omega) (by omega)
      rw [decide_eq_true ha, decide_eq_true hb, decide_eq_false (by omega)]; rfl
    · have := pm_neg (a := b) (b := a) (by omega) (by omega)
      rw [Int.mul_comm] at this
      rw [decide_eq_true ha, decide_eq_false hb, decide_eq_true (by omega)]; rfl
  · by_cases hb : b < 0
    · have := pm_neg (a := a) (b := b) (by omega) (by omega)
      rw [decide_eq_false ha, decide_eq_true hb, decide_eq_true (by omega)]; rfl
    · have := pp_pos (a := a) (b := b) (by omega) (by omega)
      rw [decide_eq_false ha, decide_eq_false hb, decide_eq_false (by omega)]; rfl
theorem szV_bd {a : Int} (h1 : -9223372036854775808 ≤ a) (h2 : a ≤ 9223372036854775807) : 0 ≤ szV a ∧ szV a ≤ 9223372036854775808 := by
  by_cases h : a < 0
  · rw [szV_neg h]; omega
  · rw [szV_pos (by omega)]; omega

theorem rmul_any (a b : Int) (w : World) (h1 : -9223372036854775808 ≤ a) (h2 : a ≤ 9223372036854775807) (h3 : -9223372036854775808 ≤ b) (h4 : b ≤ 9223372036854775807) :
    Calls Try.prog 27 #[.int .i64 a, .int .i64 b] w fun e w' => ∃ n h l, e = .returned (.agg #[.bool n, .int .u64 h, .int .u64 l]) ∧ IsW n h l (a * b) ∧ Below w.heap.size w w' := by
  obtain ⟨x0, x1⟩ := szV_bd h1 h2
  obtain ⟨y0, y1⟩ := szV_bd h3 h4
  obtain ⟨p, q, r, s, hp, hq, hr, hs, p0, p1, q0, q1, r0, r1, s0, s1, e⟩ := four (szV a) (szV b) x0 (by omega) y0 (by omega)
  refine (rmul_pp a b (szV a) (szV b) p q r s _ w h1 h2 h3 h4 rfl rfl rfl x0 x1 y0 y1 hp hq hr hs p0 p1 q0 q1 r0 r1 s0 s1 (szV a * szV b) e).mono ?_
  rintro e w' ⟨n, h, l, rfl, hn, ⟨k0, k1, k2, k3⟩, hb⟩
  have le : szV a * szV b ≤ 9223372036854775808 * 9223372036854775808 := Int.le_trans (Int.mul_le_mul_of_nonneg_right x1 y0) (Int.mul_le_mul_of_nonneg_left y1 (by omega))
  rw [szV_mul] at hn k3 le
  refine ⟨_, _, _, rfl, ⟨k0, by omega, k1, k2, ?_⟩, hb⟩
  rcases hn with ⟨hz, rfl⟩ | ⟨hz, rfl⟩
  · have : a * b = 0 := by
      by_cases c : a * b < 0
      · rw [szV_neg c] at hz; omega
      · rw [szV_pos (by omega)] at hz; exact hz
    exact .inr ⟨rfl, by omega, by omega⟩
  · have nz : a * b ≠ 0 := by intro c; rw [c] at hz; exact hz rfl
    rw [sign_mul nz]
    by_cases c : a * b < 0
    · rw [szV_neg c] at k3; exact .inl ⟨decide_eq_true c, c, by omega⟩
    · rw [szV_pos (by omega)] at k3; exact .inr ⟨decide_eq_false c, by omega, by omega⟩

set_option maxHeartbeats 400000 in
theorem ref_mul_any (a b : Int) (w : World) (h1 : -9223372036854775808 ≤ a) (h2 : a ≤ 9223372036854775807) (h3 : -9223372036854775808 ≤ b) (h4 : b ≤ 9223372036854775807) :
    Calls Try.prog 14 #[.int .i64 a, .int .i64 b] w fun e w' => e = .returned (.tuple #[.int .i64 (fitV (a * b)), .bool (fitB (a * b))]) ∧ Below w.heap.size w w' := by
  go_enter Try.func14, Try.ntmps14
  go_wp2_with fail
  refine (rmul_any a b _ h1 h2 h3 h4).mono ?_
  rintro e w1 ⟨n, h, l, rfl, hw, g1⟩
  go_wp2_with fail
  refine (back_any _ _ _ _ _ hw).mono ?_
  rintro e w2 ⟨rfl, g2⟩
  have s1 := g1.size
  go_wp2
  go_ret2
  exact ⟨rfl, g1.trans (g2.mono s1)⟩
end Go.Proofs.Ytkalbnhhgobheaa
