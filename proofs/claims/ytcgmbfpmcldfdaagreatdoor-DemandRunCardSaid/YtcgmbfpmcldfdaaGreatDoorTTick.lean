/- The contracts of package tick's functions over the landed code, but for Sum. -/
import Derived.Test.YtcgmbfpmcldfdaaGreatDoorRows
import Derived.Test.YtcgmbfpmcldfdaaGreatDoorTMath
import Derived.WalkKit
import Derived.WalkSpells
import Derived.WalkLawsBesides
namespace Go.Proofs.YtcgmbfpmcldfdaaGreatDoor.T
open Go.RowKit

theorem ret_int {k : IntKind} {a b : Int} (h : a = b) : Ending.returned (.int k a) = .returned (.int k b) := by rw [h]
theorem ret_bool {a b : Bool} (h : a = b) : Ending.returned (.bool a) = .returned (.bool b) := by rw [h]
theorem ret_two {k : IntKind} {a b : Int} {c d : Bool} (h : a = b) (g : c = d) : Ending.returned (.tuple #[.int k a, .bool c]) = .returned (.tuple #[.int k b, .bool d]) := by rw [h, g]
theorem w64 {x : Int} (h1 : -9223372036854775808 ≤ x) (h2 : x ≤ 9223372036854775807) : wrap64 x = x := IntWalk.wrap64_in x ⟨by omega, by omega⟩

set_option maxHeartbeats 400000 in
theorem up_any (a b : Int) (w : World) (h1 : -9223372036854775808 ≤ a) (h2 : a ≤ 9223372036854775807) (hb2 : b ≤ 9223372036854775807) :
    Calls Tryz.prog 26 #[.int .i64 a, .int .i64 b] w fun e w' => e = .returned (.int .i64 (upV a b)) ∧ w' = w := by
  by_cases hb : b ≤ 0
  · go_enter Tryz.func26, Tryz.ntmps26
    go_wp2
    go_ret
    exact ⟨ret_int (by unfold upV; rw [if_pos hb]), rfl⟩
  · have hb1 : 1 ≤ b := by omega
    have ub := up_bd hb1 h1 h2
    have hv : Hid (upV a b = -((-a) / b)) := by unfold upV; exact if_neg hb
    by_cases hm : 0 < a.tmod b
    · have hq := up_gt hb1 hm
      have HQ : Hid (a.tdiv b + 1 = -((-a) / b)) := hq
      clear hq
      go_enter Tryz.func26, Tryz.ntmps26
      go_wp2
      go_ret
      exact ⟨ret_int (by rw [hv.out, ← HQ.out]; exact w64 (by rw [HQ.out]; omega) (by rw [HQ.out]; omega)), rfl⟩
    · have hq := up_le' hb1 (show a.tmod b ≤ 0 by omega)
      have HQ : Hid (a.tdiv b = -((-a) / b)) := hq
      clear hq
      go_enter Tryz.func26, Tryz.ntmps26
      go_wp2
      go_ret
      exact ⟨ret_int (by rw [hv.out, ← HQ.out]), rfl⟩

set_option maxHeartbeats 400000 in
theorem down_any (a b : Int) (w : World) (h1 : -9223372036854775808 ≤ a) (h2 : a ≤ 9223372036854775807) (hb2 : b ≤ 9223372036854775807) :
    Calls Tryz.prog 65 #[.int .i64 a, .int .i64 b] w fun e w' => e = .returned (.int .i64 (downV a b)) ∧ w' = w := by
  by_cases hb : b ≤ 0
  · go_enter Tryz.func65, Tryz.ntmps65
    go_wp2
    go_ret
    exact ⟨ret_int (by unfold downV; rw [if_pos hb]), rfl⟩
  · have hb1 : 1 ≤ b := by omega
    have ub := div_bd hb1 h1 h2
    have hv : Hid (downV a b = a / b) := by unfold downV; exact if_neg hb
    by_cases hm : a.tmod b < 0
    · have hq := down_lt hb1 hm
      have HQ : Hid (a.tdiv b - 1 = a / b) := hq
      clear hq
      go_enter Tryz.func65, Tryz.ntmps65
      go_wp2
      go_ret
      exact ⟨ret_int (by rw [hv.out, ← HQ.out]; exact w64 (by rw [HQ.out]; omega) (by rw [HQ.out]; omega)), rfl⟩
    · have hq := down_ge hb1 (show 0 ≤ a.tmod b by omega)
      have HQ : Hid (a.tdiv b = a / b) := hq
      clear hq
      go_enter Tryz.func65, Tryz.ntmps65
      go_wp2
      go_ret
      exact ⟨ret_int (by rw [hv.out, ← HQ.out]), rfl⟩

set_option maxHeartbeats 400000 in
theorem rest_any (a b : Int) (w : World) (_h1 : -9223372036854775808 ≤ a) (_h2 : a ≤ 9223372036854775807) (hb : 1 ≤ b) (hb2 : b ≤ 9223372036854775807) :
    Calls Tryz.prog 75 #[.int .i64 a, .int .i64 b] w fun e w' => e = .returned (.int .u64 (a % b)) ∧ w' = w := by
  have l := t_lt a b hb
  have e := t_eq a b
  by_cases hm : a.tmod b < 0
  · have hq : Hid (a % b = a.tmod b + b) := emod_of (q := a.tdiv b - 1) hb (by rw [Int.mul_sub]; omega) (by omega) (by omega)
    clear e
    go_enter Tryz.func75, Tryz.ntmps75
    go_wp2
    go_ret
    exact ⟨ret_int (by rw [hq.out]), rfl⟩
  · have hq : Hid (a % b = a.tmod b) := emod_of (q := a.tdiv b) hb (by omega) (by omega) (by omega)
    clear e
    go_enter Tryz.func75, Tryz.ntmps75
    go_wp2
    go_ret
    exact ⟨ret_int (by rw [hq.out]), rfl⟩

set_option maxHeartbeats 400000 in
theorem add_any (a b : Int) (w : World) (h1 : -9223372036854775808 ≤ a) (h2 : a ≤ 9223372036854775807) (h3 : -9223372036854775808 ≤ b) (h4 : b ≤ 9223372036854775807) :
    Calls Tryz.prog 62 #[.int .i64 a, .int .i64 b] w fun e w' => e = .returned (.tuple #[.int .i64 (fitV (a + b)), .bool (fitB (a + b))]) ∧ w' = w := by
  by_cases h : a + b < -9223372036854775808 ∨ 9223372036854775807 < a + b
  · have HV := fitV_no h
    have HB := fitB_no h
    have KV : Hid (fitV (a + b) = 0) := HV
    have KB : Hid (fitB (a + b) = false) := HB
    clear HV HB
    by_cases hb : 0 < b
    · have g : 9223372036854775807 - b < a := by omega
      clear h
      go_enter Tryz.func62, Tryz.ntmps62
      go_wp2
      go_ret2
      exact ⟨ret_two KV.out.symm KB.out.symm, rfl⟩
    · have g : a < -9223372036854775808 - b := by omega
      have g2 : b < 0 := by omega
      clear h
      go_enter Tryz.func62, Tryz.ntmps62
      go_wp2
      go_ret2
      exact ⟨ret_two KV.out.symm KB.out.symm, rfl⟩
  · have k1 : -9223372036854775808 ≤ a + b := by omega
    have k2 : a + b ≤ 9223372036854775807 := by omega
    have KV : Hid (fitV (a + b) = a + b) := fitV_yes k1 k2
    have KB : Hid (fitB (a + b) = true) := fitB_yes k1 k2
    clear h
    rcases Int.lt_trichotomy 0 b with hb | hb | hb
    · go_enter Tryz.func62, Tryz.ntmps62
      go_wp2
      go_ret2
      exact ⟨ret_two KV.out.symm KB.out.symm, rfl⟩
    · subst hb
      go_enter Tryz.func62, Tryz.ntmps62
      go_wp2
      go_ret2
      exact ⟨ret_two (by rw [KV.out]; omega) KB.out.symm, rfl⟩
    · go_enter Tryz.func62, Tryz.ntmps62
      go_wp2
      go_ret2
      exact ⟨ret_two KV.out.symm KB.out.symm, rfl⟩
theorem min_quo {a : Int} (ha : 1 ≤ a) : wrap64 (-Int.tdiv 9223372036854775808 a) = (-9223372036854775808 : Int).tdiv a := by
  have h := div_bd (a := -9223372036854775808) ha (by omega) (by omega)
  have e : (-9223372036854775808 : Int).tdiv a = -Int.tdiv 9223372036854775808 a := Int.neg_tdiv _ _
  have k : (0 : Int) ≤ 9223372036854775808 / a := Int.ediv_nonneg (by omega) (by omega)
  have k2 : 9223372036854775808 / a ≤ 9223372036854775808 := Int.ediv_le_self _ (by omega)
  rw [← e, min_tdiv ha]
  exact w64 (by omega) (by omega)
theorem max_quo {b : Int} (hb : b ≤ -1) : wrap64 (Int.tdiv 9223372036854775807 b) = Int.tdiv 9223372036854775807 b := by
  have k : (0 : Int) ≤ 9223372036854775807 / (-b) := Int.ediv_nonneg (by omega) (by omega)
  have k2 : 9223372036854775807 / (-b) ≤ 9223372036854775807 := Int.ediv_le_self _ (by omega)
  rw [max_tdiv hb]
  exact w64 (by omega) (by omega)

set_option maxHeartbeats 400000 in
theorem fits_any (a b : Int) (w : World) (h1 : -9223372036854775808 ≤ a) (h2 : a ≤ 9223372036854775807) (h3 : -9223372036854775808 ≤ b) (h4 : b ≤ 9223372036854775807) :
    Calls Tryz.prog 73 #[.int .i64 a, .int .i64 b] w fun e w' => e = .returned (.bool (fitB (a * b))) ∧ w' = w := by
  rcases Int.lt_trichotomy 0 a with ha | ha | ha
  · rcases Int.lt_trichotomy 0 b with hb | hb | hb
    · have f := fit_pp (a := a) (b := b) (by omega) (by omega)
      have g := pp_pos (a := a) (b := b) (by omega) (by omega)
      have KB : Hid (fitB (a * b) = decide (a ≤ 9223372036854775807 / b)) := by
        show _ = _
        by_cases h : a * b ≤ 9223372036854775807
        · rw [fitB_yes (by omega) h, decide_eq_true (f.2 h)]
        · rw [fitB_no (.inr (by omega)), decide_eq_false (fun c => h (f.1 c))]
      clear f g
      go_enter Tryz.func73, Tryz.ntmps73
      go_wp2
      go_ret
      exact ⟨ret_bool (by rw [KB.out]), rfl⟩
    · subst hb
      go_enter Tryz.func73, Tryz.ntmps73
      go_wp2
      go_ret
      exact ⟨ret_bool (by rfl), rfl⟩
    · have f := fit_pm (a := a) (b := b) (by omega)
      have g := pm_neg (a := a) (b := b) (by omega) (by omega)
      have KB : Hid (fitB (a * b) = decide ((-9223372036854775808 : Int).tdiv a ≤ b)) := by
        show _ = _
        by_cases h : -9223372036854775808 ≤ a * b
        · rw [fitB_yes h (by omega), decide_eq_true (f.2 h)]
        · rw [fitB_no (.inl (by omega)), decide_eq_false (fun c => h (f.1 c))]
      clear f g
      go_enter Tryz.func73, Tryz.ntmps73
      go_wp2
      go_ret
      exact ⟨ret_bool (by rw [KB.out, ← min_quo (by omega)]), rfl⟩
  · subst ha
    go_enter Tryz.func73, Tryz.ntmps73
    go_wp2
    go_ret
    exact ⟨ret_bool (by first | rfl | (rw [Int.zero_mul]; rfl)), rfl⟩
  · rcases Int.lt_trichotomy 0 b with hb | hb | hb
    · have f := fit_pm (a := b) (b := a) (by omega)
      have g := pm_neg (a := b) (b := a) (by omega) (by omega)
      have KB : Hid (fitB (a * b) = decide ((-9223372036854775808 : Int).tdiv b ≤ a)) := by
        show _ = _
        rw [Int.mul_comm]
        by_cases h : -9223372036854775808 ≤ b * a
        · rw [fitB_yes h (by omega), decide_eq_true (f.2 h)]
        · rw [fitB_no (.inl (by omega)), decide_eq_false (fun c => h (f.1 c))]
      clear f g
      go_enter Tryz.func73, Tryz.ntmps73
      go_wp2
      go_ret
      exact ⟨ret_bool (by rw [KB.out, ← min_quo (by omega)]), rfl⟩
    · subst hb
      go_enter Tryz.func73, Tryz.ntmps73
      go_wp2
      go_ret
      exact ⟨ret_bool (by rfl), rfl⟩
    · have f := fit_mm (a := a) (b := b) (by omega)
      have g := mm_pos (a := a) (b := b) (by omega) (by omega)
      have KB : Hid (fitB (a * b) = decide ((9223372036854775807 : Int).tdiv b ≤ a)) := by
        show _ = _
        by_cases h : a * b ≤ 9223372036854775807
        · rw [fitB_yes (by omega) h, decide_eq_true (f.2 h)]
        · rw [fitB_no (.inr (by omega)), decide_eq_false (fun c => h (f.1 c))]
      clear f g
      go_enter Tryz.func73, Tryz.ntmps73
      go_wp2
      go_ret
      exact ⟨ret_bool (by rw [KB.out, max_quo (by omega)]), rfl⟩

set_option maxHeartbeats 400000 in
theorem mul_any (a b : Int) (w : World) (h1 : -9223372036854775808 ≤ a) (h2 : a ≤ 9223372036854775807) (h3 : -9223372036854775808 ≤ b) (h4 : b ≤ 9223372036854775807) :
    Calls Tryz.prog 63 #[.int .i64 a, .int .i64 b] w fun e w' => e = .returned (.tuple #[.int .i64 (fitV (a * b)), .bool (fitB (a * b))]) ∧ w' = w := by
  by_cases h : a * b < -9223372036854775808 ∨ 9223372036854775807 < a * b
  · have KV : Hid (fitV (a * b) = 0) := fitV_no h
    have KB : fitB (a * b) = false := fitB_no h
    clear h
    go_enter Tryz.func63, Tryz.ntmps63
    go_wp2_with (go_at_call 73; refine (fits_any _ _ _ h1 h2 h3 h4).mono ?_; rintro e w' ⟨rfl, rfl⟩)
    go_ret2
    exact ⟨ret_two KV.out.symm KB.symm, rfl⟩
  · have k1 : -9223372036854775808 ≤ a * b := by omega
    have k2 : a * b ≤ 9223372036854775807 := by omega
    have KV : Hid (fitV (a * b) = a * b) := fitV_yes k1 k2
    have KB : fitB (a * b) = true := fitB_yes k1 k2
    clear h
    go_enter Tryz.func63, Tryz.ntmps63
    go_wp2_with (go_at_call 73; refine (fits_any _ _ _ h1 h2 h3 h4).mono ?_; rintro e w' ⟨rfl, rfl⟩)
    go_ret2
    exact ⟨ret_two KV.out.symm KB.symm, rfl⟩


theorem wu64 {x : Int} (h1 : 0 ≤ x) (h2 : x ≤ 18446744073709551615) : IntKind.u64.wrap x = x := by rw [IntKind.wrap_u64]; omega

theorem ret_uu {a b c d : Int} (h : a = b) (g : c = d) : Ending.returned (.tuple #[.int .u64 a, .int .u64 c]) = .returned (.tuple #[.int .u64 b, .int .u64 d]) := by rw [h, g]

theorem four (x y : Int) (hx0 : 0 ≤ x) (hx : x ≤ 18446744073709551615) (hy0 : 0 ≤ y) (hy : y ≤ 18446744073709551615) :
    ∃ p q r s : Int, x / 4294967296 * (y / 4294967296) = p ∧ x / 4294967296 * (y % 4294967296) = q ∧ x % 4294967296 * (y / 4294967296) = r ∧ x % 4294967296 * (y % 4294967296) = s ∧
      0 ≤ p ∧ p ≤ 18446744065119617025 ∧ 0 ≤ q ∧ q ≤ 18446744065119617025 ∧ 0 ≤ r ∧ r ≤ 18446744065119617025 ∧ 0 ≤ s ∧ s ≤ 18446744065119617025 ∧
      x * y = p * 18446744073709551616 + (q + r) * 4294967296 + s := by
  have e : x * y = (x / 4294967296 * 4294967296 + x % 4294967296) * (y / 4294967296 * 4294967296 + y % 4294967296) := by
    rw [Int.ediv_mul_add_emod, Int.ediv_mul_add_emod]
  rw [split_mul] at e
  have b1 := half_mul_le (a := x / 4294967296) (b := y / 4294967296) (by omega) (by omega) (by omega) (by omega)
  have b2 := half_mul_le (a := x / 4294967296) (b := y % 4294967296) (by omega) (by omega) (by omega) (by omega)
  have b3 := half_mul_le (a := x % 4294967296) (b := y / 4294967296) (by omega) (by omega) (by omega) (by omega)
  have b4 := half_mul_le (a := x % 4294967296) (b := y % 4294967296) (by omega) (by omega) (by omega) (by omega)
  exact ⟨_, _, _, _, rfl, rfl, rfl, rfl, b1.1, b1.2, b2.1, b2.2, b3.1, b3.2, b4.1, b4.2, e⟩

theorem hi_eq (x y : Int) (hx0 : 0 ≤ x) (hx : x ≤ 18446744073709551615) (hy0 : 0 ≤ y) (hy : y ≤ 18446744073709551615) :
    (IntKind.u64.wrap
              (IntKind.u64.wrap
                  (IntKind.u64.wrap (x / 4294967296 * (y / 4294967296)) +
                    IntKind.u64.wrap
                        (IntKind.u64.wrap (x / 4294967296 * (y % 4294967296)) +
                          IntKind.u64.wrap (x % 4294967296 * (y % 4294967296)) / 4294967296) /
                      4294967296) +
                IntKind.u64.wrap
                    (bits BinOp.and IntKind.u64
                        (IntKind.u64.wrap
                          (IntKind.u64.wrap (x / 4294967296 * (y % 4294967296)) +
                            IntKind.u64.wrap (x % 4294967296 * (y % 4294967296)) / 4294967296))
                        4294967295 +
                      IntKind.u64.wrap (x % 4294967296 * (y / 4294967296))) /
                  4294967296)) = x * y / 18446744073709551616 := by
  obtain ⟨p, q, r, s, hp, hq, hr, hs, p0, p1, q0, q1, r0, r1, s0, s1, e⟩ := four x y hx0 hx hy0 hy
  rw [hp, hq, hr, hs, e]
  clear hp hq hr hs e hx0 hx hy0 hy
  rw [wu64 (x := p) p0 (by omega), wu64 (x := q) q0 (by omega), wu64 (x := r) r0 (by omega), wu64 (x := s) s0 (by omega)]
  rw [wu64 (x := q + s / 4294967296) (by omega) (by omega), and_mask_u _ (by omega) (by omega)]
  rw [wu64 (x := (q + s / 4294967296) % 4294967296 + r) (by omega) (by omega)]
  rw [wu64 (x := p + (q + s / 4294967296) / 4294967296) (by omega) (by omega)]
  rw [IntKind.wrap_u64]
  omega

set_option maxHeartbeats 1000000 in
theorem mul64_any (x y : Int) (w : World) (hx0 : 0 ≤ x) (hx : x ≤ 18446744073709551615) (hy0 : 0 ≤ y) (hy : y ≤ 18446744073709551615) :
    Calls Tryz.prog 97 #[.int .u64 x, .int .u64 y] w fun e w' => e = .returned (.tuple #[.int .u64 (x * y / 18446744073709551616), .int .u64 (x * y % 18446744073709551616)]) ∧ w' = w := by
  have mx := and_mask_u x hx0 hx
  have my := and_mask_u y hy0 hy
  go_enter Tryz.func97, Tryz.ntmps97
  go_wp2
  go_ret2
  exact ⟨ret_uu (hi_eq x y hx0 hx hy0 hy) (IntKind.wrap_u64 _), rfl⟩

set_option maxHeartbeats 400000 in
theorem pless_any (a b c d : Int) (w : World) (a0 : 0 ≤ a) (a1 : a ≤ 18446744073709551615) (b0 : 0 ≤ b) (b1 : b ≤ 18446744073709551615) (c0 : 0 ≤ c) (c1 : c ≤ 18446744073709551615) (d0 : 0 ≤ d) (d1 : d ≤ 18446744073709551615) :
    Calls Tryz.prog 74 #[.int .u64 a, .int .u64 b, .int .u64 c, .int .u64 d] w fun e w' => e = .returned (.bool (decide (a * b < c * d))) ∧ w' = w := by
  by_cases h : a * b / 18446744073709551616 = c * d / 18446744073709551616
  · have K : Hid (decide (a * b < c * d) = decide (a * b % 18446744073709551616 < c * d % 18446744073709551616)) := by
      show _ = _
      rw [decide_eq_decide]; omega
    have hne : (a * b / 18446744073709551616 != c * d / 18446744073709551616) = false := by rw [h]; simp
    clear h
    go_enter Tryz.func74, Tryz.ntmps74
    go_wp2_with (go_at_call 97; refine (mul64_any _ _ _ (by omega) (by omega) (by omega) (by omega)).mono ?_; rintro e w' ⟨rfl, rfl⟩)
    go_ret
    exact ⟨ret_bool K.out.symm, rfl⟩
  · have K : Hid (decide (a * b < c * d) = decide (a * b / 18446744073709551616 < c * d / 18446744073709551616)) := by
      show _ = _
      rw [decide_eq_decide]; omega
    have hne : (a * b / 18446744073709551616 != c * d / 18446744073709551616) = true := by simpa using h
    clear h
    go_enter Tryz.func74, Tryz.ntmps74
    go_wp2_with (go_at_call 97; refine (mul64_any _ _ _ (by omega) (by omega) (by omega) (by omega)).mono ?_; rintro e w' ⟨rfl, rfl⟩)
    go_ret
    exact ⟨ret_bool K.out.symm, rfl⟩


set_option maxHeartbeats 400000 in
theorem less_any (a b c d : Int) (w : World) (a0 : -9223372036854775808 ≤ a) (a1 : a ≤ 9223372036854775807) (b1 : b ≤ 9223372036854775807) (c0 : -9223372036854775808 ≤ c) (c1 : c ≤ 9223372036854775807) (d1 : d ≤ 9223372036854775807) :
    Calls Tryz.prog 66 #[.int .i64 a, .int .i64 b, .int .i64 c, .int .i64 d] w fun e w' => e = .returned (.bool (lessB a b c d)) ∧ w' = w := by
  by_cases hb : b ≤ 0
  · have K : Hid (lessB a b c d = false) := by show _ = _; unfold lessB; rw [decide_eq_false (by omega)]; rfl
    go_enter Tryz.func66, Tryz.ntmps66
    go_wp2
    go_ret
    exact ⟨ret_bool K.out.symm, rfl⟩
  · by_cases hd : d ≤ 0
    · have K : Hid (lessB a b c d = false) := by show _ = _; unfold lessB; rw [decide_eq_false (p := 1 ≤ d) (by omega)]; simp
      have hb' : 1 ≤ b := by omega
      go_enter Tryz.func66, Tryz.ntmps66
      go_wp2
      go_ret
      exact ⟨ret_bool K.out.symm, rfl⟩
    · have hb' : 1 ≤ b := by omega
      have hd' : 1 ≤ d := by omega
      have K : Hid (lessB a b c d = decide (a * d < c * b)) := by show _ = _; unfold lessB; rw [decide_eq_true hb', decide_eq_true hd']; simp
      have X := less_cross (a := a) (c := c) hb' hd'
      have e1 : Hid (downV a b = a / b) := if_neg hb
      have e2 : Hid (downV c d = c / d) := if_neg hd
      have r1 := Int.emod_nonneg a (show b ≠ 0 by omega)
      have r2 := Int.emod_nonneg c (show d ≠ 0 by omega)
      have l1 := Int.emod_lt_of_pos a (show 0 < b by omega)
      have l2 := Int.emod_lt_of_pos c (show 0 < d by omega)
      by_cases h : downV a b = downV c d
      · have hne : (downV a b != downV c d) = false := by rw [h]; simp
        have K2 : Hid (lessB a b c d = decide (a % b * d < c % d * b)) := by
          show _ = _
          rw [K.out, decide_eq_decide, X, ← e1.out, ← e2.out]
          constructor
          · rintro (g | ⟨_, g⟩)
            · omega
            · exact g
          · intro g; exact .inr ⟨h, g⟩
        clear h X
        go_enter Tryz.func66, Tryz.ntmps66
        go_wp2_with (first | (go_at_call 65; refine (down_any _ _ _ (by omega) (by omega) (by omega)).mono ?_; rintro e w' ⟨rfl, rfl⟩) | (go_at_call 75; refine (rest_any _ _ _ (by omega) (by omega) (by omega) (by omega)).mono ?_; rintro e w' ⟨rfl, rfl⟩) | (go_at_call 74; refine (pless_any _ _ _ _ _ (by omega) (by omega) (by omega) (by omega) (by omega) (by omega) (by omega) (by omega)).mono ?_; rintro e w' ⟨rfl, rfl⟩))
        go_ret
        exact ⟨ret_bool K2.out.symm, rfl⟩
      · have hne : (downV a b != downV c d) = true := by simpa using h
        have K2 : Hid (lessB a b c d = decide (downV a b < downV c d)) := by
          show _ = _
          rw [K.out, decide_eq_decide, X, ← e1.out, ← e2.out]
          constructor
          · rintro (g | ⟨g, _⟩)
            · exact g
            · exact absurd g h
          · intro g; exact .inl g
        clear h X
        go_enter Tryz.func66, Tryz.ntmps66
        go_wp2_with (first | (go_at_call 65; refine (down_any _ _ _ (by omega) (by omega) (by omega)).mono ?_; rintro e w' ⟨rfl, rfl⟩))
        go_ret
        exact ⟨ret_bool K2.out.symm, rfl⟩

end Go.Proofs.YtcgmbfpmcldfdaaGreatDoor.T
