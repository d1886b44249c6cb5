/- The contracts of the reference's Add, Mul, Less and Sum. -/
import Derived.Test.YtkalbnhhgobheaaRefAdd
import Derived.Test.YtkalbnhhgobheaaSum
namespace Go.Proofs.Ytkalbnhhgobheaa
open Go.RowKit

theorem radd_any (na : Bool) (ha la : Int) (nb : Bool) (hb lb : Int) (x y : Int) (w : World) (wx : IsW na ha la x) (wy : IsW nb hb lb y) (a1 : ha ≤ 4611686018427387904) (b1 : hb ≤ 4611686018427387904) :
    Calls Try.prog 25 #[.agg #[.bool na, .int .u64 ha, .int .u64 la], .agg #[.bool nb, .int .u64 hb, .int .u64 lb]] w fun e w' =>
      ∃ n h l, e = .returned (.agg #[.bool n, .int .u64 h, .int .u64 l]) ∧ IsW n h l (x + y) ∧ Below w.heap.size w w' := by
  obtain ⟨p0, p1, p2, p3, px⟩ := wx
  obtain ⟨q0, q1, q2, q3, qy⟩ := wy
  rcases px with ⟨rfl, px, ex⟩ | ⟨rfl, px, ex⟩ <;> rcases qy with ⟨rfl, qy, ey⟩ | ⟨rfl, qy, ey⟩
  · refine (add_same true ha la hb lb w p0 a1 p2 p3 q0 b1 q2 q3).mono ?_
    rintro e w' ⟨h, l, rfl, ⟨k0, k1, k2, k3, k4⟩, hb⟩
    exact ⟨_, _, _, rfl, ⟨k0, by omega, k2, k3, .inl ⟨rfl, by omega, by omega⟩⟩, hb⟩
  · rcases Int.lt_trichotomy (ha * 18446744073709551616 + la) (hb * 18446744073709551616 + lb) with c | c | c
    · refine (add_more false ha la hb lb w p0 a1 p2 p3 q0 b1 q2 q3 c).mono ?_
      rintro e w' ⟨h, l, rfl, ⟨k0, k1, k2, k3, k4⟩, hb⟩
      exact ⟨_, _, _, rfl, ⟨k0, by omega, k2, k3, .inr ⟨rfl, by omega, by omega⟩⟩, hb⟩
    · obtain ⟨rfl, rfl⟩ : ha = hb ∧ la = lb := by omega
      refine (add_even true ha la w p0 a1 p2 p3).mono ?_
      rintro e w' ⟨rfl, hb⟩
      exact ⟨_, _, _, rfl, ⟨by omega, by omega, by omega, by omega, .inr ⟨rfl, by omega, by omega⟩⟩, hb⟩
    · refine (add_less true ha la hb lb w p0 a1 p2 p3 q0 b1 q2 q3 c).mono ?_
      rintro e w' ⟨h, l, rfl, ⟨k0, k1, k2, k3, k4⟩, hb⟩
      exact ⟨_, _, _, rfl, ⟨k0, by omega, k2, k3, .inl ⟨rfl, by omega, by omega⟩⟩, hb⟩
  · rcases Int.lt_trichotomy (ha * 18446744073709551616 + la) (hb * 18446744073709551616 + lb) with c | c | c
    · refine (add_more true ha la hb lb w p0 a1 p2 p3 q0 b1 q2 q3 c).mono ?_
      rintro e w' ⟨h, l, rfl, ⟨k0, k1, k2, k3, k4⟩, hb⟩
      exact ⟨_, _, _, rfl, ⟨k0, by omega, k2, k3, .inl ⟨rfl, by omega, by omega⟩⟩, hb⟩
    · obtain ⟨rfl, rfl⟩ : ha = hb ∧ la = lb := by omega
      refine (add_even false ha la w p0 a1 p2 p3).mono ?_
      rintro e w' ⟨rfl, hb⟩
      exact ⟨_, _, _, rfl, ⟨by omega, by omega, by omega, by omega, .inr ⟨rfl, by omega, by omega⟩⟩, hb⟩
    · refine (add_less false ha la hb lb w p0 a1 p2 p3 q0 b1 q2 q3 c).mono ?_
      rintro e w' ⟨h, l, rfl, ⟨k0, k1, k2, k3, k4⟩, hb⟩
      exact ⟨_, _, _, rfl, ⟨k0, by omega, k2, k3, .inr ⟨rfl, by omega, by omega⟩⟩, hb⟩
  · refine (add_same false ha la hb lb w p0 a1 p2 p3 q0 b1 q2 q3).mono ?_
    rintro e w' ⟨h, l, rfl, ⟨k0, k1, k2, k3, k4⟩, hb⟩
    exact ⟨_, _, _, rfl, ⟨k0, by omega, k2, k3, .inr ⟨rfl, by omega, by omega⟩⟩, hb⟩

set_option maxHeartbeats 400000 in
theorem ref_add_any (a b : Int) (w : World) (h1 : -9223372036854775808 ≤ a) (h2 : a ≤ 9223372036854775807) (h3 : -9223372036854775808 ≤ b) (h4 : b ≤ 9223372036854775807) :
    Calls Try.prog 13 #[.int .i64 a, .int .i64 b] w fun e w' => e = .returned (.tuple #[.int .i64 (fitV (a + b)), .bool (fitB (a + b))]) ∧ Below w.heap.size w w' := by
  go_enter Try.func13, Try.ntmps13
  go_wp2_with fail
  refine (of_any _ _ h1 h2).mono ?_
  rintro e w1 ⟨rfl, g1⟩
  go_wp2_with fail
  refine (of_any _ _ h3 h4).mono ?_
  rintro e w2 ⟨rfl, g2⟩
  go_wp2_with fail
  refine (radd_any _ _ _ _ _ _ a b _ (isW_of h1 h2) (isW_of h3 h4) (by omega) (by omega)).mono ?_
  rintro e w3 ⟨n, h, l, rfl, hw, g3⟩
  go_wp2_with fail
  refine (back_any _ _ _ _ _ hw).mono ?_
  rintro e w4 ⟨rfl, g4⟩
  have s1 := g1.size
  have s2 := g2.size
  have s3 := g3.size
  go_wp2
  go_ret2
  exact ⟨rfl, ((g1.trans (g2.mono s1)).trans (g3.mono (Nat.le_trans s1 s2))).trans (g4.mono (Nat.le_trans (Nat.le_trans s1 s2) s3))⟩
end Go.Proofs.Ytkalbnhhgobheaa
