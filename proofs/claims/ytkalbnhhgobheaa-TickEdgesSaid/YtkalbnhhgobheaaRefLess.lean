/- The contract of the reference's order of fractions. -/
import Derived.Test.YtkalbnhhgobheaaRefMul
namespace Go.Proofs.Ytkalbnhhgobheaa
open Go.RowKit

set_option maxHeartbeats 400000 in
theorem ref_less_any (a b c d : Int) (w : World) (a0 : -9223372036854775808 ≤ a) (a1 : a ≤ 9223372036854775807) (b1 : b ≤ 9223372036854775807) (c0 : -9223372036854775808 ≤ c) (c1 : c ≤ 9223372036854775807) (d1 : d ≤ 9223372036854775807) :
    Calls Try.prog 20 #[.int .i64 a, .int .i64 b, .int .i64 c, .int .i64 d] w fun e w' => e = .returned (.bool (lessB a b c d)) ∧ Below w.heap.size w w' := by
  by_cases hb : b ≤ 0
  · have K : Hid (lessB a b c d = false) := by show _ = _; unfold lessB; rw [decide_eq_false (by omega)]; rfl
    go_enter Try.func20, Try.ntmps20
    go_wp2
    go_ret
    exact ⟨ret_bool K.out.symm, Below.refl _ _⟩
  · by_cases hd : d ≤ 0
    · have K : Hid (lessB a b c d = false) := by show _ = _; unfold lessB; rw [decide_eq_false (p := 1 ≤ d) (by omega)]; simp
      have hb' : 1 ≤ b := by omega
      go_enter Try.func20, Try.ntmps20
      go_wp2
      go_ret
      exact ⟨ret_bool K.out.symm, Below.refl _ _⟩
    · have hb' : 1 ≤ b := by omega
      have hd' : 1 ≤ d := by omega
      have K : Hid (lessB a b c d = decide (a * d < c * b)) := by show _ = _; unfold lessB; rw [decide_eq_true hb', decide_eq_true hd']; simp
      go_enter Try.func20, Try.ntmps20
      go_wp2_with fail
      refine (rmul_any a d _ a0 a1 (by omega) d1).mono ?_
      rintro e w1 ⟨n, h, l, rfl, hw1, g1⟩
      go_wp2_with fail
      refine (rmul_any c b _ c0 c1 (by omega) b1).mono ?_
      rintro e w2 ⟨m, h', l', rfl, hw2, g2⟩
      have G : Below w.heap.size w w2 := g1.trans (g2.mono g1.size)
      have S : w.heap.size ≤ w2.heap.size := G.size
      obtain ⟨k0, k1, k2, k3, kx⟩ := hw1
      obtain ⟨j0, j1, j2, j3, jx⟩ := hw2
      rcases kx with ⟨rfl, kx, ex⟩ | ⟨rfl, kx, ex⟩ <;> rcases jx with ⟨rfl, jx, ey⟩ | ⟨rfl, jx, ey⟩
      · have K2 : Hid (lessB a b c d = decide (h' * 18446744073709551616 + l' < h * 18446744073709551616 + l)) := by
          show _ = _; rw [K.out, decide_eq_decide]; omega
        clear ex ey
        go_wp2_with (go_at_call 30; refine (above_any _ _ _ _ _ _ _ k2 k3 j2 j3).mono ?_; rintro e w3 ⟨rfl, g3⟩)
        go_ret
        exact ⟨ret_bool K2.out.symm, ((G.alloc S _).alloc (by simp; omega) _).trans (g3.mono (by simp; omega))⟩
      · have K2 : Hid (lessB a b c d = true) := by show _ = _; rw [K.out]; exact decide_eq_true (by omega)
        clear ex ey
        go_wp2
        go_ret
        exact ⟨ret_bool K2.out.symm, (G.alloc S _).alloc (by simp; omega) _⟩
      · have K2 : Hid (lessB a b c d = false) := by show _ = _; rw [K.out]; exact decide_eq_false (by omega)
        clear ex ey
        go_wp2
        go_ret
        exact ⟨ret_bool K2.out.symm, (G.alloc S _).alloc (by simp; omega) _⟩
      · have K2 : Hid (lessB a b c d = decide (h * 18446744073709551616 + l < h' * 18446744073709551616 + l')) := by
          show _ = _; rw [K.out, decide_eq_decide]; omega
        clear ex ey
        go_wp2_with (go_at_call 30; refine (above_any _ _ _ _ _ _ _ j2 j3 k2 k3).mono ?_; rintro e w3 ⟨rfl, g3⟩)
        go_ret
        exact ⟨ret_bool K2.out.symm, ((G.alloc S _).alloc (by simp; omega) _).trans (g3.mono (by simp; omega))⟩
end Go.Proofs.Ytkalbnhhgobheaa
