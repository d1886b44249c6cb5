/- The contracts of the reference's numbers of 128 bits and a sign. -/
import Derived.Test.YtkalbnhhgobheaaTick
import Derived.Deep.QuietTactic
import Derived.BigQuiet
namespace Go.Proofs.Ytkalbnhhgobheaa
open Go.RowKit

def szV (a : Int) : Int := if a < 0 then -a else a
theorem szV_neg {a : Int} (h : a < 0) : szV a = -a := if_pos h
theorem szV_pos {a : Int} (h : 0 ≤ a) : szV a = a := if_neg (by omega)

set_option maxHeartbeats 400000 in
theorem size_any (a : Int) (w : World) (h1 : -9223372036854775808 ≤ a) (h2 : a ≤ 9223372036854775807) :
    Calls Try.prog 31 #[.int .i64 a] w fun e w' => e = .returned (.int .u64 (szV a)) ∧ w' = w := by
  by_cases h : a < 0
  · go_enter Try.func31, Try.ntmps31
    go_wp2
    go_ret
    exact ⟨ret_int (by rw [szV_neg h]; omega), rfl⟩
  · go_enter Try.func31, Try.ntmps31
    go_wp2
    go_ret
    exact ⟨ret_int (by rw [szV_pos (by omega)]), rfl⟩

theorem isW_of {a : Int} (h1 : -9223372036854775808 ≤ a) (h2 : a ≤ 9223372036854775807) : IsW (decide (a < 0)) 0 (szV a) a := by
  by_cases h : a < 0
  · rw [decide_eq_true h, szV_neg h]; refine ⟨by omega, by omega, by omega, by omega, .inl ⟨rfl, h, by omega⟩⟩
  · rw [decide_eq_false h, szV_pos (by omega)]; refine ⟨by omega, by omega, by omega, by omega, .inr ⟨rfl, by omega, by omega⟩⟩

set_option maxHeartbeats 400000 in
theorem of_any (a : Int) (w : World) (h1 : -9223372036854775808 ≤ a) (h2 : a ≤ 9223372036854775807) :
    Calls Try.prog 26 #[.int .i64 a] w fun e w' => e = .returned (.agg #[.bool (decide (a < 0)), .int .u64 0, .int .u64 (szV a)]) ∧ Below w.heap.size w w' := by
  go_enter Try.func26, Try.ntmps26
  go_wp2_with (go_at_call 31; refine (size_any _ _ h1 h2).mono ?_; rintro e w' ⟨rfl, rfl⟩)
  exact bodyPost_ret (v := .agg #[.bool (decide (a < 0)), .int .u64 0, .int .u64 (szV a)]) (by simp [results, Try.results26, go_sem]) rfl ⟨rfl, (Below.refl _ _).alloc (Nat.le_refl _) _⟩

set_option maxHeartbeats 400000 in
theorem above_any (na nb : Bool) (ha la hb lb : Int) (w : World) (a1 : 0 ≤ la) (a2 : la ≤ 18446744073709551615) (b1 : 0 ≤ lb) (b2 : lb ≤ 18446744073709551615) :
    Calls Try.prog 30 #[.agg #[.bool na, .int .u64 ha, .int .u64 la], .agg #[.bool nb, .int .u64 hb, .int .u64 lb]] w fun e w' => e = .returned (.bool (decide (hb * 18446744073709551616 + lb < ha * 18446744073709551616 + la))) ∧ Below w.heap.size w w' := by
  rcases Int.lt_trichotomy hb ha with h | h | h
  · have K : Hid (decide (hb * 18446744073709551616 + lb < ha * 18446744073709551616 + la) = true) := decide_eq_true (by omega)
    go_enter Try.func30, Try.ntmps30
    go_wp2
    go_ret
    exact ⟨ret_bool K.out.symm, ((Below.refl _ _).alloc (Nat.le_refl _) _).alloc (by simp) _⟩
  · subst h
    have K : Hid (decide (hb * 18446744073709551616 + lb < hb * 18446744073709551616 + la) = decide (lb < la)) := by
      show _ = _; rw [decide_eq_decide]; omega
    go_enter Try.func30, Try.ntmps30
    go_wp2
    go_ret
    exact ⟨ret_bool K.out.symm, ((Below.refl _ _).alloc (Nat.le_refl _) _).alloc (by simp) _⟩
  · have K : Hid (decide (hb * 18446744073709551616 + lb < ha * 18446744073709551616 + la) = false) := decide_eq_false (by omega)
    have hne : (ha == hb) = false := by simp; omega
    have hd : decide (hb < ha) = false := decide_eq_false (by omega)
    go_enter Try.func30, Try.ntmps30
    go_wp2
    go_ret
    exact ⟨ret_bool K.out.symm, ((Below.refl _ _).alloc (Nat.le_refl _) _).alloc (by simp) _⟩

set_option maxHeartbeats 400000 in
theorem back_any (n : Bool) (h l x : Int) (w : World) (hw : IsW n h l x) :
    Calls Try.prog 24 #[.agg #[.bool n, .int .u64 h, .int .u64 l]] w fun e w' => e = .returned (.tuple #[.int .i64 (fitV x), .bool (fitB x)]) ∧ Below w.heap.size w w' := by
  obtain ⟨h0, h1, l0, l1, hx⟩ := hw
  by_cases c1 : 0 < h
  · have KV : Hid (fitV x = 0) := fitV_no (by omega)
    have KB : Hid (fitB x = false) := fitB_no (by omega)
    clear hx
    go_enter Try.func24, Try.ntmps24
    go_wp2
    go_ret2
    exact ⟨ret_two KV.out.symm KB.out.symm, (Below.refl _ _).alloc (Nat.le_refl _) _⟩
  · have c1' : h ≤ 0 := by omega
    by_cases c2 : 9223372036854775808 < l
    · have KV : Hid (fitV x = 0) := fitV_no (by omega)
      have KB : Hid (fitB x = false) := fitB_no (by omega)
      clear hx c1
      go_enter Try.func24, Try.ntmps24
      go_wp2
      go_ret2
      exact ⟨ret_two KV.out.symm KB.out.symm, (Below.refl _ _).alloc (Nat.le_refl _) _⟩
    · have c2' : l ≤ 9223372036854775808 := by omega
      rcases hx with ⟨rfl, hneg, hx⟩ | ⟨rfl, hpos, hx⟩
      · have KV : Hid (fitV x = -(l - 1) - 1) := by show _ = _; rw [fitV_yes (by omega) (by omega)]; omega
        have KB : Hid (fitB x = true) := fitB_yes (by omega) (by omega)
        have l2 : 1 ≤ l := by omega
        clear hx c1 c2 hneg
        go_enter Try.func24, Try.ntmps24
        go_wp2
        go_ret2
        exact ⟨ret_two (by rw [KV.out]) KB.out.symm, (Below.refl _ _).alloc (Nat.le_refl _) _⟩
      · by_cases c3 : l = 9223372036854775808
        · have KV : Hid (fitV x = 0) := fitV_no (by omega)
          have KB : Hid (fitB x = false) := fitB_no (by omega)
          have c4 : (l == 9223372036854775808) = true := by simpa using c3
          clear hx c1 c2 c3 hpos
          go_enter Try.func24, Try.ntmps24
          go_wp2
          go_ret2
          exact ⟨ret_two KV.out.symm KB.out.symm, (Below.refl _ _).alloc (Nat.le_refl _) _⟩
        · have KV : Hid (fitV x = l) := by show _ = _; rw [fitV_yes (by omega) (by omega)]; omega
          have KB : Hid (fitB x = true) := fitB_yes (by omega) (by omega)
          have c4 : (l == 9223372036854775808) = false := by simpa using c3
          have c5 : l ≤ 9223372036854775807 := by omega
          clear hx c1 c2 c3 hpos
          go_enter Try.func24, Try.ntmps24
          go_wp2
          go_ret2
          exact ⟨ret_two (by rw [KV.out]) KB.out.symm, (Below.refl _ _).alloc (Nat.le_refl _) _⟩
end Go.Proofs.Ytkalbnhhgobheaa
