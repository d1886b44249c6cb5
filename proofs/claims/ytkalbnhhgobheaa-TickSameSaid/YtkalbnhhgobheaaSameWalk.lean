/- The walk of the law TickSame. -/
import Derived.Test.YtkalbnhhgobheaaOwn
namespace Go.Proofs.Ytkalbnhhgobheaa
open Go.RowKit
set_option maxHeartbeats 1600000 in
set_option maxRecDepth 100000 in
theorem same_walk (a0 a1 a3 : Int) (a2 : Option Addr) (len cap n : Nat) (zs : List Int) (w : World) (p0 : -9223372036854775808 ≤ a0) (p1 : a0 ≤ 9223372036854775807) (q0 : -9223372036854775808 ≤ a1) (q1 : a1 ≤ 9223372036854775807)
    (hl : len ≤ cap) (_hm : cap ≤ 9223372036854775807) (hn : n ≤ len) (h20 : n ≤ 20) (hmin : len ≤ 20 → n = len) (hmax : ¬ len ≤ 20 → n = 20)
    (HL : zs.length = n) (Rw : RowAt w a2 zs) (A : AllIn zs) (hnil : a2 = none → len = 0 ∧ cap = 0) :
    Calls Try.prog 7 #[.int .i64 a0, .int .i64 a1, .slice a2 len cap, .int .i64 a3] w fun e w' => e = .returned (.bool true) ∧ Below w.heap.size w w' := by
  have c1 : fitV (a1 + a0) = fitV (a0 + a1) := by rw [Int.add_comm]
  have c2 : fitB (a1 + a0) = fitB (a0 + a1) := by rw [Int.add_comm]
  have c3 : fitV (a1 * a0) = fitV (a0 * a1) := by rw [Int.mul_comm]
  have c4 : fitB (a1 * a0) = fitB (a0 * a1) := by rw [Int.mul_comm]
  have c5 : fitV a0 = a0 := fitV_yes p0 p1
  have c6 : fitB a0 = true := fitB_yes p0 p1
  obtain ⟨i0, hi, hz0, hz1, hz2⟩ := info_parts info2
  obtain ⟨R, ys, YL, YG, RE, RL, YS, YA⟩ : ∃ (R : Nat) (ys : List Int), Hid (n ≤ ys.length) ∧ Hid (∀ k, k < n → ys.getD k 0 = zs.getD ((k + R) % n) 0) ∧ Hid (1 ≤ n → (a3.tmod n + n) % n = (R : Int)) ∧ Hid (1 ≤ n → R < n) ∧ Hid (sumL (ys.take n) = sumL zs) ∧ Hid (AllIn (ys.take n)) := by
    by_cases h1 : 1 ≤ n
    · have h2 := Int.emod_nonneg (a3.tmod n + n) (show (n : Int) ≠ 0 by omega)
      have h3 := Int.emod_lt_of_pos (a3.tmod n + n) (show 0 < (n : Int) by omega)
      obtain ⟨R, hR⟩ := Int.eq_ofNat_of_zero_le h2
      have hlt : R < n := by omega
      refine ⟨R, (zs ++ zs).drop R, ?_, ?_, fun _ => hR, fun _ => hlt, ?_, turned_in zs R n A⟩
      · show n ≤ _; simp; omega
      · intro k hk; rw [← HL]; exact turned zs R k (by omega) (by omega)
      · show _ = _; rw [← HL]; exact turned_sum zs R (by omega)
    · obtain rfl : n = 0 := by omega
      obtain rfl : zs = [] := List.eq_nil_of_length_eq_zero HL
      exact ⟨0, [], Nat.le_refl _, fun k hk => absurd hk (by omega), fun h => absurd h (by omega), fun h => absurd h (by omega), rfl, allIn_nil⟩
  by_cases hlen : len ≤ 20
  · obtain rfl := hmin hlen
    have HN : Hid (zs.length = n) := HL
    clear HL hmin hmax
    go_enter Try.func7, Try.ntmps7
    go_wp2_with (first
      | (go_at_call 10; refine (begun_any _).mono ?_; rintro e w1 ⟨rfl, g1⟩; have R1 := Rw.below g1; clear Rw)
      | (go_at_call 11; refine (add_any _ _ _ (by omega) (by omega) (by omega) (by omega)).mono ?_; rintro e w' ⟨rfl, hw'⟩; subst w')
      | (go_at_call 12; refine (mul_any _ _ _ (by omega) (by omega) (by omega) (by omega)).mono ?_; rintro e w' ⟨rfl, hw'⟩; subst w'))
    go_loopw [23, 24] (fun v i wr => ∃ k : Nat, k ≤ n ∧ i = .int .i64 k ∧ wr.ownsRow w1.heap.size 2 1 v k ((ys.map (Value.int .i64)).take k) ∧ Below w1.heap.size w1 wr)
      (fun _ i _ => n - (intOf i).toNat)
    case atStart => exact ⟨0, Nat.zero_le _, rfl, World.ownsRow_nil _ _ _ _, Below.refl _ _⟩
    case round =>
      obtain ⟨k, hk, rfl, hown, hnx⟩ := hrel
      have hsz := hnx.size
      by_cases hlt : k < n
      · obtain ⟨b, off, rfl, hc⟩ : ∃ b off, a2 = some ⟨b, off, none⟩ ∧ ∀ i, i < zs.length → w1.cell? ⟨b, off + i, none⟩ = some (.int .i64 (zs.getD i 0)) := by
          rcases R1 with rfl | h
          · exact absurd HN.out (by simp; omega)
          · exact h
        have hpos : 1 ≤ n := by omega
        have hidx : (k + R) % n < n := Nat.mod_lt _ (by omega)
        have hci := hc ((k + R) % n) (by rw [HN.out]; exact hidx)
        have hblt := World.block_lt_of_cell? _ _ hci
        have hcr : wr.cell? ⟨b, off + (k + R) % n, none⟩ = some (.int .i64 (ys.getD k 0)) := by
          rw [hnx.cell (p := ⟨b, off + (k + R) % n, none⟩) hblt, hci, YG.out k hlt]
        clear hc hci
        generalize hv : ys.getD k 0 = v at *
        have HV : Hid (ys.getD k 0 = v) := hv
        clear hv
        have tb := turn_bd a3 n hpos
        have hR := RE.out hpos
        have hRl := RL.out hpos
        have ix0 := Int.emod_nonneg ((k : Int) + (R : Int)) (show ((n : Nat) : Int) ≠ 0 by omega)
        have ix1 := Int.emod_lt_of_pos ((k : Int) + (R : Int)) (show 0 < ((n : Nat) : Int) by omega)
        go_wp2_with (at_builtin; refine wpList_append_own _ rfl _ _ 27 rfl w1.heap.size 2 i0 (.int .i64 0) 1 8 Try.underlying27 hi hz0 hz1 hz2 rfl (by decide) _ _ _ rfl (hown.alloc _) ⟨wr.heap.size, 0, none⟩ 1 1 [.int .i64 v] rfl rfl (cell_one_new _ _ _) (by intro u hu; simp at hu; subst hu; rfl) (by unfold maxLen; omega) (by omega) (by simp; omega) ?_)
        intro v' w2 hown' hgrow _
        have S := own_step (ys := ys) (by have := YL.out; omega) hsz hown hnx (by rw [HV.out]; exact hown') hgrow
        clear hown' hgrow hown hcr hblt tb hR
        go_wp2
        go_roundw
        case rel => exact ⟨k + 1, hlt, by go_num, S.1, S.2⟩
        case measure => simp [intOf]; omega
      · have hkn : n = k := by omega
        subst hkn
        rw [← List.map_take] at hown
        obtain ⟨a, cp, rfl, RY, HY⟩ := own_row hown
        clear hown
        have s1 : ∀ w : World, RowAt w a2 zs → Calls Try.prog 21 #[.slice a2 n cap] w fun e w' => e = .returned (.tuple #[.int .i64 (fitV (sumL zs)), .bool (fitB (sumL zs))]) ∧ w' = w := fun w h => HN.out ▸ sum_any a2 cap zs w h A (by rw [HN.out]; omega)
        have s2 : ∀ w : World, RowAt w a (ys.take n) → Calls Try.prog 21 #[.slice a n cp] w fun e w' => e = .returned (.tuple #[.int .i64 (fitV (sumL zs)), .bool (fitB (sumL zs))]) ∧ w' = w := fun w h => by
          have q := sum_any a cp (ys.take n) w h YA.out (by rw [HY]; omega)
          rw [HY, YS.out] at q
          exact q
        go_wp2_with fail
        refine (s1 _ (R1.below hnx)).mono ?_
        rintro e w' ⟨rfl, hw'⟩
        subst w'
        go_wp2_with fail
        refine (s2 _ RY).mono ?_
        rintro e w' ⟨rfl, hw'⟩
        subst w'
        go_wp2
        go_ret
        exact ⟨rfl, below_step g1 hnx⟩
  · obtain rfl := hmax hlen
    have HN : Hid (zs.length = 20) := HL
    have h30 : 20 < len := by omega
    clear HL hmin hmax
    go_enter Try.func7, Try.ntmps7
    go_wp2_with (first
      | (go_at_call 10; refine (begun_any _).mono ?_; rintro e w1 ⟨rfl, g1⟩; have R1 := Rw.below g1; clear Rw)
      | (go_at_call 11; refine (add_any _ _ _ (by omega) (by omega) (by omega) (by omega)).mono ?_; rintro e w' ⟨rfl, hw'⟩; subst w')
      | (go_at_call 12; refine (mul_any _ _ _ (by omega) (by omega) (by omega) (by omega)).mono ?_; rintro e w' ⟨rfl, hw'⟩; subst w'))
    go_loopw [23, 24] (fun v i wr => ∃ k : Nat, k ≤ 20 ∧ i = .int .i64 k ∧ wr.ownsRow w1.heap.size 2 1 v k ((ys.map (Value.int .i64)).take k) ∧ Below w1.heap.size w1 wr)
      (fun _ i _ => 20 - (intOf i).toNat)
    case atStart => exact ⟨0, Nat.zero_le _, rfl, World.ownsRow_nil _ _ _ _, Below.refl _ _⟩
    case round =>
      obtain ⟨k, hk, rfl, hown, hnx⟩ := hrel
      have hsz := hnx.size
      by_cases hlt : k < 20
      · obtain ⟨b, off, rfl, hc⟩ : ∃ b off, a2 = some ⟨b, off, none⟩ ∧ ∀ i, i < zs.length → w1.cell? ⟨b, off + i, none⟩ = some (.int .i64 (zs.getD i 0)) := by
          rcases R1 with rfl | h
          · exact absurd HN.out (by simp)
          · exact h
        have hidx : (k + R) % 20 < 20 := Nat.mod_lt _ (by omega)
        have hci := hc ((k + R) % 20) (by rw [HN.out]; exact hidx)
        have hblt := World.block_lt_of_cell? _ _ hci
        have hcr : wr.cell? ⟨b, off + (k + R) % 20, none⟩ = some (.int .i64 (ys.getD k 0)) := by
          rw [hnx.cell (p := ⟨b, off + (k + R) % 20, none⟩) hblt, hci, YG.out k hlt]
        clear hc hci
        generalize hv : ys.getD k 0 = v at *
        have HV : Hid (ys.getD k 0 = v) := hv
        clear hv
        have tb : -20 < a3.tmod 20 ∧ a3.tmod 20 < 20 := turn_bd a3 20 (by omega)
        have hR : (a3.tmod 20 + 20) % 20 = (R : Int) := RE.out (by omega)
        have hRl := RL.out (by omega)
        go_wp2_with (at_builtin; refine wpList_append_own _ rfl _ _ 27 rfl w1.heap.size 2 i0 (.int .i64 0) 1 8 Try.underlying27 hi hz0 hz1 hz2 rfl (by decide) _ _ _ rfl (hown.alloc _) ⟨wr.heap.size, 0, none⟩ 1 1 [.int .i64 v] rfl rfl (cell_one_new _ _ _) (by intro u hu; simp at hu; subst hu; rfl) (by unfold maxLen; omega) (by omega) (by simp; omega) ?_)
        intro v' w2 hown' hgrow _
        have S := own_step (ys := ys) (by have := YL.out; omega) hsz hown hnx (by rw [HV.out]; exact hown') hgrow
        clear hown' hgrow hown hcr hblt tb hR
        go_wp2
        go_roundw
        case rel => exact ⟨k + 1, hlt, by go_num, S.1, S.2⟩
        case measure => simp [intOf]; omega
      · have hkn : 20 = k := by omega
        subst hkn
        rw [← List.map_take] at hown
        obtain ⟨a, cp, rfl, RY, HY⟩ := own_row hown
        clear hown
        have s1 : ∀ w : World, RowAt w a2 zs → Calls Try.prog 21 #[.slice a2 20 cap] w fun e w' => e = .returned (.tuple #[.int .i64 (fitV (sumL zs)), .bool (fitB (sumL zs))]) ∧ w' = w := fun w h => HN.out ▸ sum_any a2 cap zs w h A (by rw [HN.out]; omega)
        have s2 : ∀ w : World, RowAt w a (ys.take 20) → Calls Try.prog 21 #[.slice a 20 cp] w fun e w' => e = .returned (.tuple #[.int .i64 (fitV (sumL zs)), .bool (fitB (sumL zs))]) ∧ w' = w := fun w h => by
          have q := sum_any a cp (ys.take 20) w h YA.out (by rw [HY]; omega)
          rw [HY, YS.out] at q
          exact q
        go_wp2_with fail
        refine (s1 _ (R1.below hnx)).mono ?_
        rintro e w' ⟨rfl, hw'⟩
        subst w'
        go_wp2_with fail
        refine (s2 _ RY).mono ?_
        rintro e w' ⟨rfl, hw'⟩
        subst w'
        go_wp2
        go_ret
        exact ⟨rfl, below_step g1 hnx⟩
end Go.Proofs.Ytkalbnhhgobheaa
