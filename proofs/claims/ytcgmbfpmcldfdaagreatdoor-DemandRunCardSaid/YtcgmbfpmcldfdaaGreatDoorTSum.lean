/- The contract of tick.Sum over the landed code. -/
import Derived.Test.YtcgmbfpmcldfdaaGreatDoorTTick
namespace Go.Proofs.YtcgmbfpmcldfdaaGreatDoor.T
open Go.RowKit

/-- What a slice of int64 leads to: nothing, or a row of cells that hold zs. -/
def RowAt (w : World) (a : Option Addr) (zs : List Int) : Prop :=
  zs = [] ∨ ∃ b off, a = some ⟨b, off, none⟩ ∧ ∀ i, i < zs.length → w.cell? ⟨b, off + i, none⟩ = some (.int .i64 (zs.getD i 0))
def AllIn (zs : List Int) : Prop := ∀ i : Nat, -9223372036854775808 ≤ zs.getD i 0 ∧ zs.getD i 0 ≤ 9223372036854775807

set_option maxHeartbeats 400000 in
theorem sum_any (a : Option Addr) (cap : Nat) (zs : List Int) (w : World) (hr : RowAt w a zs) (hz : AllIn zs) (hl : zs.length ≤ 1000) :
    Calls Tryz.prog 64 #[.slice a zs.length cap] w fun e w' => e = .returned (.tuple #[.int .i64 (fitV (sumL zs)), .bool (fitB (sumL zs))]) ∧ w' = w := by
  generalize hn : zs.length = n at *
  have HN : Hid (zs.length = n) := hn
  clear hn
  go_enter Tryz.func64, Tryz.ntmps64
  go_wp2
  go_loop [4, 5, 10] (fun h l i => ∃ k : Nat, ∃ H L : Int, k ≤ n ∧ i = .int .i64 k ∧ h = .int .i64 H ∧ l = .int .i64 L ∧ H * 4294967296 + L = sumL (zs.take k) ∧ 0 ≤ L ∧ L ≤ 4294967295 ∧ -2147483648 * (k : Int) ≤ H ∧ H ≤ 2147483648 * (k : Int)) (fun _ _ i => n - (intOf i).toNat)
  case atStart => exact ⟨0, 0, 0, Nat.zero_le _, rfl, rfl, rfl, by simp [sumL], by omega, by omega, by omega, by omega⟩
  case round =>
    obtain ⟨k, H, L, hk, rfl, rfl, rfl, hs, hL0, hL1, hH0, hH1⟩ := hrel
    have HS : Hid (H * 4294967296 + L = sumL (zs.take k)) := hs
    clear hs
    by_cases hlt : k < n
    · have hb := hz k
      rcases hr with rfl | ⟨b, off, rfl, hc⟩
      · have := HN.out; simp at this; omega
      have hck := hc k (by rw [HN.out]; exact hlt)
      generalize hv : zs.getD k 0 = v at *
      have HV : Hid (zs.getD k 0 = v) := hv
      clear hv hc
      have m1 := and_mask v
      have m2 := and_mask (L + v % 4294967296)
      go_wp2
      go_round
      case rel =>
        have e := sumL_take_succ zs k (by rw [HN.out]; exact hlt)
        rw [HV.out, ← HS.out] at e
        have c : (-2147483648 : Int) ≤ v / 4294967296 ∧ v / 4294967296 ≤ 2147483647 := by omega
        exact ⟨k + 1, _, _, hlt, by go_num, rfl, rfl, by rw [e]; omega, by omega, by omega, by omega, by omega⟩
      case measure => simp [intOf]; omega
    · have hkn : k = n := by omega
      subst hkn
      have e : sumL (zs.take k) = sumL zs := by rw [List.take_of_length_le (by rw [HN.out]; exact Nat.le_refl _)]
      have HS2 : Hid (sumL zs = H * 4294967296 + L) := by show _ = _; rw [← e]; exact HS.out.symm
      clear e
      by_cases c1 : H < -2147483648
      · go_wp2
        go_ret2
        exact ⟨ret_two (by rw [HS2.out, fitV_no (.inl (by omega))]) (by rw [HS2.out, fitB_no (.inl (by omega))]), rfl⟩
      · by_cases c2 : 2147483647 < H
        · go_wp2
          go_ret2
          exact ⟨ret_two (by rw [HS2.out, fitV_no (.inr (by omega))]) (by rw [HS2.out, fitB_no (.inr (by omega))]), rfl⟩
        · have j := or_join H L hL0 (by omega) (by omega) (by omega)
          go_wp2
          go_ret2
          exact ⟨ret_two (by rw [HS2.out, fitV_yes (by omega) (by omega)]) (by rw [HS2.out, fitB_yes (by omega) (by omega)]), rfl⟩
end Go.Proofs.YtcgmbfpmcldfdaaGreatDoor.T
