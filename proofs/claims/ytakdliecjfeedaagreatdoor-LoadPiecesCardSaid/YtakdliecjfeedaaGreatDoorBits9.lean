/- Masks. -/
import Derived.Test.YtakdliecjfeedaaGreatDoorTBegun
import Derived.WalkKit
namespace Go.Proofs.YtakdliecjfeedaaGreatDoor
open Go

theorem and_low (n : Int) (m : Int) (k : Nat) (hk : k ≤ 62) (hm : (BitVec.ofInt 64 m).toNat = 2 ^ k - 1) : bits .and .i64 n m = n % ((2 ^ k : Nat) : Int) := by
  have key : (BitVec.ofInt 64 n &&& BitVec.ofInt 64 m).toNat = (n % ((2 ^ 64 : Nat) : Int)).toNat % 2 ^ k := by
    rw [BitVec.toNat_and, BitVec.toNat_ofInt, hm, Nat.and_two_pow_sub_one_eq_mod]
  show IntKind.i64.wrap ((BitVec.ofInt 64 n &&& BitVec.ofInt 64 m).toNat : Nat) = n % ((2 ^ k : Nat) : Int)
  have hlt : (n % ((2 ^ 64 : Nat) : Int)).toNat % 2 ^ k < 2 ^ k := Nat.mod_lt _ (Nat.two_pow_pos k)
  have h62 : 2 ^ k ≤ 2 ^ 62 := Nat.pow_le_pow_right (by omega) hk
  have hd : ((2 ^ k : Nat) : Int) ∣ ((2 ^ 64 : Nat) : Int) := by
    exact Int.natCast_dvd_natCast.2 (Nat.pow_dvd_pow 2 (by omega))
  have e : (((n % ((2 ^ 64 : Nat) : Int)).toNat % 2 ^ k : Nat) : Int) = n % ((2 ^ k : Nat) : Int) := by
    rw [Int.natCast_emod, Int.toNat_of_nonneg (Int.emod_nonneg _ (by decide)), Int.emod_emod_of_dvd _ hd]
  rw [key, IntKind.wrap_i64, e]
  have h1 := Int.emod_nonneg n (b := ((2 ^ k : Nat) : Int)) (by have := Nat.two_pow_pos k; omega)
  have h2 : n % ((2 ^ k : Nat) : Int) < ((2 ^ k : Nat) : Int) := Int.emod_lt_of_pos n (by have := Nat.two_pow_pos k; omega)
  have h3 : ((2 ^ k : Nat) : Int) ≤ 4611686018427387904 := by
    have : ((2 ^ 62 : Nat) : Int) = 4611686018427387904 := by decide
    omega
  omega
theorem and255 (n : Int) : bits .and .i64 n 255 = n % 256 := and_low n 255 8 (by omega) (by decide)
theorem and127 (n : Int) : bits .and .i64 n 127 = n % 128 := and_low n 127 7 (by omega) (by decide)
theorem and63 (n : Int) : bits .and .i64 n 63 = n % 64 := and_low n 63 6 (by omega) (by decide)
theorem and31 (n : Int) : bits .and .i64 n 31 = n % 32 := and_low n 31 5 (by omega) (by decide)
theorem and15 (n : Int) : bits .and .i64 n 15 = n % 16 := and_low n 15 4 (by omega) (by decide)
theorem and3 (n : Int) : bits .and .i64 n 3 = n % 4 := and_low n 3 2 (by omega) (by decide)
theorem and16383 (n : Int) : bits .and .i64 n 16383 = n % 16384 := and_low n 16383 14 (by omega) (by decide)
end Go.Proofs.YtakdliecjfeedaaGreatDoor
