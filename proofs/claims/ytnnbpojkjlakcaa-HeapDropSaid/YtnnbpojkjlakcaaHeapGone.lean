/- What is left in a heap of numbers, and the marks of what has gone. -/
import Derived.Test.YtnnbpojkjlakcaaEnts
import Derived.Test.YtnnbpojkjlakcaaRowF
import Derived.Laws.Bits128
namespace Go.Proofs.Ytnnbpojkjlakcaa
open Go.RowKit
def Gone (A : Nat → Int) (n : Nat) (l : List (Ent Int)) (H : Nat → Bool) : Prop := (∀ y ∈ l, y ∈ ents A (fun _ => 0) n) ∧ ∀ j, j < n → (H j = false ↔ ∃ y ∈ l, y.v = (j : Int))
variable {A : Nat → Int} {n k : Nat} {l : List (Ent Int)} {H : Nat → Bool}
theorem Gone.start : Gone A n (ents A (fun _ => 0) n) (fun _ => false) := ⟨fun _ hy => hy, fun _ hj => ⟨fun _ => ents_in hj, fun _ => rfl⟩⟩
theorem Gone.drop (h : Gone A n l H) (k : Nat) : Gone A n (less l (k : Int)) (upd H k true) := by
  refine ⟨less_sub h.1, fun j hj => ?_⟩
  by_cases e : j = k
  · subst e
    rw [upd_same]
    constructor
    · intro h; cases h
    · rintro ⟨y, hy, e⟩
      exact absurd e (mem_less.1 hy).2
  · rw [upd_ne _ _ e, h.2 j hj]
    constructor
    · rintro ⟨y, hy, e1⟩
      exact ⟨y, mem_less.2 ⟨hy, by rw [e1]; omega⟩, e1⟩
    · rintro ⟨y, hy, e1⟩
      exact ⟨y, (mem_less.1 hy).1, e1⟩
theorem Gone.again (h : Gone A n l H) (hk : H k = true) : Gone A n l (upd H k true) := by
  have : upd H k true = H := by
    funext j
    by_cases e : j = k
    · subst e; rw [upd_same, hk]
    · rw [upd_ne _ _ e]
  rw [this]
  exact h
theorem Gone.in (h : Gone A n l H) (hk : k < n) (hf : H k = false) : ∃ y ∈ l, y.v = (k : Int) := (h.2 k hk).1 hf
theorem Gone.out (h : Gone A n l H) (hk : k < n) (ht : H k = true) : ∀ y ∈ l, y.v ≠ (k : Int) := fun y hy e => by
  have := (h.2 k hk).2 ⟨y, hy, e⟩
  rw [ht] at this
  cases this
theorem le_key {A B : Nat → Int} {i : Nat} {y : Ent Int} (h : Le (ent A B i) y) : A i ≤ y.a := by
  unfold Le Lt ent at h
  simp only at h
  omega
theorem i64_and31 (n : Int) : bits .and .i64 n 31 = n % 32 := by
  have h15 : (BitVec.ofInt 64 31).toNat = 2 ^ 5 - 1 := by decide
  have key : (BitVec.ofInt 64 n &&& BitVec.ofInt 64 31).toNat = (n % ((2 ^ 64 : Nat) : Int)).toNat % 2 ^ 5 := by
    rw [BitVec.toNat_and, BitVec.toNat_ofInt, h15, Nat.and_two_pow_sub_one_eq_mod]
  show IntKind.i64.wrap ((BitVec.ofInt 64 n &&& BitVec.ofInt 64 31).toNat : Nat) = n % 32
  rw [key, IntKind.wrap_i64]
  omega
end Go.Proofs.Ytnnbpojkjlakcaa
