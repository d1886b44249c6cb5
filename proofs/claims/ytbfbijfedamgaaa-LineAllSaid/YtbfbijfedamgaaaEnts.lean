/- Things that were put one behind another, with keys of their numbers. -/
import Derived.Test.YtbfbijfedamgaaaHeapMoreI
namespace Go.Proofs.Ytbfbijfedamgaaa
open Go.RowKit
/-- The first so many: number i with the key (A i, B i). -/
def ents (A B : Nat → Int) (n : Nat) : List (Ent Int) := (List.range n).map (fun i : Nat => (⟨i, A i, B i, (i : Int) + 1⟩ : Ent Int))
theorem ents_length (A B : Nat → Int) (n : Nat) : (ents A B n).length = n := by simp [ents]
theorem ents_succ (A B : Nat → Int) (n : Nat) : ents A B (n + 1) = ents A B n ++ [⟨n, A n, B n, (n : Int) + 1⟩] := by simp [ents, List.range_succ]
theorem mem_ents {A B : Nat → Int} {n : Nat} {x : Ent Int} : x ∈ ents A B n ↔ ∃ i, i < n ∧ x = ⟨i, A i, B i, (i : Int) + 1⟩ := by
  simp only [ents, List.mem_map, List.mem_range]
  constructor
  · rintro ⟨i, hi, rfl⟩; exact ⟨i, hi, rfl⟩
  · rintro ⟨i, hi, rfl⟩; exact ⟨i, hi, rfl⟩
theorem ents_not {A B : Nat → Int} {n k : Nat} (h : n ≤ k) : ∀ y ∈ ents A B n, y.v ≠ (k : Int) := by
  intro y hy
  obtain ⟨i, hi, rfl⟩ := mem_ents.1 hy
  show (i : Int) ≠ k
  omega
theorem ents_in {A B : Nat → Int} {n k : Nat} (h : k < n) : ∃ y ∈ ents A B n, y.v = (k : Int) := ⟨_, mem_ents.2 ⟨k, h, rfl⟩, rfl⟩
theorem ents_one {A B : Nat → Int} {n : Nat} {x y : Ent Int} (hx : x ∈ ents A B n) (hy : y ∈ ents A B n) (e : x.v = y.v) : x = y := by
  obtain ⟨i, _, rfl⟩ := mem_ents.1 hx
  obtain ⟨j, _, rfl⟩ := mem_ents.1 hy
  have : i = j := by simp only at e; omega
  rw [this]
theorem less_length {l : List (Ent Int)} {puts : Int} (h : Items l puts) {x : Int} (hx : ∃ y ∈ l, y.v = x) : (less l x).length + 1 = l.length := by
  obtain ⟨y, hy, rfl⟩ := hx
  obtain ⟨i, hi⟩ := List.getElem?_of_mem hy
  have p := perm_erase (List.Perm.refl l) h hi
  have := p.length_eq
  have il := (List.getElem?_eq_some_iff.1 hi).1
  rw [List.length_eraseIdx_of_lt il] at this
  omega
theorem less_sub {l m : List (Ent Int)} {x : Int} (h : ∀ y ∈ l, y ∈ m) : ∀ y ∈ less l x, y ∈ m := fun y hy => h y (mem_less.1 hy).1
/-- Number i as it was put. -/
def ent (A B : Nat → Int) (i : Nat) : Ent Int := ⟨i, A i, B i, (i : Int) + 1⟩
theorem ent_mem {A B : Nat → Int} {n : Nat} {x : Ent Int} (h : x ∈ ents A B n) : ∃ i, i < n ∧ x = ent A B i := mem_ents.1 h
theorem ent_le {A B : Nat → Int} {z i : Nat} (h : Le (ent A B z) (ent A B i)) : A z < A i ∨ (A z = A i ∧ (B z < B i ∨ (B z = B i ∧ z ≤ i))) := by
  unfold Le Lt ent at h
  simp only at h
  omega
/-- The first of some of them is taken. -/
theorem HI.take_ent {w : World} {b : Nat} {room puts : Int} {v : Value} {A B : Nat → Int} {n : Nat} {l : List (Ent Int)} (h : HI.Heaps w b room puts v l) (hl : l ≠ []) (hs : ∀ y ∈ l, y ∈ ents A B n) :
    Calls Try.prog 13 #[.pointer (some ⟨b, 0, none⟩)] w fun e w' => ∃ (i : Nat) (v' : Value), i < n ∧ e = .returned (.tuple #[.int .i64 i, .bool true]) ∧ HI.Heaps w' b room puts v' (less l i) ∧ foot b v' = foot b v ∧ Only (foot b v) w w' ∧ ent A B i ∈ l ∧ (∀ y ∈ l, Le (ent A B i) y) ∧ (less l i).length + 1 = l.length :=
  (HI.take_some w h hl).mono fun e w' ⟨x, v', hx, he, h', f, o⟩ => by
    obtain ⟨i, hi, rfl⟩ := ent_mem (hs x hx.1)
    exact ⟨i, v', hi, he, h', f, o, hx.1, hx.2, less_length h.items ⟨_, hx.1, rfl⟩⟩
end Go.Proofs.Ytbfbijfedamgaaa
