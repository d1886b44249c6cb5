/- The ring of int as the chapter has it; the contracts of New, Len, Room, cell, At, First. -/
import Derived.Test.YtbfbijfedamgaaaRingI
import Derived.Maps.AppendAt
namespace Go.Proofs.Ytbfbijfedamgaaa.RI
open Go.RowKit

/-- What stands in the ring, from the front on. -/
def Link (front : Nat) (v : Value) (cs : List Value) (q : List Int) : Prop :=
  (v = .slice none 0 0 ∧ cs = [] ∧ q = [] ∧ front = 0) ∨
  (front < cs.length ∧ q.length ≤ cs.length ∧ ∀ i, i < q.length → cs[(front + i) % cs.length]? = q[i]?.map mkI)
/-- The ring as the chapter has it. -/
def Rings (w : World) (b : Nat) (room : Int) (v : Value) (q : List Int) : Prop :=
  ∃ (front : Nat) (cs : List Value), Raw w b room front q.length v cs ∧ Link front v cs q ∧ 0 ≤ room ∧ room ≤ 1000 ∧ (cs.length : Int) ≤ room

theorem Rings.below {w w' : World} {b : Nat} {room : Int} {v : Value} {q : List Int} (h : Rings w b room v q) (g : Below w.heap.size w w') : Rings w' b room v q := by
  obtain ⟨f, cs, h1, h2⟩ := h
  exact ⟨f, cs, h1.below g, h2⟩
theorem Rings.only {w w' : World} {b : Nat} {room : Int} {v : Value} {q : List Int} (h : Rings w b room v q) {S : List Nat} (g : Only S w w') (hS : ∀ k ∈ foot b v, k ∉ S) : Rings w' b room v q := by
  obtain ⟨f, cs, h1, h2⟩ := h
  exact ⟨f, cs, h1.only g hS, h2⟩
theorem Rings.foot_lt {w : World} {b : Nat} {room : Int} {v : Value} {q : List Int} (h : Rings w b room v q) : ∀ k ∈ foot b v, k < w.heap.size := by
  obtain ⟨f, cs, h1, h2⟩ := h
  exact h1.foot_lt
theorem Rings.foot_ge {w : World} {b : Nat} {room : Int} {v : Value} {q : List Int} (h : Rings w b room v q) : ∀ k ∈ foot b v, b ≤ k := by
  obtain ⟨f, cs, h1, h2⟩ := h
  intro k hk
  simp only [foot, List.mem_cons, Option.mem_toList] at hk
  rcases hk with rfl | hk
  · exact Nat.le_refl _
  · exact Nat.le_of_lt (h1.gt k hk).1
theorem Rings.len_le {w : World} {b : Nat} {room : Int} {v : Value} {q : List Int} (h : Rings w b room v q) : (q.length : Int) ≤ room ∧ room ≤ 1000 := by
  obtain ⟨f, cs, h1, h2, h3, h4, h5⟩ := h
  rcases h2 with ⟨_, _, rfl, _⟩ | ⟨_, h, _⟩
  · simp; omega
  · omega

/-- From nought to a thousand. -/
def roomV (n : Int) : Int := max 0 (min n 1000)
theorem roomV_bd (n : Int) : 0 ≤ roomV n ∧ roomV n ≤ 1000 := by unfold roomV; omega

set_option maxHeartbeats 400000 in
theorem new_any (n : Int) (w : World) (h1 : -9223372036854775808 ≤ n) (h2 : n ≤ 9223372036854775807) :
    Calls Try.prog 45 #[.int .i64 n] w fun e w' => e = .returned (.pointer (some ⟨w.heap.size, 0, none⟩)) ∧ Rings w' w.heap.size (roomV n) (.slice none 0 0) [] ∧ Below w.heap.size w w' := by
  have hb := roomV_bd n
  have HB : Hid (0 ≤ roomV n ∧ roomV n ≤ 1000) := hb
  clear hb
  have fin : ∀ r : Int, r = roomV n → Rings (w.alloc (.cells #[.int .i64 r, .slice none 0 0, .int .i64 0, .int .i64 0] 126)) w.heap.size (roomV n) (.slice none 0 0) [] := by
    intro r hr
    subst hr
    exact ⟨0, [], ⟨heap_alloc_new _ _, World.ownsRow_nil _ _ _ _, by simp, by simp⟩, .inl ⟨rfl, rfl, rfl, rfl⟩, HB.out.1, HB.out.2, by simpa using HB.out.1⟩
  rcases (by omega : n < 0 ∨ (0 ≤ n ∧ n ≤ 1000) ∨ 1000 < n) with h | h | h
  · have K : Hid (0 = roomV n) := by show _ = _; unfold roomV; omega
    go_enter Try.func45, Try.ntmps45
    go_wp2
    go_ret
    exact ⟨rfl, fin _ K.out, (Below.refl _ _).alloc (Nat.le_refl _) _⟩
  · have K : Hid (n = roomV n) := by show _ = _; unfold roomV; omega
    go_enter Try.func45, Try.ntmps45
    go_wp2
    go_ret
    exact ⟨rfl, fin _ K.out, (Below.refl _ _).alloc (Nat.le_refl _) _⟩
  · have K : Hid (1000 = roomV n) := by show _ = _; unfold roomV; omega
    go_enter Try.func45, Try.ntmps45
    go_wp2
    go_ret
    exact ⟨rfl, fin _ K.out, (Below.refl _ _).alloc (Nat.le_refl _) _⟩

set_option maxHeartbeats 400000 in
theorem len_raw {b : Nat} {room front count : Int} {v : Value} {cs : List Value} (w : World) (h : Raw w b room front count v cs) :
    Calls Try.prog 115 #[.pointer (some ⟨b, 0, none⟩)] w fun e w' => e = .returned (.int .i64 count) ∧ w' = w := by
  have c3 := h.c3
  go_enter Try.func115, Try.ntmps115
  go_wp2
  go_ret
  exact ⟨rfl, rfl⟩
set_option maxHeartbeats 400000 in
theorem room_raw {b : Nat} {room front count : Int} {v : Value} {cs : List Value} (w : World) (h : Raw w b room front count v cs) (h0 : 0 ≤ count) (h1 : count ≤ 1000) (h2 : 0 ≤ room) (h3 : room ≤ 1000) :
    Calls Try.prog 53 #[.pointer (some ⟨b, 0, none⟩)] w fun e w' => e = .returned (.int .i64 (room - count)) ∧ Below w.heap.size w w' := by
  have c3 := h.c3
  have c0 := h.c0
  go_enter Try.func53, Try.ntmps53
  go_wp2
  go_quiet (fail)
  go_wp2
  go_ret
  exact ⟨rfl, below_drewN _ _⟩
set_option maxHeartbeats 400000 in
theorem cell_raw {b n : Nat} {room count : Int} {ad : Option Addr} {cap : Nat} {cs : List Value} (F i : Nat) (w : World) (h : Raw w b room F count (.slice ad n cap) cs) (hn : 0 < n) (hn1 : n ≤ 1000) (hF : F < n) (hi : i ≤ 1000) :
    Calls Try.prog 77 #[.pointer (some ⟨b, 0, none⟩), .int .i64 i] w fun e w' => e = .returned (.int .i64 ((F + i) % n : Nat)) ∧ Below w.heap.size w w' := by
  have c1 := h.c1
  have c2 := h.c2
  have n0 : ¬ (n : Int) = 0 := by omega
  have n1 : ¬ n = 0 := by omega
  go_enter Try.func77, Try.ntmps77
  go_wp2
  go_quiet (fail)
  go_wp2
  go_ret
  exact ⟨ret_int (by simp), below_drewN _ _⟩
end Go.Proofs.Ytbfbijfedamgaaa.RI
