/- The heap of string as the chapter has it; the contracts of New, First and settle; what the stores of Put do. -/
import Derived.Test.YtbfbijfedamgaaaHeapSinkS
namespace Go.Proofs.Ytbfbijfedamgaaa.HS
open Go.RowKit

set_option maxHeartbeats 400000 in
theorem settle_any {b : Nat} {room puts : Int} {v : Value} {es : List (Ent ByteArray)} (i : Nat) (w : World) (h : Raw w b room puts v es) (hi : i < es.length) (hn : Near es i) :
    Calls Try.prog 61 #[.pointer (some ⟨b, 0, none⟩), .int .i64 i] w fun e w' => ∃ fs : List (Ent ByteArray), e = .returned (.tuple #[]) ∧ Heap fs ∧ fs.Perm es ∧ Raw w' b room puts v fs ∧ Only (foot b v) w w' := by
  go_enter Try.func61, Try.ntmps61
  go_wp2_with (first | (go_at_call 87; refine (rise_any i _ h hi hn).mono ?_; rintro e w1 ⟨k, fs, rfl, hk, hd, hp, hr, ho⟩) | (go_at_call 86; refine (sink_any k _ hr hk hd).mono ?_; rintro e w2 ⟨gs, rfl, hh, hp2, hr2, ho2⟩))
  go_end0
  exact ⟨gs, rfl, hh, hp2.trans hp, hr2, ho.trans ho2 (fun k hk => .inl hk)⟩

/-- The heap as the chapter has it: its things in the order in which they were put. -/
def Heaps (w : World) (b : Nat) (room puts : Int) (v : Value) (l : List (Ent ByteArray)) : Prop :=
  ∃ es, Raw w b room puts v es ∧ Heap es ∧ es.Perm l ∧ Items l puts ∧ 0 ≤ room ∧ room ≤ 1000 ∧ (l.length : Int) ≤ room

theorem Heaps.below {w w' : World} {b : Nat} {room puts : Int} {v : Value} {l : List (Ent ByteArray)} (h : Heaps w b room puts v l) (g : Below w.heap.size w w') : Heaps w' b room puts v l := by
  obtain ⟨es, h1, h2⟩ := h
  exact ⟨es, h1.below g, h2⟩
theorem Heaps.lt {w : World} {b : Nat} {room puts : Int} {v : Value} {l : List (Ent ByteArray)} (h : Heaps w b room puts v l) : b < w.heap.size := by
  obtain ⟨es, h1, _⟩ := h
  exact h1.lt
theorem Heaps.foot_lt {w : World} {b : Nat} {room puts : Int} {v : Value} {l : List (Ent ByteArray)} (h : Heaps w b room puts v l) : ∀ k ∈ foot b v, k < w.heap.size := by
  obtain ⟨es, h1, _⟩ := h
  exact h1.foot_lt
theorem Heaps.foot_ge {w : World} {b : Nat} {room puts : Int} {v : Value} {l : List (Ent ByteArray)} (h : Heaps w b room puts v l) : ∀ k ∈ foot b v, b ≤ k := by
  obtain ⟨es, h1, _⟩ := h
  intro k hk
  simp only [foot, List.mem_cons, Option.mem_toList] at hk
  rcases hk with rfl | hk
  · exact Nat.le_refl _
  · exact Nat.le_of_lt (h1.gt k hk).1

/-- From nought to a thousand. -/
def roomV (n : Int) : Int := max 0 (min n 1000)
theorem roomV_bd (n : Int) : 0 ≤ roomV n ∧ roomV n ≤ 1000 := by unfold roomV; omega

set_option maxHeartbeats 400000 in
theorem new_any (n : Int) (w : World) (h1 : -9223372036854775808 ≤ n) (h2 : n ≤ 9223372036854775807) :
    Calls Try.prog 22 #[.int .i64 n] w fun e w' => e = .returned (.pointer (some ⟨w.heap.size, 0, none⟩)) ∧ Heaps w' w.heap.size (roomV n) 0 (.slice none 0 0) [] ∧ Below w.heap.size w w' := by
  have hb := roomV_bd n
  have HB : Hid (0 ≤ roomV n ∧ roomV n ≤ 1000) := hb
  clear hb
  have fin : ∀ r : Int, r = roomV n → Heaps (w.alloc (.cells #[.int .i64 r, .int .i64 0, .slice none 0 0] 96)) w.heap.size (roomV n) 0 (.slice none 0 0) [] := by
    intro r hr
    subst hr
    exact ⟨[], ⟨heap_alloc_new _ _, World.ownsRow_nil _ _ _ _, by simp, by simp⟩, heap_nil, List.Perm.refl _, Items.nil _, HB.out.1, HB.out.2, by simpa using HB.out.1⟩
  rcases (by omega : n < 0 ∨ (0 ≤ n ∧ n ≤ 1000) ∨ 1000 < n) with h | h | h
  · have K : Hid (0 = roomV n) := by show _ = _; unfold roomV; omega
    go_enter Try.func22, Try.ntmps22
    go_wp2
    go_ret
    exact ⟨rfl, fin _ K.out, (Below.refl _ _).alloc (Nat.le_refl _) _⟩
  · have K : Hid (n = roomV n) := by show _ = _; unfold roomV; omega
    go_enter Try.func22, Try.ntmps22
    go_wp2
    go_ret
    exact ⟨rfl, fin _ K.out, (Below.refl _ _).alloc (Nat.le_refl _) _⟩
  · have K : Hid (1000 = roomV n) := by show _ = _; unfold roomV; omega
    go_enter Try.func22, Try.ntmps22
    go_wp2
    go_ret
    exact ⟨rfl, fin _ K.out, (Below.refl _ _).alloc (Nat.le_refl _) _⟩

theorem Raw.slice {w : World} {b : Nat} {room puts : Int} {v : Value} {es : List (Ent ByteArray)} (h : Raw w b room puts v es) : ∃ a cap, v = .slice a es.length cap := by
  rcases h.own.2 with ⟨rfl, hn⟩ | ⟨g, cap, cur, rfl, _⟩
  · exact ⟨none, 0, by rw [hn]⟩
  · exact ⟨_, _, rfl⟩

set_option maxHeartbeats 400000 in
theorem first_none {b : Nat} {room puts : Int} {v : Value} (w : World) (h : Heaps w b room puts v []) :
    Calls Try.prog 47 #[.pointer (some ⟨b, 0, none⟩)] w fun e w' => e = .returned (.tuple #[.string ⟨#[]⟩, .bool false]) ∧ Below w.heap.size w w' := by
  obtain ⟨es, hr, hh, hp, hi, -⟩ := h
  have he : es = [] := List.Perm.eq_nil hp
  subst he
  go_enter Try.func47, Try.ntmps47
  go_wp2_with (go_at_call 28; refine (len_any _ hr).mono ?_; rintro e w' ⟨rfl, hw⟩; subst w')
  go_ret2
  exact ⟨rfl, (Below.refl _ _).alloc (Nat.le_refl _) _⟩

set_option maxHeartbeats 400000 in
theorem first_raw {b : Nat} {room puts : Int} {v : Value} {es : List (Ent ByteArray)} {x : Ent ByteArray} (w : World) (hr : Raw w b room puts v es) (hx : es[0]? = some x) :
    Calls Try.prog 47 #[.pointer (some ⟨b, 0, none⟩)] w fun e w' => e = .returned (.tuple #[mkS x.v, .bool true]) ∧ w' = w := by
  have hpos := lt_of_some hx
  rcases hr.own.2 with ⟨rfl, hn⟩ | ⟨g, cap, cur, hv, -⟩
  · omega
  have hlen := hr.few
  subst hv
  have c2 := hr.c2
  have cx := (hr.at hx).1
  simp only [Nat.zero_mul] at cx
  have hne : ¬ es.length = 0 := by omega
  clear hx
  go_enter Try.func47, Try.ntmps47
  go_wp2_with (go_at_call 28; refine (len_any _ hr).mono ?_; rintro e w' ⟨rfl, hw⟩; subst w')
  go_ret2
  exact ⟨rfl, rfl⟩
theorem Heaps.top {w : World} {b : Nat} {room puts : Int} {v : Value} {l : List (Ent ByteArray)} (h : Heaps w b room puts v l) (hl : l ≠ []) : ∃ es x, Raw w b room puts v es ∧ Heap es ∧ es.Perm l ∧ Items l puts ∧ 0 ≤ room ∧ room ≤ 1000 ∧ (l.length : Int) ≤ room ∧ es[0]? = some x ∧ IsFirst l x := by
  obtain ⟨es, hr, hh, hp, r⟩ := h
  have hpos : 0 < es.length := by
    rcases Nat.eq_zero_or_pos es.length with e | e
    · have := hp.length_eq; exact absurd (List.eq_nil_of_length_eq_zero (by omega)) hl
    · exact e
  exact ⟨es, es[0], hr, hh, hp, r.1, r.2.1, r.2.2.1, r.2.2.2, List.getElem?_eq_getElem hpos, (heap_isFirst hh (List.getElem?_eq_getElem hpos)).perm hp⟩
theorem first_some {b : Nat} {room puts : Int} {v : Value} {l : List (Ent ByteArray)} (w : World) (h : Heaps w b room puts v l) (hl : l ≠ []) :
    Calls Try.prog 47 #[.pointer (some ⟨b, 0, none⟩)] w fun e w' => ∃ x, IsFirst l x ∧ e = .returned (.tuple #[mkS x.v, .bool true]) ∧ w' = w := by
  obtain ⟨es, x, hr, _, _, _, _, _, _, hx, hf⟩ := h.top hl
  exact (first_raw w hr hx).mono fun e w' ⟨he, hw⟩ => ⟨x, hf, he, hw⟩
theorem heap_len {b : Nat} {room puts : Int} {v : Value} {l : List (Ent ByteArray)} (w : World) (h : Heaps w b room puts v l) :
    Calls Try.prog 28 #[.pointer (some ⟨b, 0, none⟩)] w fun e w' => e = .returned (.int .i64 l.length) ∧ w' = w := by
  obtain ⟨es, hr, _, hp, _⟩ := h
  exact hp.length_eq ▸ len_any w hr
end Go.Proofs.Ytbfbijfedamgaaa.HS
