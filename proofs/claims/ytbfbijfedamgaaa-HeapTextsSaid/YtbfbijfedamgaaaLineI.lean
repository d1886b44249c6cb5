/- The line of int in memory; the contracts of New, Len, find. -/
import Derived.Test.YtbfbijfedamgaaaLineBaseI
namespace Go.Proofs.Ytbfbijfedamgaaa.LI
open Go.RowKit

/-- A thing by its block; by what it is. -/
def lo (z : Ent (Nat × Int)) : Ent Nat := ⟨z.v.1, z.a, z.b, z.t⟩
def hi (z : Ent (Nat × Int)) : Ent Int := ⟨z.v.2, z.a, z.b, z.t⟩
def ptrs (A : List (Nat × Int)) : List Value := A.map fun p => Value.pointer (some ⟨p.1, 0, none⟩)
theorem ptrs_eq (A : List (Nat × Int)) : ptrs A = (A.map (·.1)).map fun b => Value.pointer (some ⟨b, 0, none⟩) := by simp [ptrs]

/-- The line as it lies in memory: its own block, its heap, the list of its things. -/
structure Lines (w : World) (lb hb : Nat) (room puts : Int) (hv av : Value) (A : List (Nat × Int)) (Z : List (Ent (Nat × Int))) : Prop where
  blk : w.heap[lb]? = some (.cells #[.pointer (some ⟨hb, 0, none⟩), av] 110 (0, 0))
  heap : HP.Heaps w hb room puts hv (Z.map lo)
  own : w.ownsRow (lb + 1) 107 1 av A.length (ptrs A)
  perm : A.Perm (Z.map (·.v))
  things : ∀ p ∈ A, w.heap[p.1]? = some (.cells #[mkI p.2] 113 (0, 0))
  dis : A.Pairwise (fun x y => x.2 ≠ y.2)

variable {w w' : World} {lb hb : Nat} {room puts : Int} {hv av : Value} {A : List (Nat × Int)} {Z : List (Ent (Nat × Int))}

theorem Lines.c0 (h : Lines w lb hb room puts hv av A Z) : w.cell? ⟨lb, 0, none⟩ = some (.pointer (some ⟨hb, 0, none⟩)) := by simp [World.cell?, h.blk]
theorem Lines.c1 (h : Lines w lb hb room puts hv av A Z) : w.cell? ⟨lb, 1, none⟩ = some av := by simp [World.cell?, h.blk]
theorem Lines.fz (h : Lines w lb hb room puts hv av A Z) (o : Nat) : w.frozen? ⟨lb, o, none⟩ = false := by simp [World.frozen?, h.blk]
theorem Lines.lt (h : Lines w lb hb room puts hv av A Z) : lb < w.heap.size := (Array.getElem?_eq_some_iff.1 h.blk).1
theorem Lines.len (h : Lines w lb hb room puts hv av A Z) : A.length = Z.length := by have := h.perm.length_eq; simpa using this
theorem Lines.few (h : Lines w lb hb room puts hv av A Z) : (A.length : Int) ≤ room ∧ 0 ≤ room ∧ room ≤ 1000 := by
  have l := h.len
  obtain ⟨es, _, _, _, _, h0, h1, h2⟩ := h.heap
  simp at h2
  omega
theorem Lines.slice (h : Lines w lb hb room puts hv av A Z) : ∃ a cap, av = .slice a A.length cap := by
  rcases h.own.2 with ⟨rfl, hn⟩ | ⟨g, cap, cur, rfl, _⟩
  · exact ⟨none, 0, by rw [hn]⟩
  · exact ⟨_, _, rfl⟩

/-- A block of cells of that type. -/
def Kind (w : World) (k : Nat) (t : TypeId) : Prop := ∃ c f, w.heap[k]? = some (.cells c t f)
theorem Kind.ne {k l : Nat} {t u : TypeId} (h : Kind w k t) (g : Kind w l u) (n : t ≠ u) : k ≠ l := by
  intro e
  subst e
  obtain ⟨c, f, h⟩ := h
  obtain ⟨d, e, g⟩ := g
  rw [h] at g
  cases g
  exact n rfl
theorem heap_kind {l : List (Ent Nat)} (h : HP.Heaps w hb room puts hv l) : ∀ k ∈ foot hb hv, Kind w k 139 ∨ Kind w k 142 := by
  obtain ⟨es, r, _⟩ := h
  intro k hk
  simp only [foot, List.mem_cons, Option.mem_toList] at hk
  rcases hk with rfl | hk
  · exact .inl ⟨_, _, r.blk⟩
  · rcases r.own.2 with ⟨rfl, _⟩ | ⟨g, cap, cur, rfl, _, hh, _⟩
    · simp [Value.ownBlock] at hk
    · simp [Value.ownBlock] at hk; subst hk; exact .inr ⟨_, _, hh⟩
theorem Lines.av_kind (h : Lines w lb hb room puts hv av A Z) : ∀ k, av.ownBlock = some k → Kind w k 107 ∧ lb < k ∧ k < w.heap.size := by
  intro k hk
  have l := h.own.lt k hk
  rcases h.own.2 with ⟨rfl, _⟩ | ⟨g, cap, cur, rfl, _, hh, _⟩
  · simp [Value.ownBlock] at hk
  · simp [Value.ownBlock] at hk; subst hk; exact ⟨⟨_, _, hh⟩, by omega, l.2⟩

/-- All blocks of a line. -/
def footL (lb hb : Nat) (hv av : Value) (A : List (Nat × Int)) : List Nat := foot lb av ++ foot hb hv ++ A.map (·.1)
theorem Lines.only (h : Lines w lb hb room puts hv av A Z) {S : List Nat} (g : Only S w w') (hS : ∀ k ∈ footL lb hb hv av A, k ∉ S) : Lines w' lb hb room puts hv av A Z := by
  have m1 : ∀ k ∈ foot lb av, k ∉ S := fun k hk => hS k (by simp [footL, hk])
  have m2 : ∀ k ∈ foot hb hv, k ∉ S := fun k hk => hS k (by simp [footL, hk])
  have m3 : ∀ p ∈ A, p.1 ∉ S := fun p hp => hS p.1 (by simp only [footL, List.mem_append, List.mem_map]; exact .inr ⟨p, hp, rfl⟩)
  refine ⟨by rw [g.block lb h.lt (m1 lb mem_foot)]; exact h.blk, ?_, ?_, h.perm, fun p hp => ?_, h.dis⟩
  · obtain ⟨es, r, x⟩ := h.heap
    refine ⟨es, r.only g m2 (fun e he => ?_), x⟩
    have ok := r.ok e he
    have hm : e.v ∈ A.map (·.1) := by
      have : e ∈ Z.map lo := x.2.1.mem_iff.1 he
      obtain ⟨z, hz, rfl⟩ := List.mem_map.1 this
      exact List.mem_map.2 ⟨z.v, h.perm.mem_iff.2 (List.mem_map.2 ⟨z, hz, rfl⟩), rfl⟩
    obtain ⟨p, hp, hpv⟩ := List.mem_map.1 hm
    have l := ok.1.lt
    obtain ⟨⟨c, t, e1⟩, n⟩ := ok
    exact ⟨⟨c, t, by rw [g.block e.v l (by rw [← hpv]; exact m3 p hp)]; exact e1⟩, n⟩
  · obtain ⟨h1, h2⟩ := h.own
    refine ⟨h1, ?_⟩
    rcases h2 with h2 | ⟨gb, cap, cur, rfl, hb', hh, r⟩
    · exact .inl h2
    · exact .inr ⟨gb, cap, cur, rfl, hb', by rw [g.block gb (Array.getElem?_eq_some_iff.1 hh).1 (m1 gb mem_foot_slice)]; exact hh, r⟩
  · have e := h.things p hp
    rw [g.block p.1 (Array.getElem?_eq_some_iff.1 e).1 (m3 p hp)]
    exact e
theorem Lines.below (h : Lines w lb hb room puts hv av A Z) (g : Below w.heap.size w w') : Lines w' lb hb room puts hv av A Z := h.only (Below.only g []) (by simp)
theorem Lines.foot_lt (h : Lines w lb hb room puts hv av A Z) : ∀ k ∈ footL lb hb hv av A, k < w.heap.size := by
  intro k hk
  simp only [footL, List.mem_append, List.mem_map] at hk
  rcases hk with (hk | hk) | ⟨p, hp, rfl⟩
  · simp only [foot, List.mem_cons, Option.mem_toList] at hk
    rcases hk with rfl | hk
    · exact h.lt
    · exact (h.av_kind k hk).2.2
  · exact h.heap.foot_lt k hk
  · exact (Array.getElem?_eq_some_iff.1 (h.things p hp)).1

set_option maxHeartbeats 400000 in
theorem len_any (h : Lines w lb hb room puts hv av A Z) :
    Calls Try.prog 34 #[.pointer (some ⟨lb, 0, none⟩)] w fun e w' => e = .returned (.int .i64 A.length) ∧ w' = w := by
  have c1 := h.c1
  have hf := h.few
  obtain ⟨a, cap, rfl⟩ := h.slice
  go_enter Try.func34, Try.ntmps34
  go_wp2
  go_ret
  exact ⟨rfl, rfl⟩

set_option maxHeartbeats 400000 in
theorem new_any (n : Int) (w : World) (h1 : -9223372036854775808 ≤ n) (h2 : n ≤ 9223372036854775807) :
    Calls Try.prog 29 #[.int .i64 n] w fun e w' => ∃ lb, e = .returned (.pointer (some ⟨lb, 0, none⟩)) ∧ w.heap.size < lb ∧ Lines w' lb w.heap.size (HP.roomV n) 0 (.slice none 0 0) (.slice none 0 0) ([] : List (Nat × Int)) [] ∧ Below w.heap.size w w' := by
  go_enter Try.func29, Try.ntmps29
  go_wp2_with (go_at_call 67; refine (HP.new_any n w h1 h2).mono ?_; rintro e w1 ⟨rfl, hh, g1⟩)
  go_ret
  have s1 := hh.lt
  refine ⟨w1.heap.size, rfl, s1, ⟨heap_alloc_new _ _, hh.below ((Below.refl _ _).alloc (Nat.le_refl _) _), World.ownsRow_nil _ _ _ _, List.Perm.refl _, by simp, .nil⟩, g1.trans (((Below.refl _ _).alloc (Nat.le_refl _) _).mono (by omega))⟩

set_option maxHeartbeats 1000000 in
theorem find_any (x : Int) (w : World) (h : Lines w lb hb room puts hv av A Z) :
    Calls Try.prog 68 #[.pointer (some ⟨lb, 0, none⟩), mkI x] w fun e w' => ∃ r : Int, e = .returned (.int .i64 r) ∧ ((r = -1 ∧ ∀ p ∈ A, p.2 ≠ x) ∨ ∃ (i : Nat) (p : Nat × Int), r = i ∧ A[i]? = some p ∧ p.2 = x) ∧ Below w.heap.size w w' := by
  have hf := h.few
  have okx : okI w [] x := trivial
  go_enter Try.func68, Try.ntmps68
  go_wp2_with (go_at_call 34; refine (len_any h).mono ?_; rintro e w' ⟨rfl, hw⟩; subst w')
  go_loopw [8] (fun i wr => ∃ k : Nat, k ≤ A.length ∧ i = .int .i64 k ∧ (∀ (j : Nat) (p : Nat × Int), j < k → A[j]? = some p → p.2 ≠ x) ∧ Below w.heap.size w wr) (fun i _ => A.length - (intOf i).toNat)
  case atStart => exact ⟨0, by omega, rfl, by omega, Below.refl _ _⟩
  case round =>
    obtain ⟨k, hk, rfl, hno, hb'⟩ := hrel
    by_cases hlt : k < A.length
    · have hr := h.below hb'
      have c1 := hr.c1
      rcases hr.own.2 with ⟨rfl, hn⟩ | ⟨g, cap, cur, rfl, hg⟩
      · omega
      obtain ⟨p, hp⟩ : ∃ p, A[k]? = some p := ⟨_, List.getElem?_eq_getElem hlt⟩
      have cp : wr.cell? ⟨g, k, none⟩ = some (.pointer (some ⟨p.1, 0, none⟩)) := by
        have := hr.own.cellAt k (by omega)
        rw [ptrs, List.getElem?_map, hp] at this
        exact this
      have ct : wr.cell? ⟨p.1, 0, none⟩ = some (mkI p.2) := by simp [World.cell?, hr.things p (List.mem_of_getElem? hp)]
      have oky : okI wr [] p.2 := trivial
      have okx : okI wr [] x := trivial
      clear hr hg
      by_cases hyx : p.2 = x
      · have K : Hid (decide (p.2 = x) = true) := decide_eq_true hyx
        have HY : Hid (p.2 = x) := hyx
        clear hyx
        have sa := fun (w : World) (F G : List Nat) (h1 : okI w F p.2) (h2 : okI w G x) => K.out ▸ sameI_any p.2 x w h1 h2
        go_wp2_with (go_at_call 82; refine (sa _ _ _ oky okx).mono ?_; rintro e w' ⟨rfl, g1⟩)
        go_ret
        exact ⟨k, rfl, .inr ⟨k, p, rfl, hp, HY.out⟩, hb'.trans (g1.mono hb'.size)⟩
      · have K : Hid (decide (p.2 = x) = false) := decide_eq_false hyx
        have HY : Hid (p.2 ≠ x) := hyx
        clear hyx
        have sa := fun (w : World) (F G : List Nat) (h1 : okI w F p.2) (h2 : okI w G x) => K.out ▸ sameI_any p.2 x w h1 h2
        go_wp2_with (go_at_call 82; refine (sa _ _ _ oky okx).mono ?_; rintro e w' ⟨rfl, g1⟩)
        go_roundw
        case rel =>
          refine ⟨k + 1, hlt, by go_num, fun j z hj hz => ?_, hb'.trans (g1.mono hb'.size)⟩
          by_cases e : j = k
          · subst e; rw [hp] at hz; cases hz; exact HY.out
          · exact hno j z (by omega) hz
        case measure => simp [intOf]; omega
    · go_wp2
      go_ret
      exact ⟨-1, rfl, .inl ⟨rfl, fun y hy => by obtain ⟨j, hj⟩ := List.getElem?_of_mem hy; exact hno j y (by have := (List.getElem?_eq_some_iff.1 hj).1; omega) hj⟩, hb'⟩
end Go.Proofs.Ytbfbijfedamgaaa.LI
