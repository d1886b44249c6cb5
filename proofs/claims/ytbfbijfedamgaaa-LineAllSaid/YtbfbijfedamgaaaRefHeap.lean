/- The document's own heap (a plain list) in memory; the contracts of NewHeap, at, first, First, Key. -/
import Derived.Test.YtbfbijfedamgaaaHeapMoreI
import Derived.Test.YtbfbijfedamgaaaLists
namespace Go.Proofs.Ytbfbijfedamgaaa.RH
open Go.RowKit
def cells3 (l : List (Ent Int)) : List Value := l.flatMap fun e => [.int .i64 e.v, .int .i64 e.a, .int .i64 e.b]
theorem cells3_length (l : List (Ent Int)) : (cells3 l).length = l.length * 3 := by
  induction l with
  | nil => rfl
  | cons e l ih => simp only [cells3, List.flatMap_cons, List.length_append] at *; rw [ih]; simp; omega
theorem cells3_append (l m : List (Ent Int)) : cells3 (l ++ m) = cells3 l ++ cells3 m := by simp [cells3]
theorem cells3_get {l : List (Ent Int)} {i : Nat} {x : Ent Int} (h : l[i]? = some x) :
    (cells3 l)[i * 3]? = some (.int .i64 x.v) ∧ (cells3 l)[i * 3 + 1]? = some (.int .i64 x.a) ∧ (cells3 l)[i * 3 + 2]? = some (.int .i64 x.b) := by
  induction l generalizing i with
  | nil => simp at h
  | cons e l ih =>
    cases i with
    | zero => simp at h; subst h; simp [cells3]
    | succ i =>
      simp at h
      have := ih h
      rw [show (i + 1) * 3 = i * 3 + 3 by omega]
      simpa [cells3, Nat.add_right_comm _ 3] using this
/-- The heap's own block and its list. -/
structure Refs (w : World) (b : Nat) (room : Int) (v : Value) (l : List (Ent Int)) : Prop where
  blk : w.heap[b]? = some (.cells #[.int .i64 room, v] 39 (0, 0))
  own : w.ownsRow (b + 1) 92 3 v l.length (cells3 l)
  few : l.length ≤ 1000
variable {w w' : World} {b : Nat} {room : Int} {v : Value} {l : List (Ent Int)}
theorem Refs.c0 (h : Refs w b room v l) : w.cell? ⟨b, 0, none⟩ = some (.int .i64 room) := by simp [World.cell?, h.blk]
theorem Refs.c1 (h : Refs w b room v l) : w.cell? ⟨b, 1, none⟩ = some v := by simp [World.cell?, h.blk]
theorem Refs.fz (h : Refs w b room v l) (o : Nat) : w.frozen? ⟨b, o, none⟩ = false := by simp [World.frozen?, h.blk]
theorem Refs.lt (h : Refs w b room v l) : b < w.heap.size := (Array.getElem?_eq_some_iff.1 h.blk).1
theorem Refs.slice (h : Refs w b room v l) : ∃ a cap, v = .slice a l.length cap := by
  rcases h.own.2 with ⟨rfl, hn⟩ | ⟨g, cap, cur, rfl, _⟩
  · exact ⟨none, 0, by rw [hn]⟩
  · exact ⟨_, _, rfl⟩
theorem Refs.only (h : Refs w b room v l) {S : List Nat} (g : Only S w w') (hS : ∀ k ∈ foot b v, k ∉ S) : Refs w' b room v l := by
  refine ⟨by rw [g.block b h.lt (hS b mem_foot)]; exact h.blk, ?_, h.few⟩
  obtain ⟨h1, h2⟩ := h.own
  refine ⟨h1, ?_⟩
  rcases h2 with h2 | ⟨gb, cap, cur, rfl, hb, hh, r⟩
  · exact .inl h2
  · exact .inr ⟨gb, cap, cur, rfl, hb, by rw [g.block gb (Array.getElem?_eq_some_iff.1 hh).1 (hS gb mem_foot_slice)]; exact hh, r⟩
theorem Refs.below (h : Refs w b room v l) (g : Below w.heap.size w w') : Refs w' b room v l := h.only (Below.only g []) (by simp)
theorem Refs.foot_lt (h : Refs w b room v l) : ∀ k ∈ foot b v, k < w.heap.size := by
  intro k hk
  simp only [foot, List.mem_cons, Option.mem_toList] at hk
  rcases hk with rfl | hk
  · exact h.lt
  · exact (h.own.lt k hk).2
theorem Refs.foot_ge (h : Refs w b room v l) : ∀ k ∈ foot b v, b ≤ k := by
  intro k hk
  simp only [foot, List.mem_cons, Option.mem_toList] at hk
  rcases hk with rfl | hk
  · exact Nat.le_refl _
  · exact Nat.le_of_lt (h.own.lt k hk).1
theorem keeps : Stays (foot b v) (fun u => Refs u b room v l) := fun _ _ _ h g hS => h.only g hS
theorem Refs.at (h : Refs w b room v l) {i : Nat} {x : Ent Int} (hx : l[i]? = some x) : ∃ g cap, v = .slice (some ⟨g, 0, none⟩) l.length cap ∧ l.length ≤ cap ∧ cap ≤ maxLen ∧ w.cell? ⟨g, i * 3, none⟩ = some (.int .i64 x.v) ∧ w.cell? ⟨g, i * 3 + 1, none⟩ = some (.int .i64 x.a) ∧ w.cell? ⟨g, i * 3 + 2, none⟩ = some (.int .i64 x.b) := by
  have hl := (List.getElem?_eq_some_iff.1 hx).1
  have own := h.own
  rcases own.2 with ⟨_, hn⟩ | ⟨g, cap, cur, rfl, _, _, h1, h2, _⟩
  · omega
  · obtain ⟨e0, e1, e2⟩ := cells3_get hx
    exact ⟨g, cap, rfl, h1, h2, by rw [own.cellAt _ (by omega), e0], by rw [own.cellAt _ (by omega), e1], by rw [own.cellAt _ (by omega), e2]⟩

set_option maxHeartbeats 1000000 in
theorem at_any (x : Int) (w : World) (h : Refs w b room v l) :
    Calls Try.prog 56 #[.pointer (some ⟨b, 0, none⟩), .int .i64 x] w fun e w' => ∃ r : Int, e = .returned (.int .i64 r) ∧ ((r = -1 ∧ ∀ y ∈ l, y.v ≠ x) ∨ ∃ (i : Nat) (y : Ent Int), r = i ∧ l[i]? = some y ∧ y.v = x) ∧ Below w.heap.size w w' := by
  have c1 := h.c1
  have hf := h.few
  obtain ⟨a, cap, rfl⟩ := h.slice
  have H0 : Hid (Refs w b room (.slice a l.length cap) l) := h
  clear h
  go_enter Try.func56, Try.ntmps56
  go_wp2
  go_loopg [5] l.length (fun gk s5 wr => ∃ k : Nat, gk + k = l.length ∧ s5 = .int .i64 k ∧ (∀ (j : Nat) (y : Ent Int), j < k → l[j]? = some y → y.v ≠ x) ∧ wr = w)
  case atStart => exact ⟨0, by omega, rfl, fun j y hj => absurd hj (by omega), rfl⟩
  case round =>
    obtain ⟨k, hk, rfl, hno, rfl⟩ := hrel
    have HN : Hid (∀ (j : Nat) (y : Ent Int), j < k → l[j]? = some y → y.v ≠ x) := hno
    clear hno
    by_cases hkl : k < l.length
    · have hkl' : (k : Int) < (l.length : Int) := by omega
      obtain ⟨y, hy⟩ : ∃ y, l[k]? = some y := ⟨_, List.getElem?_eq_getElem hkl⟩
      obtain ⟨g, cap', hv, h1, h2, d0, d1, d2⟩ := H0.out.at hy
      simp only [Value.slice.injEq] at hv
      obtain ⟨rfl, _, rfl⟩ := hv
      have HY : Hid (l[k]? = some y) := hy
      unfold maxLen at h2
      clear hy d1 d2
      obtain ⟨yv, hyv⟩ : ∃ z, y.v = z := ⟨_, rfl⟩
      have HV : Hid (y.v = yv) := hyv
      rw [hyv] at d0
      clear hyv
      by_cases e : yv = x
      · subst e
        go_wp2
        go_ret
        exact ⟨k, rfl, .inr ⟨k, y, rfl, HY.out, HV.out⟩, Below.refl _ _⟩
      · go_wp2
        go_roundg (gk - 1)
        case measure => omega
        case rel =>
          refine ⟨k + 1, by omega, by go_num, fun j z hj hz => ?_, rfl⟩
          by_cases e2 : j = k
          · subst e2; rw [HY.out] at hz; cases hz; rw [HV.out]; exact e
          · exact HN.out j z (by omega) hz
    · have hkl' : ¬ (k : Int) < (l.length : Int) := by omega
      go_wp2
      go_ret
      exact ⟨-1, rfl, .inl ⟨rfl, fun y hy => by obtain ⟨j, hj⟩ := List.getElem?_of_mem hy; exact HN.out j y (by have := (List.getElem?_eq_some_iff.1 hj).1; omega) hj⟩, Below.refl _ _⟩
theorem at_no (x : Int) (w : World) (h : Refs w b room v l) (hno : ∀ y ∈ l, y.v ≠ x) :
    Calls Try.prog 56 #[.pointer (some ⟨b, 0, none⟩), .int .i64 x] w fun e w' => e = .returned (.int .i64 (-1)) ∧ Below w.heap.size w w' :=
  (at_any x w h).mono fun e w' ⟨r, he, hr, g⟩ => by
    rcases hr with ⟨rfl, _⟩ | ⟨i, y, _, hy, hv⟩
    · exact ⟨he, g⟩
    · exact absurd hv (hno y (List.mem_of_getElem? hy))
theorem at_yes {puts : Int} (x : Ent Int) (w : World) (h : Refs w b room v l) (it : Items l puts) (hin : x ∈ l) :
    Calls Try.prog 56 #[.pointer (some ⟨b, 0, none⟩), .int .i64 x.v] w fun e w' => ∃ i : Nat, e = .returned (.int .i64 i) ∧ l[i]? = some x ∧ Below w.heap.size w w' :=
  (at_any x.v w h).mono fun e w' ⟨r, he, hr, g⟩ => by
    rcases hr with ⟨rfl, hno⟩ | ⟨i, y, rfl, hy, hv⟩
    · exact absurd rfl (hno x hin)
    · refine ⟨i, he, ?_, g⟩
      obtain ⟨j, hj⟩ := List.getElem?_of_mem hin
      obtain ⟨hi1, rfl⟩ := List.getElem?_eq_some_iff.1 hy
      obtain ⟨hj1, rfl⟩ := List.getElem?_eq_some_iff.1 hj
      have key := List.pairwise_iff_getElem.1 it.dis
      rcases Nat.lt_trichotomy i j with h | h | h
      · exact absurd hv (key i j hi1 hj1 h)
      · subst h; exact hy
      · exact absurd hv.symm (key j i hj1 hi1 h)
end Go.Proofs.Ytbfbijfedamgaaa.RH
