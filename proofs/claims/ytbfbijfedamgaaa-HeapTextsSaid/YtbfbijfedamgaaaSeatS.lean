/- The seats of string in memory; the contracts of New, free, has, Add, Drop. -/
import Derived.Test.YtbfbijfedamgaaaSameS
import Derived.Maps.AppendAt
import Derived.OwnWalk
namespace Go.Proofs.Ytbfbijfedamgaaa.SS
open Go.RowKit

/-- The cells of places, two each. -/
def cellsP (ps : List (ByteArray × Bool)) : List Value := ps.flatMap fun p => [mkS p.1, .bool p.2]
theorem cellsP_length (ps : List (ByteArray × Bool)) : (cellsP ps).length = ps.length * 2 := by
  induction ps with
  | nil => rfl
  | cons e ps ih => simp only [cellsP, List.flatMap_cons, List.length_append] at *; rw [ih]; simp; omega
theorem cellsP_append (ps qs : List (ByteArray × Bool)) : cellsP (ps ++ qs) = cellsP ps ++ cellsP qs := by simp [cellsP]
theorem cellsP_get {ps : List (ByteArray × Bool)} {i : Nat} {p : ByteArray × Bool} (h : ps[i]? = some p) : (cellsP ps)[i * 2]? = some (mkS p.1) ∧ (cellsP ps)[i * 2 + 1]? = some (.bool p.2) := by
  induction ps generalizing i with
  | nil => simp at h
  | cons e es ih =>
    cases i with
    | zero => simp at h; subst h; simp [cellsP]
    | succ i =>
      have := ih (i := i) (by simpa using h)
      rw [show (i + 1) * 2 = i * 2 + 2 by omega]
      simpa [cellsP] using this
theorem cellsP_set (ps : List (ByteArray × Bool)) (i : Nat) (p : ByteArray × Bool) : cellsP (ps.set i p) = ((cellsP ps).set (i * 2) (mkS p.1)).set (i * 2 + 1) (.bool p.2) := by
  induction ps generalizing i with
  | nil => simp [cellsP]
  | cons e es ih =>
    cases i with
    | zero => simp [cellsP]
    | succ i =>
      have := ih i
      rw [show (i + 1) * 2 = i * 2 + 2 by omega]
      simpa [cellsP] using this

/-- The seats as they lie in memory. -/
structure Seats (w : World) (b : Nat) (room : Int) (v : Value) (ps : List (ByteArray × Bool)) : Prop where
  blk : w.heap[b]? = some (.cells #[.int .i64 room, v] 129 (0, 0))
  own : w.ownsRow (b + 1) 132 2 v ps.length (cellsP ps)
  few : (ps.length : Int) ≤ room
  most : room ≤ 100

theorem Seats.c0 {w : World} {b : Nat} {room : Int} {v : Value} {ps : List (ByteArray × Bool)} (h : Seats w b room v ps) : w.cell? ⟨b, 0, none⟩ = some (.int .i64 room) := by simp [World.cell?, h.blk]
theorem Seats.c1 {w : World} {b : Nat} {room : Int} {v : Value} {ps : List (ByteArray × Bool)} (h : Seats w b room v ps) : w.cell? ⟨b, 1, none⟩ = some v := by simp [World.cell?, h.blk]
theorem Seats.fz {w : World} {b : Nat} {room : Int} {v : Value} {ps : List (ByteArray × Bool)} (h : Seats w b room v ps) (o : Nat) : w.frozen? ⟨b, o, none⟩ = false := by simp [World.frozen?, h.blk]
theorem Seats.lt {w : World} {b : Nat} {room : Int} {v : Value} {ps : List (ByteArray × Bool)} (h : Seats w b room v ps) : b < w.heap.size := (Array.getElem?_eq_some_iff.1 h.blk).1
theorem Seats.gt {w : World} {b : Nat} {room : Int} {v : Value} {ps : List (ByteArray × Bool)} (h : Seats w b room v ps) : ∀ k, v.ownBlock = some k → b < k ∧ k < w.heap.size := fun k hk => by have := h.own.lt k hk; omega
theorem Seats.slice {w : World} {b : Nat} {room : Int} {v : Value} {ps : List (ByteArray × Bool)} (h : Seats w b room v ps) : ∃ a cap, v = .slice a ps.length cap := by
  rcases h.own.2 with ⟨rfl, hn⟩ | ⟨g, cap, cur, rfl, _⟩
  · exact ⟨none, 0, by rw [hn]⟩
  · exact ⟨_, _, rfl⟩
theorem Seats.only {w w' : World} {b : Nat} {room : Int} {v : Value} {ps : List (ByteArray × Bool)} (h : Seats w b room v ps) {S : List Nat} (g : Only S w w') (hS : ∀ k ∈ foot b v, k ∉ S) : Seats w' b room v ps := by
  refine ⟨by rw [g.block b h.lt (hS b mem_foot)]; exact h.blk, ?_, h.few, h.most⟩
  obtain ⟨h1, h2⟩ := h.own
  refine ⟨h1, ?_⟩
  rcases h2 with h2 | ⟨gb, cap, cur, rfl, hb, hh, r⟩
  · exact .inl h2
  · exact .inr ⟨gb, cap, cur, rfl, hb, by rw [g.block gb (Array.getElem?_eq_some_iff.1 hh).1 (hS gb mem_foot_slice)]; exact hh, r⟩
theorem Seats.below {w w' : World} {b : Nat} {room : Int} {v : Value} {ps : List (ByteArray × Bool)} (h : Seats w b room v ps) (g : Below w.heap.size w w') : Seats w' b room v ps := h.only (Below.only g []) (by simp)
theorem Seats.foot_lt {w : World} {b : Nat} {room : Int} {v : Value} {ps : List (ByteArray × Bool)} (h : Seats w b room v ps) : ∀ k ∈ foot b v, k < w.heap.size := by
  intro k hk
  simp only [foot, List.mem_cons, Option.mem_toList] at hk
  rcases hk with rfl | hk
  · exact h.lt
  · exact (h.gt k hk).2
theorem Seats.foot_ge {w : World} {b : Nat} {room : Int} {v : Value} {ps : List (ByteArray × Bool)} (h : Seats w b room v ps) : ∀ k ∈ foot b v, b ≤ k := by
  intro k hk
  simp only [foot, List.mem_cons, Option.mem_toList] at hk
  rcases hk with rfl | hk
  · exact Nat.le_refl _
  · exact Nat.le_of_lt (h.gt k hk).1
theorem Seats.len {w : World} {b g n cap : Nat} {room : Int} {ps : List (ByteArray × Bool)} (h : Seats w b room (.slice (some ⟨g, 0, none⟩) n cap) ps) : n = ps.length := by
  rcases h.own.2 with ⟨e, _⟩ | ⟨_, _, _, e, _⟩ <;> simp at e; exact e.2.1
theorem Seats.at {w : World} {b g n cap : Nat} {room : Int} {ps : List (ByteArray × Bool)} (h : Seats w b room (.slice (some ⟨g, 0, none⟩) n cap) ps) {i : Nat} {p : ByteArray × Bool} (hp : ps[i]? = some p) :
    w.cell? ⟨g, i * 2, none⟩ = some (mkS p.1) ∧ w.cell? ⟨g, i * 2 + 1, none⟩ = some (.bool p.2) ∧ ∀ o, w.frozen? ⟨g, o, none⟩ = false := by
  have o := h.own
  rw [← h.len] at o
  have hi := (List.getElem?_eq_some_iff.1 hp).1
  have hl := h.len
  obtain ⟨a0, a1⟩ := cellsP_get hp
  exact ⟨(o.cellAt (i * 2) (by omega)).trans a0, (o.cellAt (i * 2 + 1) (by omega)).trans a1, o.frozenAt⟩
/-- A place is laid. -/
theorem Seats.put {w : World} {b g n cap : Nat} {room : Int} {ps : List (ByteArray × Bool)} (h : Seats w b room (.slice (some ⟨g, 0, none⟩) n cap) ps) (i : Nat) (p : ByteArray × Bool) :
    Seats ((w.setCell ⟨g, i * 2, none⟩ (mkS p.1)).setCell ⟨g, i * 2 + 1, none⟩ (.bool p.2)) b room (.slice (some ⟨g, 0, none⟩) n cap) (ps.set i p) ∧ Only (foot b (.slice (some ⟨g, 0, none⟩) n cap)) w ((w.setCell ⟨g, i * 2, none⟩ (mkS p.1)).setCell ⟨g, i * 2 + 1, none⟩ (.bool p.2)) := by
  have hg := h.gt g rfl
  have m : g ∈ foot b (.slice (some ⟨g, 0, none⟩) n cap) := mem_foot_slice
  have o := h.own
  rw [← h.len] at o
  have o2 := ((o.stored (i * 2) (mkS p.1)).1.stored (i * 2 + 1) (.bool p.2)).1
  rw [← cellsP_set] at o2
  refine ⟨⟨?_, by simpa [h.len] using o2, by simpa using h.few, h.most⟩, ((Only.refl _ w).setCell (p := ⟨g, i * 2, none⟩) m _).setCell (p := ⟨g, i * 2 + 1, none⟩) m _⟩
  rw [Below.heap_setCell _ _ _ _ (by show b ≠ g; omega), Below.heap_setCell _ _ _ _ (by show b ≠ g; omega)]
  exact h.blk

/-- From nought to a hundred. -/
def roomV (n : Int) : Int := max 0 (min n 100)
theorem roomV_bd (n : Int) : 0 ≤ roomV n ∧ roomV n ≤ 100 := by unfold roomV; omega

set_option maxHeartbeats 400000 in
theorem new_any (n : Int) (w : World) (h1 : -9223372036854775808 ≤ n) (h2 : n ≤ 9223372036854775807) :
    Calls Try.prog 46 #[.int .i64 n] w fun e w' => e = .returned (.pointer (some ⟨w.heap.size, 0, none⟩)) ∧ Seats w' w.heap.size (roomV n) (.slice none 0 0) [] ∧ Below w.heap.size w w' := by
  have hb := roomV_bd n
  have HB : Hid (0 ≤ roomV n ∧ roomV n ≤ 100) := hb
  clear hb
  have fin : ∀ r : Int, r = roomV n → Seats (w.alloc (.cells #[.int .i64 r, .slice none 0 0] 129)) w.heap.size (roomV n) (.slice none 0 0) [] := by
    intro r hr
    subst hr
    exact ⟨heap_alloc_new _ _, World.ownsRow_nil _ _ _ _, by simpa using HB.out.1, HB.out.2⟩
  rcases (by omega : n < 0 ∨ (0 ≤ n ∧ n ≤ 100) ∨ 100 < n) with h | h | h
  · have K : Hid (0 = roomV n) := by show _ = _; unfold roomV; omega
    go_enter Try.func46, Try.ntmps46
    go_wp2
    go_ret
    exact ⟨rfl, fin _ K.out, (Below.refl _ _).alloc (Nat.le_refl _) _⟩
  · have K : Hid (n = roomV n) := by show _ = _; unfold roomV; omega
    go_enter Try.func46, Try.ntmps46
    go_wp2
    go_ret
    exact ⟨rfl, fin _ K.out, (Below.refl _ _).alloc (Nat.le_refl _) _⟩
  · have K : Hid (100 = roomV n) := by show _ = _; unfold roomV; omega
    go_enter Try.func46, Try.ntmps46
    go_wp2
    go_ret
    exact ⟨rfl, fin _ K.out, (Below.refl _ _).alloc (Nat.le_refl _) _⟩

/-- The first place that is not taken, or the one behind the last. -/
def IsFree (ps : List (ByteArray × Bool)) (k : Nat) : Prop := k ≤ ps.length ∧ (∀ (j : Nat) (p : ByteArray × Bool), j < k → ps[j]? = some p → p.2 = true) ∧ ∀ p, ps[k]? = some p → p.2 = false

set_option maxHeartbeats 1000000 in
theorem free_any {b : Nat} {room : Int} {v : Value} {ps : List (ByteArray × Bool)} (w : World) (h : Seats w b room v ps) :
    Calls Try.prog 79 #[.pointer (some ⟨b, 0, none⟩)] w fun e w' => ∃ k : Nat, e = .returned (.int .i64 k) ∧ IsFree ps k ∧ w' = w := by
  obtain ⟨ad, cap, hv⟩ := h.slice
  have hfew := h.few
  have hmost := h.most
  obtain ⟨n, hn⟩ : ∃ n, ps.length = n := ⟨_, rfl⟩
  rw [hn] at hv
  subst hv
  have c1 := h.c1
  have HN : Hid (ps.length = n) := hn
  have hn1 : n ≤ 100 := by omega
  clear hn hfew hmost
  go_enter Try.func79, Try.ntmps79
  go_wp2
  go_loop [9] (fun i => ∃ k : Nat, k ≤ n ∧ i = .int .i64 k ∧ ∀ (j : Nat) (p : ByteArray × Bool), j < k → ps[j]? = some p → p.2 = true) (fun i => n - (intOf i).toNat)
  case atStart => exact ⟨0, by omega, rfl, by omega⟩
  case round =>
    obtain ⟨k, hk, rfl, hall⟩ := hrel
    by_cases hlt : k < n
    · rcases h.own.2 with ⟨e, hz⟩ | ⟨g, cap', cur, e, -⟩
      · have := HN.out; omega
      simp only [Value.slice.injEq] at e
      obtain ⟨rfl, -, -⟩ := e
      obtain ⟨p, hp⟩ : ∃ p, ps[k]? = some p := ⟨_, List.getElem?_eq_getElem (by rw [HN.out]; exact hlt)⟩
      have ct := (h.at hp).2.1
      have HP : Hid (ps[k]? = some p) := hp
      clear hp
      cases ht : p.2
      · rw [ht] at ct
        have HT : Hid (p.2 = false) := ht
        clear ht
        go_wp2
        go_ret
        exact ⟨k, rfl, ⟨by rw [HN.out]; omega, hall, fun q hq => by rw [HP.out] at hq; cases hq; exact HT.out⟩, rfl⟩
      · rw [ht] at ct
        have HT : Hid (p.2 = true) := ht
        clear ht
        go_wp2
        go_round
        case rel =>
          refine ⟨k + 1, hlt, by go_num, fun j q hj hq => ?_⟩
          by_cases e : j = k
          · subst e; rw [HP.out] at hq; cases hq; exact HT.out
          · exact hall j q (by omega) hq
        case measure => simp [intOf]; omega
    · have hkn : k = n := by omega
      subst hkn
      go_wp2
      go_ret
      exact ⟨k, rfl, ⟨by rw [HN.out]; omega, hall, fun q hq => by have := (List.getElem?_eq_some_iff.1 hq).1; have := HN.out; omega⟩, rfl⟩
end Go.Proofs.Ytbfbijfedamgaaa.SS
