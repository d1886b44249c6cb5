/- The heap of int in memory; the contracts of its Len and find. -/
import Derived.Test.YtbfbijfedamgaaaCells
import Derived.Test.YtbfbijfedamgaaaSameI
namespace Go.Proofs.Ytbfbijfedamgaaa.HI
open Go.RowKit

/-- The heap's own block, its array, its things. -/
structure Raw (w : World) (b : Nat) (room puts : Int) (v : Value) (es : List (Ent Int)) : Prop where
  blk : w.heap[b]? = some (.cells #[.int .i64 room, .int .i64 puts, v] 84 (0, 0))
  own : w.ownsRow (b + 1) 89 4 v es.length (cellsOf mkI es)
  ok : ∀ x ∈ es, okI w (foot b v) x.v
  few : es.length ≤ 1000

theorem Raw.c0 {w : World} {b : Nat} {room puts : Int} {v : Value} {es : List (Ent Int)} (h : Raw w b room puts v es) : w.cell? ⟨b, 0, none⟩ = some (.int .i64 room) := by simp [World.cell?, h.blk]
theorem Raw.c1 {w : World} {b : Nat} {room puts : Int} {v : Value} {es : List (Ent Int)} (h : Raw w b room puts v es) : w.cell? ⟨b, 1, none⟩ = some (.int .i64 puts) := by simp [World.cell?, h.blk]
theorem Raw.c2 {w : World} {b : Nat} {room puts : Int} {v : Value} {es : List (Ent Int)} (h : Raw w b room puts v es) : w.cell? ⟨b, 2, none⟩ = some v := by simp [World.cell?, h.blk]
theorem Raw.fz {w : World} {b : Nat} {room puts : Int} {v : Value} {es : List (Ent Int)} (h : Raw w b room puts v es) (o : Nat) : w.frozen? ⟨b, o, none⟩ = false := by simp [World.frozen?, h.blk]
theorem Raw.lt {w : World} {b : Nat} {room puts : Int} {v : Value} {es : List (Ent Int)} (h : Raw w b room puts v es) : b < w.heap.size := (Array.getElem?_eq_some_iff.1 h.blk).1
theorem Raw.gt {w : World} {b : Nat} {room puts : Int} {v : Value} {es : List (Ent Int)} (h : Raw w b room puts v es) : ∀ k, v.ownBlock = some k → b < k ∧ k < w.heap.size := fun k hk => by have := h.own.lt k hk; omega
theorem Raw.foot_lt {w : World} {b : Nat} {room puts : Int} {v : Value} {es : List (Ent Int)} (h : Raw w b room puts v es) : ∀ k ∈ foot b v, k < w.heap.size := by
  intro k hk
  simp only [foot, List.mem_cons, Option.mem_toList] at hk
  rcases hk with rfl | hk
  · exact h.lt
  · exact (h.gt k hk).2
/-- What turns none of its blocks leaves it. -/
theorem Raw.only {w w' : World} {b : Nat} {room puts : Int} {v : Value} {es : List (Ent Int)} (h : Raw w b room puts v es) {S : List Nat} (g : Only S w w') (hS : ∀ k ∈ foot b v, k ∉ S) (hok : ∀ x ∈ es, okI w' (foot b v) x.v) : Raw w' b room puts v es := by
  refine ⟨by rw [g.block b h.lt (hS b mem_foot)]; exact h.blk, ?_, hok, h.few⟩
  obtain ⟨h1, h2⟩ := h.own
  refine ⟨h1, ?_⟩
  rcases h2 with h2 | ⟨gb, cap, cur, rfl, hb, hh, r⟩
  · exact .inl h2
  · exact .inr ⟨gb, cap, cur, rfl, hb, by rw [g.block gb (Array.getElem?_eq_some_iff.1 hh).1 (hS gb mem_foot_slice)]; exact hh, r⟩
theorem Raw.below {w w' : World} {b : Nat} {room puts : Int} {v : Value} {es : List (Ent Int)} (h : Raw w b room puts v es) (g : Below w.heap.size w w') : Raw w' b room puts v es :=
  h.only (Below.only g []) (by simp) (fun x hx => (h.ok x hx).only (Below.only g _) (fun k hk => .inl hk))
/-- A thing is laid at a place. -/
theorem Raw.put4 {w : World} {b g n cap : Nat} {room puts : Int} {es : List (Ent Int)} (h : Raw w b room puts (.slice (some ⟨g, 0, none⟩) n cap) es) (i : Nat) (x : Ent Int) (hx : okI w (foot b (.slice (some ⟨g, 0, none⟩) n cap)) x.v) :
    Raw ((((w.setCell ⟨g, i * 4, none⟩ (mkI x.v)).setCell ⟨g, i * 4 + 1, none⟩ (.int .i64 x.a)).setCell ⟨g, i * 4 + 2, none⟩ (.int .i64 x.b)).setCell ⟨g, i * 4 + 3, none⟩ (.int .i64 x.t)) b room puts (.slice (some ⟨g, 0, none⟩) n cap) (es.set i x) ∧
    Only (foot b (.slice (some ⟨g, 0, none⟩) n cap)) w ((((w.setCell ⟨g, i * 4, none⟩ (mkI x.v)).setCell ⟨g, i * 4 + 1, none⟩ (.int .i64 x.a)).setCell ⟨g, i * 4 + 2, none⟩ (.int .i64 x.b)).setCell ⟨g, i * 4 + 3, none⟩ (.int .i64 x.t)) := by
  have hg := h.gt g rfl
  have m : g ∈ foot b (.slice (some ⟨g, 0, none⟩) n cap) := mem_foot_slice
  have on : Only (foot b (.slice (some ⟨g, 0, none⟩) n cap)) w ((((w.setCell ⟨g, i * 4, none⟩ (mkI x.v)).setCell ⟨g, i * 4 + 1, none⟩ (.int .i64 x.a)).setCell ⟨g, i * 4 + 2, none⟩ (.int .i64 x.b)).setCell ⟨g, i * 4 + 3, none⟩ (.int .i64 x.t)) :=
    ((((Only.refl _ w).setCell (p := ⟨g, i * 4, none⟩) m _).setCell (p := ⟨g, i * 4 + 1, none⟩) m _).setCell (p := ⟨g, i * 4 + 2, none⟩) m _).setCell (p := ⟨g, i * 4 + 3, none⟩) m _
  have hn : n = es.length := by rcases h.own.2 with ⟨e, _⟩ | ⟨_, _, _, e, _⟩ <;> simp at e; exact e.2.1
  subst hn
  have o := ((((h.own.stored (i * 4) (mkI x.v)).1.stored (i * 4 + 1) (.int .i64 x.a)).1.stored (i * 4 + 2) (.int .i64 x.b)).1.stored (i * 4 + 3) (.int .i64 x.t)).1
  rw [← cellsOf_set] at o
  refine ⟨⟨?_, by simpa using o, fun y hy => ?_, by simpa using h.few⟩, on⟩
  · rw [Below.heap_setCell _ _ _ _ (by show b ≠ g; omega), Below.heap_setCell _ _ _ _ (by show b ≠ g; omega), Below.heap_setCell _ _ _ _ (by show b ≠ g; omega), Below.heap_setCell _ _ _ _ (by show b ≠ g; omega)]
    exact h.blk
  · rcases List.mem_or_eq_of_mem_set hy with hy | rfl
    · exact (h.ok y hy).only on (fun k hk => .inl hk)
    · exact hx.only on (fun k hk => .inl hk)
theorem Raw.drew {w : World} {b : Nat} {room puts : Int} {v : Value} {es : List (Ent Int)} (h : Raw w b room puts v es) : Raw w.drew b room puts v es :=
  h.below ((Below.refl _ _).drew)

set_option maxHeartbeats 400000 in
theorem len_any {b : Nat} {room puts : Int} {v : Value} {es : List (Ent Int)} (w : World) (h : Raw w b room puts v es) :
    Calls Try.prog 21 #[.pointer (some ⟨b, 0, none⟩)] w fun e w' => e = .returned (.int .i64 es.length) ∧ w' = w := by
  have c2 := h.c2
  have hl := h.few
  rcases h.own.2 with ⟨rfl, hn⟩ | ⟨g, cap, cur, rfl, hg⟩
  · go_enter Try.func21, Try.ntmps21
    go_wp2
    go_ret
    exact ⟨ret_int (by omega), rfl⟩
  · go_enter Try.func21, Try.ntmps21
    go_wp2
    go_ret
    exact ⟨rfl, rfl⟩

set_option maxHeartbeats 1000000 in
theorem find_any {b : Nat} {room puts : Int} {v : Value} {es : List (Ent Int)} (x : Int) (w : World) (h : Raw w b room puts v es) {F : List Nat} (hx : okI w F x) :
    Calls Try.prog 54 #[.pointer (some ⟨b, 0, none⟩), mkI x] w fun e w' => ∃ r : Int, e = .returned (.int .i64 r) ∧ ((r = -1 ∧ ∀ y ∈ es, y.v ≠ x) ∨ ∃ (i : Nat) (y : Ent Int), r = i ∧ es[i]? = some y ∧ y.v = x) ∧ Below w.heap.size w w' := by
  go_enter Try.func54, Try.ntmps54
  go_wp2_with (go_at_call 21; refine (len_any _ h).mono ?_; rintro e w' ⟨rfl, hw⟩; subst w')
  go_loopw [8] (fun i wr => ∃ k : Nat, k ≤ es.length ∧ i = .int .i64 k ∧ (∀ (j : Nat) (y : Ent Int), j < k → es[j]? = some y → y.v ≠ x) ∧ Below w.heap.size w wr) (fun i _ => es.length - (intOf i).toNat)
  case atStart => exact ⟨0, by omega, rfl, by omega, Below.refl _ _⟩
  case round =>
    obtain ⟨k, hk, rfl, hno, hb⟩ := hrel
    have hl := h.few
    by_cases hlt : k < es.length
    · have hr := h.below hb
      have c2 := hr.c2
      rcases hr.own.2 with ⟨rfl, hn⟩ | ⟨g, cap, cur, rfl, hg⟩
      · omega
      obtain ⟨y, hy⟩ : ∃ y, es[k]? = some y := ⟨_, List.getElem?_eq_getElem hlt⟩
      have q := (cellsOf_get mkI hy).1
      have cy := hr.own.cellAt (k * 4) (by omega)
      rw [q] at cy
      have oky := hr.ok y (List.mem_of_getElem? hy)
      have okx := hx.only (Below.only hb F) (fun k hk => .inl hk)
      clear hr hg q
      by_cases hyx : y.v = x
      · have K : Hid (decide (y.v = x) = true) := decide_eq_true hyx
        have HY : Hid (y.v = x) := hyx
        clear hyx
        have sa := fun (w : World) (F G : List Nat) (h1 : okI w F y.v) (h2 : okI w G x) => K.out ▸ sameI_any y.v x w h1 h2
        go_wp2_with (go_at_call 82; refine (sa _ _ _ oky okx).mono ?_; rintro e w' ⟨rfl, g1⟩)
        go_ret
        exact ⟨k, rfl, .inr ⟨k, y, rfl, hy, HY.out⟩, hb.trans (g1.mono hb.size)⟩
      · have K : Hid (decide (y.v = x) = false) := decide_eq_false hyx
        have HY : Hid (y.v ≠ x) := hyx
        clear hyx
        have sa := fun (w : World) (F G : List Nat) (h1 : okI w F y.v) (h2 : okI w G x) => K.out ▸ sameI_any y.v x w h1 h2
        go_wp2_with (go_at_call 82; refine (sa _ _ _ oky okx).mono ?_; rintro e w' ⟨rfl, g1⟩)
        go_roundw
        case rel =>
          refine ⟨k + 1, hlt, by go_num, fun j z hj hz => ?_, hb.trans (g1.mono hb.size)⟩
          by_cases e : j = k
          · subst e; rw [hy] at hz; cases hz; exact HY.out
          · exact hno j z (by omega) hz
        case measure => simp [intOf]; omega
    · go_wp2
      go_ret
      exact ⟨-1, rfl, .inl ⟨rfl, fun y hy => by obtain ⟨j, hj⟩ := List.getElem?_of_mem hy; exact hno j y (by have := (List.getElem?_eq_some_iff.1 hj).1; omega) hj⟩, hb⟩
end Go.Proofs.Ytbfbijfedamgaaa.HI
