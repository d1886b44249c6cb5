/- The contracts of the seats' has, Add, Drop at string. -/
import Derived.Test.YtbfbijfedamgaaaSeatS
namespace Go.Proofs.Ytbfbijfedamgaaa.SS
open Go.RowKit

set_option maxHeartbeats 400000 in
theorem has_out {b : Nat} {room : Int} {v : Value} {ps : List (ByteArray × Bool)} (id : Int) (w : World) (h : Seats w b room v ps) (hid : id < 1 ∨ (ps.length : Int) < id) :
    Calls Try.prog 80 #[.pointer (some ⟨b, 0, none⟩), .int .i64 id] w fun e w' => e = .returned (.bool false) ∧ w' = w := by
  obtain ⟨ad, cap, hv⟩ := h.slice
  have hfew := h.few
  have hmost := h.most
  subst hv
  have c1 := h.c1
  by_cases h1 : id < 1
  · have h1' : ¬ 1 ≤ id := by omega
    clear hid
    go_enter Try.func80, Try.ntmps80
    go_wp2
    go_ret
    exact ⟨rfl, rfl⟩
  · have h1' : 1 ≤ id := by omega
    have h2 : ¬ id ≤ (ps.length : Int) := by omega
    clear hid
    go_enter Try.func80, Try.ntmps80
    go_wp2
    go_ret
    exact ⟨rfl, rfl⟩
set_option maxHeartbeats 400000 in
theorem has_in {b : Nat} {room : Int} {v : Value} {ps : List (ByteArray × Bool)} {p : ByteArray × Bool} (i : Nat) (id : Int) (w : World) (h : Seats w b room v ps) (hp : ps[i]? = some p) (hid : id = i + 1) :
    Calls Try.prog 80 #[.pointer (some ⟨b, 0, none⟩), .int .i64 id] w fun e w' => e = .returned (.bool p.2) ∧ w' = w := by
  have hfew := h.few
  have hmost := h.most
  have il := (List.getElem?_eq_some_iff.1 hp).1
  rcases h.own.2 with ⟨rfl, hz⟩ | ⟨g, cap, cur, rfl, -⟩
  · omega
  have c1 := h.c1
  have ct := (h.at hp).2.1
  have h1 : 1 ≤ id := by omega
  have h2 : id ≤ (ps.length : Int) := by omega
  have h3 : id - 1 = (i : Int) := by omega
  clear hid
  go_enter Try.func80, Try.ntmps80
  go_wp2
  go_ret
  exact ⟨rfl, rfl⟩

theorem infoP : (Try.prog.info? 132).map (fun i => (i.zero, i.size, i.bytes)) = some (some (.agg #[.string ⟨#[]⟩, .bool false]), 2, 24) := by kernel_rfl

set_option maxHeartbeats 400000 in
theorem add_full {b : Nat} {room : Int} {v : Value} {ps : List (ByteArray × Bool)} (x : ByteArray) (w : World) (h : Seats w b room v ps) (hf : IsFree ps ps.length) (hfull : room = ps.length) :
    Calls Try.prog 50 #[.pointer (some ⟨b, 0, none⟩), mkS x] w fun e w' => e = .returned (.int .i64 0) ∧ w' = w := by
  have fa : Calls Try.prog 79 #[.pointer (some ⟨b, 0, none⟩)] w fun e w' => e = .returned (.int .i64 ps.length) ∧ w' = w := (free_any w h).mono fun e w' ⟨k, he, hk, hw⟩ => by
    have : k = ps.length := by
      rcases Nat.lt_or_ge k ps.length with hlt | hge
      · have a := hk.2.2 _ (List.getElem?_eq_getElem hlt)
        have c := hf.2.1 k _ hlt (List.getElem?_eq_getElem hlt)
        rw [a] at c; simp at c
      · have := hk.1; omega
    subst this
    exact ⟨he, hw⟩
  have c0 := h.c0
  rw [hfull] at c0
  clear hf hfull
  go_enter Try.func50, Try.ntmps50
  go_wp2_with (go_at_call 79; refine fa.mono ?_; rintro e w' ⟨rfl, hw⟩; subst w')
  go_ret
  exact ⟨rfl, rfl⟩
theorem free_is {b : Nat} {room : Int} {v : Value} {ps : List (ByteArray × Bool)} {k : Nat} (w : World) (h : Seats w b room v ps) (hf : IsFree ps k) :
    Calls Try.prog 79 #[.pointer (some ⟨b, 0, none⟩)] w fun e w' => e = .returned (.int .i64 k) ∧ w' = w :=
  (free_any w h).mono fun e w' ⟨j, he, hk, hw⟩ => by
    have : j = k := by
      rcases Nat.lt_trichotomy j k with hlt | e | hlt
      · have hl : j < ps.length := by have := hf.1; omega
        have a := hk.2.2 _ (List.getElem?_eq_getElem hl)
        have c := hf.2.1 j _ hlt (List.getElem?_eq_getElem hl)
        rw [a] at c; simp at c
      · exact e
      · have hl : k < ps.length := by have := hk.1; omega
        have a := hf.2.2 _ (List.getElem?_eq_getElem hl)
        have c := hk.2.1 k _ hlt (List.getElem?_eq_getElem hl)
        rw [a] at c; simp at c
    subst this
    exact ⟨he, hw⟩

set_option maxHeartbeats 1000000 in
set_option maxRecDepth 100000 in
theorem add_there {b : Nat} {room : Int} {v : Value} {ps : List (ByteArray × Bool)} (k : Nat) (x : ByteArray) (w : World) (h : Seats w b room v ps) (hf : IsFree ps k) (hk : k < ps.length) :
    Calls Try.prog 50 #[.pointer (some ⟨b, 0, none⟩), mkS x] w fun e w' => e = .returned (.int .i64 (k + 1)) ∧ Seats w' b room v (ps.set k (x, true)) ∧ Only (foot b v) w w' := by
  have fa := free_is w h hf
  have hfew := h.few
  have hmost := h.most
  rcases h.own.2 with ⟨rfl, hz⟩ | ⟨g, cap, cur, hv, -⟩
  · omega
  obtain ⟨n, hn⟩ : ∃ n, ps.length = n := ⟨_, rfl⟩
  rw [hn] at hv hk hfew
  subst hv
  have c0 := h.c0
  have c1 := h.c1
  obtain ⟨p, hp⟩ : ∃ p, ps[k]? = some p := ⟨_, List.getElem?_eq_getElem (by omega)⟩
  obtain ⟨p0, p1, fz⟩ := h.at hp
  have HN : Hid (ps.length = n) := hn
  have h1 : ¬ (k : Int) = room := by omega
  have h2 : ¬ (k : Int) = (n : Int) := by omega
  have h3 : ¬ k = n := by omega
  have HS : Hid (Seats w b room (.slice (some ⟨g, 0, none⟩) n cap) ps) := h
  clear hn hf h hp
  unfold mkS at p0 ⊢
  go_enter Try.func50, Try.ntmps50
  go_wp2_with (go_at_call 79; refine fa.mono ?_; rintro e w' ⟨rfl, hw⟩; subst w')
  go_ret
  obtain ⟨r, o⟩ := HS.out.put k (x, true)
  exact ⟨rfl, r, o⟩

theorem cell_two_new (w : World) (x y : Value) (t : TypeId) : ∀ (j : Nat) (q : Value), [x, y][j]? = some q → (w.alloc (.cells #[x, y] t)).cell? ((⟨w.heap.size, 0, none⟩ : Addr).add j) = some q := by
  intro j q hj
  match j, hj with
  | 0, hj => simp at hj; subst hj; simp [Addr.add]
  | 1, hj => simp at hj; subst hj; simp [Addr.add]

/-- What lies there behind the append of a new place. -/
theorem grown {b n cap : Nat} {ad : Option Addr} {room : Int} {ps : List (ByteArray × Bool)} {W1 w2 : World} {v2 : Value} {o : Obj} (h : Seats W1 b room (.slice ad n cap) ps) (hn : ps.length = n) (hn1 : (n : Int) < room)
    (own2 : w2.ownsRow (b + 1) 132 2 v2 (n + 1) (cellsP ps ++ [mkS (⟨#[]⟩ : ByteArray), .bool false])) (grow2 : (W1.alloc o).grownBy w2 (Value.slice ad n cap).ownBlock) (at2 : v2.ownBlock = (Value.slice ad n cap).ownBlock ∨ v2.ownBlock = some (W1.alloc o).heap.size) :
    ∃ g cap2, v2 = .slice (some ⟨g, 0, none⟩) (n + 1) cap2 ∧ Seats (w2.setCell ⟨b, 1, none⟩ v2) b room v2 (ps ++ [((⟨#[]⟩ : ByteArray), false)]) ∧ Only (foot b (.slice ad n cap)) W1 (w2.setCell ⟨b, 1, none⟩ v2) ∧ (∀ k ∈ foot b v2, k ∈ foot b (.slice ad n cap) ∨ W1.heap.size ≤ k) ∧
      w2.cell? ⟨b, 1, none⟩ = some (.slice ad n cap) ∧ ∀ o, w2.frozen? ⟨b, o, none⟩ = false := by
  obtain ⟨g, cap2, hv2⟩ : ∃ g cap2, v2 = .slice (some ⟨g, 0, none⟩) (n + 1) cap2 := by
    rcases own2.2 with ⟨_, hz⟩ | ⟨g, cap2, cur2, hv2, _⟩
    · omega
    · exact ⟨g, cap2, hv2⟩
  subst hn
  have gr := (World.grownBy_alloc W1 o (Value.slice ad ps.length cap).ownBlock).trans grow2
  have hb : some b ≠ (Value.slice ad ps.length cap).ownBlock := fun e => by have := (h.gt b e.symm).1; omega
  have blk := (gr.block b h.lt hb).trans h.blk
  have hf : ∀ k ∈ foot b v2, k ∈ foot b (.slice ad ps.length cap) ∨ W1.heap.size ≤ k := by
    intro k hk
    simp only [foot, List.mem_cons, Option.mem_toList] at hk ⊢
    rcases hk with rfl | hk
    · exact .inl (.inl rfl)
    · rcases at2 with e | e
      · exact .inl (.inr (e ▸ hk))
      · rw [e] at hk; simp at hk; exact .inr (by omega)
  refine ⟨g, cap2, hv2, ⟨?_, ?_, by simp; omega, h.most⟩, ((Only.refl _ W1).grown gr (fun k hk => .inl (by simp [foot, hk]))).setCell (p := ⟨b, 1, none⟩) mem_foot _, hf, by simp [World.cell?, blk], fun o => by simp [World.frozen?, blk]⟩
  · have := heap_setCell_same w2 b 1 _ _ v2 blk
    simpa using this
  · have := ownsRow_setCell_below own2 (a := ⟨b, 1, none⟩) (show b < b + 1 by omega) v2
    have e : (ps ++ [((⟨#[]⟩ : ByteArray), false)]).length = ps.length + 1 := by simp
    rw [cellsP_append, e]
    exact this

set_option maxHeartbeats 1000000 in
set_option maxRecDepth 100000 in
theorem add_new {b : Nat} {room : Int} {v : Value} {ps : List (ByteArray × Bool)} (x : ByteArray) (w : World) (h : Seats w b room v ps) (hf : IsFree ps ps.length) (hroom : (ps.length : Int) < room) :
    Calls Try.prog 50 #[.pointer (some ⟨b, 0, none⟩), mkS x] w fun e w' => ∃ v', e = .returned (.int .i64 (ps.length + 1)) ∧ Seats w' b room v' (ps ++ [(x, true)]) ∧ Only (foot b v) w w' ∧ ∀ k ∈ foot b v', k ∈ foot b v ∨ w.heap.size ≤ k := by
  have fa := free_is w h hf
  have hmost := h.most
  obtain ⟨ad, cap, hv⟩ := h.slice
  obtain ⟨n, hn⟩ : ∃ n, ps.length = n := ⟨_, rfl⟩
  rw [hn] at hv hroom fa ⊢
  subst hv
  have c0 := h.c0
  have c1 := h.c1
  have fb := h.fz
  have bl := h.lt
  have own : w.ownsRow (b + 1) 132 2 (.slice ad n cap) n (cellsP ps) := by have := h.own; rw [hn] at this; exact this
  obtain ⟨i0, hi0, hz0, hz1, hz2⟩ := info_parts infoP
  have HN : Hid (ps.length = n) := hn
  have h1 : ¬ (n : Int) = room := by omega
  have hn1 : n < 100 := by omega
  have HS : Hid (Seats w b room (.slice ad n cap) ps) := h
  clear hn hf h
  unfold mkS
  go_enter Try.func50, Try.ntmps50
  go_wp2_with (first | (go_at_call 79; refine fa.mono ?_; rintro e w' ⟨rfl, hw⟩; subst w') | (at_builtin; refine wpList_append_own_at _ rfl (.tmp 27) (.tmp 29) 127 rfl (b + 1) 132 i0 (.agg #[.string ⟨#[]⟩, .bool false]) 2 24 Try.underlying127 hi0 hz0 hz1 hz2 rfl (by decide) _ _ _ rfl (own.alloc _) ⟨w.heap.size, 0, none⟩ 1 1 [.string ⟨#[]⟩, .bool false] rfl rfl (cell_two_new _ _ _ _) (by intro u hu; simp at hu; rcases hu with rfl | rfl <;> rfl) (by unfold maxLen; omega) (by omega) (by simp; omega) ?_; intro v2 w2 own2 grow2 nil2 at2; obtain ⟨g, cap2, rfl, r2, o2, f2, d1, db⟩ := grown HS.out HN.out hroom own2 grow2 at2; have p := (r2.at (i := n) (p := ((⟨#[]⟩ : ByteArray), false)) (by rw [List.getElem?_append_right (by have := HN.out; omega)]; simp [HN.out])); obtain ⟨p0, p1, fz⟩ := p; have gb := (r2.gt g rfl).1; have bg : ¬ b = g := (by omega); have bg' : ¬ g = b := (by omega); have R2 : Hid (Seats (w2.setCell ⟨b, 1, none⟩ (.slice (some ⟨g, 0, none⟩) (n + 1) cap2)) b room (.slice (some ⟨g, 0, none⟩) (n + 1) cap2) (ps ++ [((⟨#[]⟩ : ByteArray), false)])) := r2; unfold mkS at p0; clear r2 own own2 grow2 nil2 at2 c1 c0 fb))
  go_ret
  obtain ⟨r3, o3⟩ := R2.out.put n (x, true)
  have hset : (ps ++ [((⟨#[]⟩ : ByteArray), false)]).set n (x, true) = ps ++ [(x, true)] := by
    rw [List.set_append_right _ _ (by have := HN.out; omega), HN.out]; simp
  rw [hset] at r3
  first | exact ⟨_, rfl, r3, o2.trans o3 f2, f2⟩ | exact ⟨rfl, _, r3, o2.trans o3 f2, f2⟩

set_option maxHeartbeats 400000 in
theorem drop_no {b : Nat} {room : Int} {v : Value} {ps : List (ByteArray × Bool)} (id : Int) (w : World)
    (ha : Calls Try.prog 80 #[.pointer (some ⟨b, 0, none⟩), .int .i64 id] w fun e w' => e = .returned (.bool false) ∧ w' = w) (_h : Seats w b room v ps) :
    Calls Try.prog 51 #[.pointer (some ⟨b, 0, none⟩), .int .i64 id] w fun e w' => e = .returned (.bool false) ∧ w' = w := by
  go_enter Try.func51, Try.ntmps51
  go_wp2_with (go_at_call 80; refine ha.mono ?_; rintro e w' ⟨rfl, hw⟩; subst w')
  go_ret
  exact ⟨rfl, rfl⟩
set_option maxHeartbeats 1000000 in
set_option maxRecDepth 100000 in
theorem drop_yes {b : Nat} {room : Int} {v : Value} {ps : List (ByteArray × Bool)} {x : ByteArray} (i : Nat) (id : Int) (w : World) (h : Seats w b room v ps) (hp : ps[i]? = some (x, true)) (hid : id = i + 1) :
    Calls Try.prog 51 #[.pointer (some ⟨b, 0, none⟩), .int .i64 id] w fun e w' => e = .returned (.bool true) ∧ Seats w' b room v (ps.set i ((⟨#[]⟩ : ByteArray), false)) ∧ Only (foot b v) w w' := by
  have ha := has_in i id w h hp hid
  have hfew := h.few
  have hmost := h.most
  have il := (List.getElem?_eq_some_iff.1 hp).1
  rcases h.own.2 with ⟨rfl, hz⟩ | ⟨g, cap, cur, hv, -⟩
  · omega
  obtain ⟨n, hn⟩ : ∃ n, ps.length = n := ⟨_, rfl⟩
  rw [hn] at hv il hfew
  subst hv
  have c1 := h.c1
  obtain ⟨p0, p1, fz⟩ := h.at hp
  have h3 : id - 1 = (i : Int) := by omega
  have h4 : 1 ≤ id := by omega
  have h5 : id ≤ 100 := by omega
  have HS : Hid (Seats w b room (.slice (some ⟨g, 0, none⟩) n cap) ps) := h
  clear hn h hp hid
  unfold mkS at p0
  go_enter Try.func51, Try.ntmps51
  go_wp2_with (go_at_call 80; refine ha.mono ?_; rintro e w' ⟨rfl, hw⟩; subst w')
  go_ret
  obtain ⟨r, o⟩ := HS.out.put i ((⟨#[]⟩ : ByteArray), false)
  exact ⟨rfl, r, o⟩
end Go.Proofs.Ytbfbijfedamgaaa.SS
