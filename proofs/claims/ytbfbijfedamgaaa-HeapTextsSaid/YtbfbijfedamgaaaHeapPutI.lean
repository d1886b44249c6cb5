/- The contract of the heap's Put at int. -/
import Derived.Test.YtbfbijfedamgaaaHeapOpsI
import Derived.Maps.AppendAt
import Derived.OwnWalk
namespace Go.Proofs.Ytbfbijfedamgaaa.HI
open Go.RowKit

/-- A key is laid at a place. -/
theorem Raw.key {w : World} {b g n cap : Nat} {room puts : Int} {es : List (Ent Int)} (h : Raw w b room puts (.slice (some ⟨g, 0, none⟩) n cap) es) {i : Nat} {y : Ent Int} (hy : es[i]? = some y) (a c t : Int) :
    Raw (((w.setCell ⟨g, i * 4 + 1, none⟩ (.int .i64 a)).setCell ⟨g, i * 4 + 2, none⟩ (.int .i64 c)).setCell ⟨g, i * 4 + 3, none⟩ (.int .i64 t)) b room puts (.slice (some ⟨g, 0, none⟩) n cap) (es.set i ⟨y.v, a, c, t⟩) ∧
    Only (foot b (.slice (some ⟨g, 0, none⟩) n cap)) w (((w.setCell ⟨g, i * 4 + 1, none⟩ (.int .i64 a)).setCell ⟨g, i * 4 + 2, none⟩ (.int .i64 c)).setCell ⟨g, i * 4 + 3, none⟩ (.int .i64 t)) := by
  have hg := h.gt g rfl
  have m : g ∈ foot b (.slice (some ⟨g, 0, none⟩) n cap) := mem_foot_slice
  have on : Only (foot b (.slice (some ⟨g, 0, none⟩) n cap)) w (((w.setCell ⟨g, i * 4 + 1, none⟩ (.int .i64 a)).setCell ⟨g, i * 4 + 2, none⟩ (.int .i64 c)).setCell ⟨g, i * 4 + 3, none⟩ (.int .i64 t)) :=
    (((Only.refl _ w).setCell (p := ⟨g, i * 4 + 1, none⟩) m _).setCell (p := ⟨g, i * 4 + 2, none⟩) m _).setCell (p := ⟨g, i * 4 + 3, none⟩) m _
  have hn := h.len
  subst hn
  have o := (((h.own.stored (i * 4 + 1) (.int .i64 a)).1.stored (i * 4 + 2) (.int .i64 c)).1.stored (i * 4 + 3) (.int .i64 t)).1
  have e : (cellsOf mkI es).set (i * 4) (mkI y.v) = cellsOf mkI es := by
    apply List.ext_getElem?
    intro k
    rw [List.getElem?_set]
    have hq := (cellsOf_get mkI hy).1
    split
    · rename_i hk; subst hk; rw [hq]; split
      · rfl
      · rename_i hk; have := (List.getElem?_eq_some_iff.1 hq).1; omega
    · rfl
  have cs := cellsOf_set mkI es i ⟨y.v, a, c, t⟩
  simp only at cs
  rw [e] at cs
  rw [← cs] at o
  refine ⟨⟨?_, by simpa using o, fun z hz => ?_, by simpa using h.few⟩, on⟩
  · rw [Below.heap_setCell _ _ _ _ (by show b ≠ g; omega), Below.heap_setCell _ _ _ _ (by show b ≠ g; omega), Below.heap_setCell _ _ _ _ (by show b ≠ g; omega)]
    exact h.blk
  · rcases List.mem_or_eq_of_mem_set hz with hz | rfl
    · exact (h.ok z hz).only on (fun k hk => .inl hk)
    · exact (h.ok y (List.mem_of_getElem? hy)).only on (fun k hk => .inl hk)

/-- A field of the heap's own block is laid. -/
theorem Raw.puts {w : World} {b : Nat} {room puts : Int} {v : Value} {es : List (Ent Int)} (h : Raw w b room puts v es) (p : Int) : Raw (w.setCell ⟨b, 1, none⟩ (.int .i64 p)) b room p v es ∧ Only (foot b v) w (w.setCell ⟨b, 1, none⟩ (.int .i64 p)) := by
  have on : Only (foot b v) w (w.setCell ⟨b, 1, none⟩ (.int .i64 p)) := (Only.refl _ w).setCell (p := ⟨b, 1, none⟩) mem_foot _
  refine ⟨⟨?_, ?_, fun z hz => (h.ok z hz).only on (fun k hk => .inl hk), h.few⟩, on⟩
  · have := heap_setCell_same w b 1 _ _ (.int .i64 p) h.blk
    simpa using this
  · exact ownsRow_setCell_below h.own (show b < b + 1 by omega) _
/-- What an append made is laid into the heap's own block. -/
theorem Raw.grow {w w1 : World} {b : Nat} {room puts : Int} {v v' : Value} {es : List (Ent Int)} (h : Raw w b room puts v es) (x : Ent Int) (hx : okI w (foot b v) x.v) (hl : es.length < 1000)
    (hown : w1.ownsRow (b + 1) 89 4 v' (es.length + 1) (cellsOf mkI es ++ cellsOf mkI [x])) (hg : w.grownBy w1 v.ownBlock) (hnew : ∀ k, v'.ownBlock = some k → v.ownBlock = some k ∨ w.heap.size ≤ k) :
    Raw (w1.setCell ⟨b, 2, none⟩ v') b room puts v' (es ++ [x]) ∧ Only (foot b v) w (w1.setCell ⟨b, 2, none⟩ v') ∧ ∀ k ∈ foot b v', k ∈ foot b v ∨ w.heap.size ≤ k := by
  have hf : ∀ k ∈ foot b v', k ∈ foot b v ∨ w.heap.size ≤ k := by
    intro k hk
    simp only [foot, List.mem_cons, Option.mem_toList] at hk ⊢
    rcases hk with rfl | hk
    · exact .inl (.inl rfl)
    · rcases hnew k hk with e | e
      · exact .inl (.inr e)
      · exact .inr e
  have on : Only (foot b v) w (w1.setCell ⟨b, 2, none⟩ v') :=
    ((Only.refl _ w).grown hg (fun k hk => .inl (by simp [foot, hk]))).setCell (p := ⟨b, 2, none⟩) mem_foot _
  have hb : some b ≠ v.ownBlock := fun e => by have := (h.gt b e.symm).1; omega
  have blk1 := (hg.block b h.lt hb).trans h.blk
  refine ⟨⟨?_, ?_, fun z hz => ?_, by simp; omega⟩, on, hf⟩
  · have := heap_setCell_same w1 b 2 _ _ v' blk1
    simpa using this
  · have := ownsRow_setCell_below hown (a := ⟨b, 2, none⟩) (show b < b + 1 by omega) v'
    rw [cellsOf_append]
    simpa using this
  · rcases List.mem_append.1 hz with hz | hz
    · exact (h.ok z hz).only on hf
    · simp at hz; subst hz; exact hx.only on hf

theorem infoE : (Try.prog.info? 89).map (fun i => (i.zero, i.size, i.bytes)) = some (some (.agg #[.int .i64 0, .int .i64 0, .int .i64 0, .int .i64 0]), 4, 32) := by kernel_rfl

set_option maxHeartbeats 400000 in
theorem put_full {b : Nat} {room puts : Int} {v : Value} {l : List (Ent Int)} (x : Int) (a c : Int) (w : World) (h : Heaps w b room puts v l) {F : List Nat} (hx : okI w F x) (hno : ∀ y ∈ l, y.v ≠ x) (hfull : room ≤ l.length) :
    Calls Try.prog 11 #[.pointer (some ⟨b, 0, none⟩), mkI x, .int .i64 a, .int .i64 c] w fun e w' => e = .returned (.bool false) ∧ Below w.heap.size w w' := by
  obtain ⟨es, hr, hh, hp, hi, h0, h1, h2⟩ := h
  have hlen := hp.length_eq
  have hes : ∀ y ∈ es, y.v ≠ x := fun y hy => hno y (hp.mem_iff.1 hy)
  have fa : ∀ w : World, Raw w b room puts v es → okI w F x → Calls Try.prog 54 #[.pointer (some ⟨b, 0, none⟩), mkI x] w fun e w' => e = .returned (.int .i64 (-1)) ∧ Below w.heap.size w w' := fun w h hx =>
    (find_any x w h hx).mono fun e w' ⟨r, he, hc, hb⟩ => by
      rcases hc with ⟨rfl, _⟩ | ⟨i, y, _, hy, hv⟩
      · exact ⟨he, hb⟩
      · exact absurd hv (hes y (List.mem_of_getElem? hy))
  obtain ⟨ad, cap, hv⟩ := hr.slice
  generalize hn : es.length = n at hv
  subst hv
  have HN : Hid (es.length = n ∧ es.length = l.length) := ⟨hn, hlen⟩
  have hle : room ≤ (n : Int) := by omega
  have hn1 : n ≤ 1000 := by omega
  clear hn hlen hfull h2 hes hno
  go_enter Try.func11, Try.ntmps11
  go_wp2_with (go_at_call 54; refine (fa _ hr hx).mono ?_; rintro e w1 ⟨rfl, g1⟩; have r1 := hr.below g1; have c2 := r1.c2; have c0 := r1.c0; clear hr)
  go_quiet (fail)
  go_wp2
  go_ret
  exact ⟨rfl, g1.trans ((below_drewN _ _).mono g1.size)⟩

set_option maxHeartbeats 1000000 in
theorem put_there {b : Nat} {room puts : Int} {v : Value} {l : List (Ent Int)} (x : Int) (a c : Int) (w : World) (h : Heaps w b room puts v l) {F : List Nat} (hx : okI w F x) (hin : ∃ y ∈ l, y.v = x) (hp0 : 0 ≤ puts) (hp1 : puts ≤ 1000000000) :
    Calls Try.prog 11 #[.pointer (some ⟨b, 0, none⟩), mkI x, .int .i64 a, .int .i64 c] w fun e w' => e = .returned (.bool true) ∧ Heaps w' b room (puts + 1) v (less l x ++ [⟨x, a, c, puts + 1⟩]) ∧ Only (foot b v) w w' := by
  obtain ⟨es, hr, hh, hp, hi, h0, h1, h2⟩ := h
  have hlen := hp.length_eq
  have fa : ∀ w : World, Raw w b room puts v es → okI w F x → Calls Try.prog 54 #[.pointer (some ⟨b, 0, none⟩), mkI x] w fun e w' => ∃ (i : Nat) (y : Ent Int), e = .returned (.int .i64 i) ∧ es[i]? = some y ∧ y.v = x ∧ Below w.heap.size w w' := fun w h hx =>
    (find_any x w h hx).mono fun e w' ⟨r, he, hc, hb⟩ => by
      rcases hc with ⟨_, hno⟩ | ⟨i, y, rfl, hy, hv⟩
      · obtain ⟨y, hy, e⟩ := hin; exact absurd e (hno y (hp.mem_iff.2 hy))
      · exact ⟨i, y, he, hy, hv, hb⟩
  have hpos : 0 < es.length := by obtain ⟨y, hy, _⟩ := hin; have := List.length_pos_of_mem hy; omega
  rcases hr.own.2 with ⟨rfl, hz⟩ | ⟨g, cap, cur, hv, -⟩
  · omega
  generalize hn : es.length = n at hv
  subst hv
  have HN : Hid (es.length = n ∧ es.length = l.length ∧ (l.length : Int) ≤ room) := ⟨hn, hlen, h2⟩
  have hn1 : n ≤ 1000 := by omega
  have HI : Hid (Heap es ∧ es.Perm l ∧ Items l puts) := ⟨hh, hp, hi⟩
  clear hn hlen h2 hin hh hp hi hpos
  go_enter Try.func11, Try.ntmps11
  go_wp2_with (go_at_call 54; refine (fa _ hr hx).mono ?_; rintro e w1 ⟨i, y, rfl, hy, hyx, g1⟩; have r1 := hr.below g1; have c2 := r1.c2; have c1 := r1.c1; have fb := r1.fz 1; have hi : i < n := (by have := lt_of_some hy; have := HN.out; omega); have HX : Hid (y.v = x) := hyx; clear hyx)
  obtain ⟨r2, o2⟩ := r1.puts (puts + 1)
  clear c2 c1 fb r1
  generalize hW : (w1.setCell ⟨b, 1, none⟩ (.int .i64 (puts + 1))) = W at *
  have c2 := r2.c2
  have c1 := r2.c1
  obtain ⟨-, p1, p2, p3⟩ := r2.at hy
  have fz : ∀ o, W.frozen? ⟨g, o, none⟩ = false := by have e := r2.len; subst e; exact r2.own.frozenAt
  have gb := (r2.gt g rfl).1
  have H2 : Hid (Raw W b room (puts + 1) (.slice (some ⟨g, 0, none⟩) n cap) es) := r2
  have HY : Hid (es[i]? = some y) := hy
  clear r2 hy hW
  go_region
  obtain ⟨r3, o3⟩ := H2.out.key HY.out a c (puts + 1)
  have hl : i < (es.set i ⟨y.v, a, c, puts + 1⟩).length := by have := HN.out; simp; omega
  have hnear : Near (es.set i ⟨y.v, a, c, puts + 1⟩) i := near_set HI.out.1 i _
  go_wp2_with (go_at_call 55; refine (settle_any i _ r3.drew hl hnear).mono ?_; rintro e w3 ⟨fs, rfl, hh, hp, hr4, o4⟩)
  go_ret
  obtain ⟨i1, i2, i3⟩ := HI.out
  have pm := perm_set i2 i3 HY.out ⟨y.v, a, c, puts + 1⟩
  have it := i3.put x a c
  rw [HX.out] at pm hp
  have ln := (hp.trans pm).length_eq
  have lf := hp.length_eq
  refine ⟨rfl, ⟨fs, hr4, hh, hp.trans pm, it, h0, h1, ?_⟩, ?_⟩
  · have := HN.out; rw [← ln, lf]; simp; omega
  · exact (((Below.only g1 (foot b (.slice (some ⟨g, 0, none⟩) n cap))).trans o2 (fun k hk => .inl hk)).trans o3 (fun k hk => .inl hk)).drew.trans o4 (fun k hk => .inl hk)

theorem cell_four_new (w : World) (x y z u : Value) (t : TypeId) : ∀ (j : Nat) (q : Value), [x, y, z, u][j]? = some q → (w.alloc (.cells #[x, y, z, u] t)).cell? ((⟨w.heap.size, 0, none⟩ : Addr).add j) = some q := by
  intro j q hj
  match j, hj with
  | 0, hj => simp at hj; subst hj; simp [Addr.add]
  | 1, hj => simp at hj; subst hj; simp [Addr.add]
  | 2, hj => simp at hj; subst hj; simp [Addr.add]
  | 3, hj => simp at hj; subst hj; simp [Addr.add]

/-- What lies there behind the append of a new thing. -/
theorem put_grow {b n cap : Nat} {ad : Option Addr} {room puts : Int} {es : List (Ent Int)} {x : Int} {W1 w2 : World} {v2 : Value} {o : Obj} (h : Raw W1 b room puts (.slice ad n cap) es) (hx : okI W1 (foot b (.slice ad n cap)) x) (hn : es.length = n) (hn1 : n < 1000)
    (own2 : w2.ownsRow (b + 1) 89 4 v2 (n + 1) (cellsOf mkI es ++ [mkI x, .int .i64 0, .int .i64 0, .int .i64 0])) (grow2 : (W1.alloc o).grownBy w2 (Value.slice ad n cap).ownBlock) (at2 : v2.ownBlock = (Value.slice ad n cap).ownBlock ∨ v2.ownBlock = some (W1.alloc o).heap.size) :
    ∃ g cap2, v2 = .slice (some ⟨g, 0, none⟩) (n + 1) cap2 ∧ Raw (w2.setCell ⟨b, 2, none⟩ v2) b room puts v2 (es ++ [⟨x, 0, 0, 0⟩]) ∧ Only (foot b (.slice ad n cap)) W1 (w2.setCell ⟨b, 2, none⟩ v2) ∧ (∀ k ∈ foot b v2, k ∈ foot b (.slice ad n cap) ∨ W1.heap.size ≤ k) ∧
      w2.cell? ⟨b, 2, none⟩ = some (.slice ad n cap) ∧ w2.cell? ⟨b, 1, none⟩ = some (.int .i64 puts) ∧ ∀ o, w2.frozen? ⟨b, o, none⟩ = false := by
  obtain ⟨g, cap2, hv2⟩ : ∃ g cap2, v2 = .slice (some ⟨g, 0, none⟩) (n + 1) cap2 := by
    rcases own2.2 with ⟨_, hz⟩ | ⟨g, cap2, cur2, hv2, _⟩
    · omega
    · exact ⟨g, cap2, hv2⟩
  subst hn
  have gr := (World.grownBy_alloc W1 o (Value.slice ad es.length cap).ownBlock).trans grow2
  have hb : some b ≠ (Value.slice ad es.length cap).ownBlock := fun e => by have := (h.gt b e.symm).1; omega
  have blk := (gr.block b h.lt hb).trans h.blk
  obtain ⟨r, on, f⟩ := h.grow ⟨x, 0, 0, 0⟩ hx hn1 own2 gr (fun k hk => by
    rcases at2 with e | e
    · exact .inl (e ▸ hk)
    · rw [e] at hk; simp at hk; exact .inr (by omega))
  exact ⟨g, cap2, hv2, r, on, f, by simp [World.cell?, blk], by simp [World.cell?, blk], fun o => by simp [World.frozen?, blk]⟩

set_option maxHeartbeats 1000000 in
set_option maxRecDepth 100000 in
theorem put_new {b : Nat} {room puts : Int} {v : Value} {l : List (Ent Int)} (x : Int) (a c : Int) (w : World) (h : Heaps w b room puts v l) (hx : okI w (foot b v) x) (hno : ∀ y ∈ l, y.v ≠ x) (hroom : (l.length : Int) < room) (hp0 : 0 ≤ puts) (hp1 : puts ≤ 1000000000) :
    Calls Try.prog 11 #[.pointer (some ⟨b, 0, none⟩), mkI x, .int .i64 a, .int .i64 c] w fun e w' => ∃ v', e = .returned (.bool true) ∧ Heaps w' b room (puts + 1) v' (l ++ [⟨x, a, c, puts + 1⟩]) ∧ Only (foot b v) w w' ∧ ∀ k ∈ foot b v', k ∈ foot b v ∨ w.heap.size ≤ k := by
  obtain ⟨es, hr, hh, hp, hi, h0, h1, h2⟩ := h
  have hlen := hp.length_eq
  have hes : ∀ y ∈ es, y.v ≠ x := fun y hy => hno y (hp.mem_iff.1 hy)
  have fa : ∀ w : World, Raw w b room puts v es → okI w (foot b v) x → Calls Try.prog 54 #[.pointer (some ⟨b, 0, none⟩), mkI x] w fun e w' => e = .returned (.int .i64 (-1)) ∧ Below w.heap.size w w' := fun w h hx =>
    (find_any x w h hx).mono fun e w' ⟨r, he, hc, hb⟩ => by
      rcases hc with ⟨rfl, _⟩ | ⟨i, y, _, hy, hv⟩
      · exact ⟨he, hb⟩
      · exact absurd hv (hes y (List.mem_of_getElem? hy))
  obtain ⟨ad, cap, hv⟩ := hr.slice
  generalize hn : es.length = n at hv
  subst hv
  have HN : Hid (es.length = n ∧ es.length = l.length ∧ (l.length : Int) < room) := ⟨hn, hlen, hroom⟩
  have hle : (n : Int) < room := by omega
  have hn1 : n < 1000 := by omega
  have HI : Hid (Heap es ∧ es.Perm l ∧ Items l puts ∧ (∀ y ∈ l, y.v ≠ x)) := ⟨hh, hp, hi, hno⟩
  obtain ⟨i0, hi0, hz0, hz1, hz2⟩ := info_parts infoE
  clear hn hlen h2 hes hno hroom hh hp hi
  have hle' : ¬ room ≤ (n : Int) := by omega
  unfold mkI
  go_enter Try.func11, Try.ntmps11
  go_wp2_with (go_at_call 54; refine (fa _ hr hx).mono ?_; rintro e w1 ⟨rfl, g1⟩; have r1 := hr.below g1; have x1 := hx.only (Below.only g1 (foot b (.slice ad n cap))) (fun k hk => .inl hk); have c2 := r1.c2; have c0 := r1.c0; clear hr hx)
  go_quiet (fail)
  generalize hW1 : w1.drewN _ = W1
  have gW : Below w1.heap.size w1 W1 := by rw [← hW1]; exact below_drewN _ _
  replace r1 := r1.below gW
  replace x1 := x1.only (Below.only gW (foot b (.slice ad n cap))) (fun k hk => .inl hk)
  clear c2 c0 hW1
  have c2 := r1.c2
  have c1 := r1.c1
  have bl := r1.lt
  have fb : ∀ o, W1.frozen? ⟨b, o, none⟩ = false := r1.fz
  have H1 : Hid (Raw W1 b room puts (.slice ad n cap) es) := r1
  have own : W1.ownsRow (b + 1) 89 4 (.slice ad n cap) n (cellsOf mkI es) := by have := r1.own; rw [HN.out.1] at this; exact this
  clear r1
  go_wp2_with (at_builtin; refine wpList_append_own_at _ rfl (.tmp 36) (.tmp 39) 82 rfl (b + 1) 89 i0 (.agg #[.int .i64 0, .int .i64 0, .int .i64 0, .int .i64 0]) 4 32 Try.underlying82 hi0 hz0 hz1 hz2 rfl (by decide) _ _ _ rfl (own.alloc _) ⟨W1.heap.size, 0, none⟩ 1 1 [.int .i64 x, .int .i64 0, .int .i64 0, .int .i64 0] rfl rfl (cell_four_new _ _ _ _ _ _) (by intro u hu; simp at hu; rcases hu with rfl | rfl | rfl <;> rfl) (by unfold maxLen; omega) (by omega) (by simp; omega) ?_; intro v2 w2 own2 grow2 nil2 at2; obtain ⟨g, cap2, rfl, r2, o2, f2, d2, d1, db⟩ := put_grow H1.out x1 HN.out.1 hn1 own2 grow2 at2; clear own own2 grow2 nil2 at2 c2 c1 fb)
  obtain ⟨r3, o3'⟩ := r2.puts (puts + 1)
  obtain ⟨y, hy, hyx⟩ : ∃ y, (es ++ [⟨x, 0, 0, 0⟩])[n]? = some y ∧ y.v = x := ⟨⟨x, 0, 0, 0⟩, by rw [List.getElem?_append_right (by have := HN.out; omega)]; simp [HN.out.1], rfl⟩
  have HX : Hid (y.v = x) := hyx
  clear hyx
  clear r2 d2 d1 db
  replace r2 := r3
  clear r3
  generalize hW : ((w2.setCell ⟨b, 2, none⟩ (.slice (some ⟨g, 0, none⟩) (n + 1) cap2)).setCell ⟨b, 1, none⟩ (.int .i64 (puts + 1))) = W at *
  have c2 := r2.c2
  have c1 := r2.c1
  obtain ⟨-, p1, p2, p3⟩ := r2.at hy
  have fz : ∀ o, W.frozen? ⟨g, o, none⟩ = false := by have e := r2.len; have q := r2.own; rw [← e] at q; exact q.frozenAt
  have gb := (r2.gt g rfl).1
  have H2 : Hid (Raw W b room (puts + 1) (.slice (some ⟨g, 0, none⟩) (n + 1) cap2) (es ++ [⟨x, 0, 0, 0⟩])) := r2
  have HY : Hid ((es ++ [⟨x, 0, 0, 0⟩])[n]? = some y) := hy
  clear r2 hy hW
  go_region
  obtain ⟨r3, o3⟩ := H2.out.key HY.out a c (puts + 1)
  have hl : n < ((es ++ [(⟨x, 0, 0, 0⟩ : Ent Int)]).set n ⟨y.v, a, c, puts + 1⟩).length := by have := HN.out; simp; omega
  have hset : (es ++ [(⟨x, 0, 0, 0⟩ : Ent Int)]).set n ⟨y.v, a, c, puts + 1⟩ = es ++ [(⟨x, a, c, puts + 1⟩ : Ent Int)] := by
    rw [HX.out, List.set_append_right _ _ (by have := HN.out; omega), HN.out.1]; simp
  have hnear : Near ((es ++ [(⟨x, 0, 0, 0⟩ : Ent Int)]).set n ⟨y.v, a, c, puts + 1⟩) n := by rw [hset]; have := near_snoc HI.out.1 (⟨x, a, c, puts + 1⟩ : Ent Int); rwa [HN.out.1] at this
  have HS : Hid ((es ++ [(⟨x, 0, 0, 0⟩ : Ent Int)]).set n ⟨y.v, a, c, puts + 1⟩ = es ++ [(⟨x, a, c, puts + 1⟩ : Ent Int)]) := hset
  clear hset
  go_wp2_with (go_at_call 55; refine (settle_any n _ r3.drew hl hnear).mono ?_; rintro e w3 ⟨fs, rfl, hh, hp, hr4, o4⟩)
  go_ret
  obtain ⟨i1, i2, i3, i4⟩ := HI.out
  rw [HS.out] at hp
  have pm := perm_snoc i2 i4 ⟨x, a, c, puts + 1⟩
  have it := i3.put x a c
  rw [less_none i4] at pm it
  have ln := (hp.trans pm).length_eq
  have lf := hp.length_eq
  have ow : Only (foot b (.slice ad n cap)) w W1 := (Below.only g1 _).trans (Below.only gW []) (by simp)
  refine ⟨_, rfl, ⟨fs, hr4, hh, hp.trans pm, it, h0, h1, ?_⟩, ?_, ?_⟩
  · have := HN.out; simp; omega
  · have fw : ∀ k ∈ foot b (.slice (some ⟨g, 0, none⟩) (n + 1) cap2), k ∈ foot b (.slice ad n cap) ∨ w.heap.size ≤ k := fun k hk => by
      rcases f2 k hk with q | q
      · exact .inl q
      · exact .inr (Nat.le_trans ow.size q)
    exact (((ow.trans o2 (fun k hk => .inl hk)).trans o3' fw).trans o3 fw).drew.trans o4 fw
  · intro k hk
    rcases f2 k hk with q | q
    · exact .inl q
    · exact .inr (Nat.le_trans ow.size q)
end Go.Proofs.Ytbfbijfedamgaaa.HI
