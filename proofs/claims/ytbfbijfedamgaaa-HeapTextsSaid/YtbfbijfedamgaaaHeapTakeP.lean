/- The contracts of the heap's remove, Drop and Key at *hortator/line.thing[int]. -/
import Derived.Test.YtbfbijfedamgaaaHeapPutP
namespace Go.Proofs.Ytbfbijfedamgaaa.HP
open Go.RowKit

/-- The last place is let go, whatever was laid into it. -/
theorem Raw.shrink {w : World} {b g m cap : Nat} {room puts : Int} {es : List (Ent Nat)} (h : Raw w b room puts (.slice (some ⟨g, 0, none⟩) (m + 1) cap) es) (u0 u1 u2 u3 : Value) :
    Raw (((((w.setCell ⟨g, m * 4, none⟩ u0).setCell ⟨g, m * 4 + 1, none⟩ u1).setCell ⟨g, m * 4 + 2, none⟩ u2).setCell ⟨g, m * 4 + 3, none⟩ u3).setCell ⟨b, 2, none⟩ (.slice (some ⟨g, 0, none⟩) m cap)) b room puts (.slice (some ⟨g, 0, none⟩) m cap) (es.take m) ∧
    Only (foot b (.slice (some ⟨g, 0, none⟩) (m + 1) cap)) w (((((w.setCell ⟨g, m * 4, none⟩ u0).setCell ⟨g, m * 4 + 1, none⟩ u1).setCell ⟨g, m * 4 + 2, none⟩ u2).setCell ⟨g, m * 4 + 3, none⟩ u3).setCell ⟨b, 2, none⟩ (.slice (some ⟨g, 0, none⟩) m cap)) := by
  have hg := h.gt g rfl
  have mg : g ∈ foot b (.slice (some ⟨g, 0, none⟩) (m + 1) cap) := mem_foot_slice
  have mb : b ∈ foot b (.slice (some ⟨g, 0, none⟩) (m + 1) cap) := mem_foot
  have on : Only (foot b (.slice (some ⟨g, 0, none⟩) (m + 1) cap)) w (((((w.setCell ⟨g, m * 4, none⟩ u0).setCell ⟨g, m * 4 + 1, none⟩ u1).setCell ⟨g, m * 4 + 2, none⟩ u2).setCell ⟨g, m * 4 + 3, none⟩ u3).setCell ⟨b, 2, none⟩ (.slice (some ⟨g, 0, none⟩) m cap)) :=
    (((((Only.refl _ w).setCell (p := ⟨g, m * 4, none⟩) mg _).setCell (p := ⟨g, m * 4 + 1, none⟩) mg _).setCell (p := ⟨g, m * 4 + 2, none⟩) mg _).setCell (p := ⟨g, m * 4 + 3, none⟩) mg _).setCell (p := ⟨b, 2, none⟩) mb _
  have hn := h.len
  have o0 := h.own
  rw [← hn] at o0
  have o := ((((o0.stored (m * 4) u0).1.stored (m * 4 + 1) u1).1.stored (m * 4 + 2) u2).1.stored (m * 4 + 3) u3).1
  refine ⟨⟨?_, ?_, fun z hz => ?_, by have := h.few; simp; omega⟩, on⟩
  · have e : ((((w.setCell ⟨g, m * 4, none⟩ u0).setCell ⟨g, m * 4 + 1, none⟩ u1).setCell ⟨g, m * 4 + 2, none⟩ u2).setCell ⟨g, m * 4 + 3, none⟩ u3).heap[b]? = some (.cells #[.int .i64 room, .int .i64 puts, .slice (some ⟨g, 0, none⟩) (m + 1) cap] 139 (0, 0)) := by
      rw [Below.heap_setCell _ _ _ _ (by show b ≠ g; omega), Below.heap_setCell _ _ _ _ (by show b ≠ g; omega), Below.heap_setCell _ _ _ _ (by show b ≠ g; omega), Below.heap_setCell _ _ _ _ (by show b ≠ g; omega)]
      exact h.blk
    have := heap_setCell_same _ b 2 _ _ (.slice (some ⟨g, 0, none⟩) m cap) e
    simpa using this
  · have q := ownsRow_setCell_below o (a := ⟨b, 2, none⟩) (show b < b + 1 by omega) (.slice (some ⟨g, 0, none⟩) m cap)
    have ht : (es.take m).length = m := by simp; omega
    rw [ht, cellsOf_take]
    rcases q.2 with ⟨e, _⟩ | ⟨g', cap', cur, e, hb, hh, hnc, hcm, hcs, htk⟩
    · simp at e
    · simp only [Value.slice.injEq, Option.some.injEq, Addr.mk.injEq, and_true, true_and] at e
      obtain ⟨rfl, rfl⟩ := e
      refine ⟨by simp [cellsOf_length]; omega, .inr ⟨g, cap, cur, rfl, hb, hh, by omega, hcm, hcs, ?_⟩⟩
      have k := congrArg (List.take (m * 4)) htk
      rw [List.take_take, show min (m * 4) ((m + 1) * 4) = m * 4 by omega] at k
      rw [k]
      simp [List.take_set_of_le]
  · exact (h.ok z (List.mem_of_mem_take hz)).only on (fun k hk => .inl (by simpa [foot, Value.ownBlock] using hk))

set_option maxHeartbeats 2000000 in
set_option maxRecDepth 100000 in
theorem remove_any {b : Nat} {room puts : Int} {v : Value} {es : List (Ent Nat)} (i : Nat) (w : World) (h : Raw w b room puts v es) (hh : Heap es) (hi : i < es.length) :
    Calls Try.prog 114 #[.pointer (some ⟨b, 0, none⟩), .int .i64 i] w fun e w' => ∃ (fs : List (Ent Nat)) (v' : Value), e = .returned (.tuple #[]) ∧ Heap fs ∧ fs.Perm (es.eraseIdx i) ∧ Raw w' b room puts v' fs ∧ foot b v' = foot b v ∧ Only (foot b v) w w' := by
  rcases h.own.2 with ⟨rfl, hz⟩ | ⟨g, cap, cur, hv, -⟩
  · omega
  obtain ⟨m, hm⟩ : ∃ m, es.length = m + 1 := ⟨es.length - 1, by omega⟩
  rw [hm] at hv
  subst hv
  obtain ⟨z, hz⟩ : ∃ z, es[m]? = some z := ⟨_, List.getElem?_eq_getElem (by omega)⟩
  obtain ⟨x, hx⟩ : ∃ x, es[i]? = some x := ⟨_, List.getElem?_eq_getElem hi⟩
  have hl := h.few
  have c2 := h.c2
  obtain ⟨z0, z1, z2, z3⟩ := h.at hz
  obtain ⟨x0, x1, x2, x3⟩ := h.at hx
  have own := h.own
  rw [hm] at own
  have fz := own.frozenAt
  have hcap : m + 1 ≤ cap := by
    rcases own.2 with ⟨e, _⟩ | ⟨g', cap', cur', e, _, _, hc, _⟩
    · simp at e
    · simp at e; omega
  have hcap' : (m : Int) ≤ (cap : Int) := by omega
  have hcap0 : ¬ cap = 0 := by omega
  have gb := (h.gt g rfl).1
  have bg : ¬ b = g := by omega
  have bg' : ¬ g = b := by omega
  have em : ((m + 1 : Nat) : Int) - 1 = (m : Int) := by omega
  have fb := h.fz 2
  have him : i < m + 1 := by omega
  have hm1 : m < 1000 := by omega
  have H1 : Hid (Raw w b room puts (.slice (some ⟨g, 0, none⟩) (m + 1) cap) es) := h
  have HE : Hid (es.length = m + 1 ∧ es[m]? = some z ∧ es[i]? = some x ∧ Heap es) := ⟨hm, hz, hx, hh⟩
  clear h own hm hz hx hh hi
  unfold mkP at z0 x0
  go_enter Try.func114, Try.ntmps114
  go_wp2
  go_region
  obtain ⟨r1, o1⟩ := H1.out.put4 i z (H1.out.ok z (List.mem_of_getElem? HE.out.2.1))
  replace r1 := r1.drew
  replace o1 := o1.drew
  unfold mkP at r1 o1
  generalize hW : World.drew _ = W1 at r1 o1 ⊢
  clear hW c2 z0 z1 z2 z3 x0 x1 x2 x3 fz fb
  have c2 := r1.c2
  obtain ⟨q, hq⟩ : ∃ q, (es.set i z)[m]? = some q := ⟨_, List.getElem?_eq_getElem (by have := HE.out.1; simp; omega)⟩
  obtain ⟨z0, z1, z2, z3⟩ := r1.at hq
  have fz : ∀ o, W1.frozen? ⟨g, o, none⟩ = false := by have e := r1.len; have q := r1.own; rw [← e] at q; exact q.frozenAt
  have fb := r1.fz 2
  have R1 : Hid (Raw W1 b room puts (.slice (some ⟨g, 0, none⟩) (m + 1) cap) (es.set i z)) := r1
  clear r1 hq
  unfold mkP at z0
  obtain ⟨r2, o2⟩ := R1.out.shrink (.pointer none) (.int .i64 0) (.int .i64 0) (.int .i64 0)
  have e1 : (es.set i z).take m = fill es i z := by
    unfold fill; rw [HE.out.1, Nat.add_sub_cancel, List.take_set]
  rw [e1] at r2
  have R2 : Hid (Raw (((((W1.setCell ⟨g, m * 4, none⟩ (.pointer none)).setCell ⟨g, m * 4 + 1, none⟩ (.int .i64 0)).setCell ⟨g, m * 4 + 2, none⟩ (.int .i64 0)).setCell ⟨g, m * 4 + 3, none⟩ (.int .i64 0)).setCell ⟨b, 2, none⟩ (.slice (some ⟨g, 0, none⟩) m cap)) b room puts (.slice (some ⟨g, 0, none⟩) m cap) (fill es i z)) := r2
  clear r2 e1
  have hf : foot b (.slice (some ⟨g, 0, none⟩) m cap) = foot b (.slice (some ⟨g, 0, none⟩) (m + 1) cap) := rfl
  have HF : Hid (foot b (.slice (some ⟨g, 0, none⟩) m cap) = foot b (.slice (some ⟨g, 0, none⟩) (m + 1) cap)) := hf
  clear hf
  have hlen : m = (fill es i z).length := by rw [fill_length, HE.out.1]; omega
  have HL : Hid (m = (fill es i z).length) := hlen
  clear hlen
  have hper : Hid ((fill es i z).Perm (es.eraseIdx i)) := fill_perm (by rw [HE.out.1]; exact him) (by rw [HE.out.1]; exact HE.out.2.1)
  by_cases hlt : i < m
  · have hnear : Hid (Near (fill es i z) i) := fill_near HE.out.2.2.2 i z
    go_wp2_with (go_at_call 93; refine (settle_any i _ R2.out (by rw [← HL.out]; exact hlt) hnear.out).mono ?_; rintro e w3 ⟨fs, rfl, hh, hp, hr4, o4⟩)
    go_end0
    exact ⟨fs, _, rfl, hh, hp.trans hper.out, hr4, HF.out, (o1.trans o2 (fun k hk => .inl hk)).trans o4 (fun k hk => .inl (HF.out ▸ hk))⟩
  · have hi : i = m := by omega
    have hfin : Heap (fill es i z) := by rw [hi]; have := fill_last HE.out.2.2.2 z; rwa [HE.out.1, Nat.add_sub_cancel] at this
    have HFin : Hid (Heap (fill es i z)) := hfin
    clear hfin hi
    go_wp2
    go_end0
    exact ⟨_, _, rfl, HFin.out, hper.out, R2.out, HF.out, o1.trans o2 (fun k hk => .inl hk)⟩

set_option maxHeartbeats 400000 in
theorem drop_none {b : Nat} {room puts : Int} {v : Value} {l : List (Ent Nat)} (x : Nat) (w : World) (h : Heaps w b room puts v l) {F : List Nat} (hx : okP w F x) (hno : ∀ y ∈ l, y.v ≠ x) :
    Calls Try.prog 94 #[.pointer (some ⟨b, 0, none⟩), mkP x] w fun e w' => e = .returned (.bool false) ∧ Below w.heap.size w w' := by
  obtain ⟨es, hr, hh, hp, hi, h0, h1, h2⟩ := h
  have fa : ∀ w : World, Raw w b room puts v es → okP w F x → Calls Try.prog 92 #[.pointer (some ⟨b, 0, none⟩), mkP x] w fun e w' => e = .returned (.int .i64 (-1)) ∧ Below w.heap.size w w' := fun w h hx =>
    (find_any x w h hx).mono fun e w' ⟨r, he, hc, hb⟩ => by
      rcases hc with ⟨rfl, _⟩ | ⟨i, y, _, hy, hv⟩
      · exact ⟨he, hb⟩
      · exact absurd hv (hno y (hp.mem_iff.1 (List.mem_of_getElem? hy)))
  clear hno hh hp hi
  go_enter Try.func94, Try.ntmps94
  go_wp2_with (go_at_call 92; refine (fa _ hr hx).mono ?_; rintro e w1 ⟨rfl, g1⟩)
  go_ret
  exact ⟨rfl, g1⟩

set_option maxHeartbeats 400000 in
theorem drop_some {b : Nat} {room puts : Int} {v : Value} {l : List (Ent Nat)} (x : Nat) (w : World) (h : Heaps w b room puts v l) {F : List Nat} (hx : okP w F x) (hin : ∃ y ∈ l, y.v = x) :
    Calls Try.prog 94 #[.pointer (some ⟨b, 0, none⟩), mkP x] w fun e w' => ∃ v', e = .returned (.bool true) ∧ Heaps w' b room puts v' (less l x) ∧ foot b v' = foot b v ∧ Only (foot b v) w w' := by
  obtain ⟨es, hr, hh, hp, hi, h0, h1, h2⟩ := h
  have fa : ∀ w : World, Raw w b room puts v es → okP w F x → Calls Try.prog 92 #[.pointer (some ⟨b, 0, none⟩), mkP x] w fun e w' => ∃ (i : Nat) (y : Ent Nat), e = .returned (.int .i64 i) ∧ es[i]? = some y ∧ y.v = x ∧ Below w.heap.size w w' := fun w h hx =>
    (find_any x w h hx).mono fun e w' ⟨r, he, hc, hb⟩ => by
      rcases hc with ⟨_, hno⟩ | ⟨i, y, rfl, hy, hv⟩
      · obtain ⟨y, hy, e⟩ := hin; exact absurd e (hno y (hp.mem_iff.2 hy))
      · exact ⟨i, y, he, hy, hv, hb⟩
  have HI : Hid (Heap es ∧ es.Perm l ∧ Items l puts ∧ (l.length : Int) ≤ room) := ⟨hh, hp, hi, h2⟩
  clear hin hh hp hi h2
  go_enter Try.func94, Try.ntmps94
  go_wp2_with (first | (go_at_call 92; refine (fa _ hr hx).mono ?_; rintro e w1 ⟨i, y, rfl, hy, hyx, g1⟩; have r1 := hr.below g1; have il := lt_of_some hy; have HY : Hid (es[i]? = some y ∧ y.v = x) := ⟨hy, hyx⟩; clear hy hyx) | (go_at_call 114; refine (remove_any i _ r1 HI.out.1 il).mono ?_; rintro e w2 ⟨fs, v2, rfl, hh2, hp2, hr2, hf2, ho2⟩))
  go_ret
  obtain ⟨i1, i2, i3, i4⟩ := HI.out
  have pm := perm_erase i2 i3 HY.out.1
  rw [HY.out.2] at pm
  refine ⟨v2, rfl, ⟨fs, hr2, hh2, hp2.trans pm, i3.less x, h0, h1, ?_⟩, hf2, (Below.only g1 _).trans ho2 (fun k hk => .inl hk)⟩
  have : (less l x).length ≤ l.length := List.length_filter_le _ _
  omega

set_option maxHeartbeats 400000 in
theorem key_none {b : Nat} {room puts : Int} {v : Value} {l : List (Ent Nat)} (x : Nat) (w : World) (h : Heaps w b room puts v l) {F : List Nat} (hx : okP w F x) (hno : ∀ y ∈ l, y.v ≠ x) :
    Calls Try.prog 73 #[.pointer (some ⟨b, 0, none⟩), mkP x] w fun e w' => e = .returned (.tuple #[.int .i64 0, .int .i64 0, .bool false]) ∧ Below w.heap.size w w' := by
  obtain ⟨es, hr, hh, hp, hi, h0, h1, h2⟩ := h
  have fa : ∀ w : World, Raw w b room puts v es → okP w F x → Calls Try.prog 92 #[.pointer (some ⟨b, 0, none⟩), mkP x] w fun e w' => e = .returned (.int .i64 (-1)) ∧ Below w.heap.size w w' := fun w h hx =>
    (find_any x w h hx).mono fun e w' ⟨r, he, hc, hb⟩ => by
      rcases hc with ⟨rfl, _⟩ | ⟨i, y, _, hy, hv⟩
      · exact ⟨he, hb⟩
      · exact absurd hv (hno y (hp.mem_iff.1 (List.mem_of_getElem? hy)))
  clear hno hh hp hi
  go_enter Try.func73, Try.ntmps73
  go_wp2_with (go_at_call 92; refine (fa _ hr hx).mono ?_; rintro e w1 ⟨rfl, g1⟩)
  exact bodyPost_ret (v := .tuple #[.int .i64 0, .int .i64 0, .bool false]) (by simp [results, Try.results73, go_sem]) rfl ⟨rfl, g1⟩

set_option maxHeartbeats 400000 in
theorem key_some {b : Nat} {room puts : Int} {v : Value} {l : List (Ent Nat)} (x : Ent Nat) (w : World) (h : Heaps w b room puts v l) {F : List Nat} (hx : okP w F x.v) (hin : x ∈ l) :
    Calls Try.prog 73 #[.pointer (some ⟨b, 0, none⟩), mkP x.v] w fun e w' => e = .returned (.tuple #[.int .i64 x.a, .int .i64 x.b, .bool true]) ∧ Below w.heap.size w w' := by
  obtain ⟨es, hr, hh, hp, hi, h0, h1, h2⟩ := h
  have fa : ∀ w : World, Raw w b room puts v es → okP w F x.v → Calls Try.prog 92 #[.pointer (some ⟨b, 0, none⟩), mkP x.v] w fun e w' => ∃ i : Nat, e = .returned (.int .i64 i) ∧ es[i]? = some x ∧ Below w.heap.size w w' := fun w h hx =>
    (find_any x.v w h hx).mono fun e w' ⟨r, he, hc, hb⟩ => by
      rcases hc with ⟨_, hno⟩ | ⟨i, y, rfl, hy, hv⟩
      · exact absurd rfl (hno x (hp.mem_iff.2 hin))
      · have : y = x := pair_same hi.dis (hp.mem_iff.1 (List.mem_of_getElem? hy)) hin hv
        subst this
        exact ⟨i, he, hy, hb⟩
  have hpos : 0 < es.length := List.length_pos_of_mem (hp.mem_iff.2 hin)
  rcases hr.own.2 with ⟨rfl, hz⟩ | ⟨g, cap, cur, hv, -⟩
  · omega
  generalize hn : es.length = n at hv
  subst hv
  have HN : Hid (es.length = n) := hn
  have hfew := hr.few
  have hn1 : n ≤ 1000 := by omega
  clear hin hh hp hi h2 hn hpos
  go_enter Try.func73, Try.ntmps73
  go_wp2_with (go_at_call 92; refine (fa _ hr hx).mono ?_; rintro e w1 ⟨i, rfl, hy, g1⟩; have r1 := hr.below g1; have c2 := r1.c2; obtain ⟨-, p1, p2, p3⟩ := r1.at hy; have il : i < n := (by have := lt_of_some hy; have := HN.out; omega); clear hy r1)
  go_quiet (fail)
  go_wp2
  exact bodyPost_ret (v := .tuple #[.int .i64 x.a, .int .i64 x.b, .bool true]) (by simp [results, Try.results73, go_sem]) rfl ⟨rfl, g1.trans ((((((Below.refl _ _).alloc (Nat.le_refl _) _)).trans ((below_drewN _ _).mono (by simp)))).mono g1.size)⟩
end Go.Proofs.Ytbfbijfedamgaaa.HP
