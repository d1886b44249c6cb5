/- The contracts of the document's own heap: out, Put, Take, Drop. -/
import Derived.Test.YtbfbijfedamgaaaRefFirst
import Derived.Deep.RegionLaw
import Derived.Deep.AppendLies
import Derived.Deep.DrawnRows
namespace Go.Proofs.Ytbfbijfedamgaaa.RH
open Go.RowKit
/-- append at a step of a region that draws; it may append nothing. -/
theorem step_append_at {P : Program} (w : World) {ops : Array Oper} {o : Oper} {a : Act} {K : Act → World → Prop} {Q : Exit → Act → World → Prop} {E : Prop} (hgd : o.guard = none) (s x : Operand) (t : TypeId)
    (ho : o.op = .call { callee := .builtin .append, args := #[s, x], argTypes := #[t, t] })
    (base : Nat) (e : TypeId) (i : TypeInfo) (z : Value) (size bytes : Nat) (ht : P.underlying t = some (.slice e)) (hi : P.info? e = some i) (hz : i.zero = some z)
    (hsize : i.size = size) (hby : i.bytes = bytes) (hzs : z.cells.size = size) (hsz : 0 < size)
    (v : Value) (n : Nat) (xs : List Value) (hs : a.eval s = v) (hown : w.ownsRow base e size v n xs)
    (ad : Addr) (m c : Nat) (news : List Value) (hx : a.eval x = .slice (some ad) m c) (hl : news.length = m * size) (hnews : ∀ j u, news[j]? = some u → w.cell? (ad.add j) = some u) (h1 : ∀ u ∈ news, u.oneCell' = true)
    (h63 : n + m ≤ maxLen) (hbytes : (n + m) * bytes ≤ 140737488355328) (hbase : base ≤ w.heap.size)
    (h : ∀ v' w', w'.ownsRow base e size v' (n + m) (xs ++ news) → w.grownBy w' v.ownBlock → (v'.ownBlock = v.ownBlock ∨ v'.ownBlock = some w.heap.size) → K (a.put o.dst v') w') :
    if Region.wanted o (yielded ops a.tmps) = true then Oper.wp P o a w K Q else E := by
  have hw : Region.wanted o (yielded ops a.tmps) = true := by simp [Region.wanted, hgd]
  rw [if_pos hw]
  obtain ⟨v', w', hr, h2, h3, _, h5⟩ := run_append_own_at (P := P) w base t o.type e i z size bytes ht hi hz hsize hby hzs hsz v n xs hown ad m c news hl hnews h1 h63 hbytes hbase
  unfold Oper.wp execOp
  simp only [ho, resolve, invoke, builtin, Sem.run_bind, Sem.run_pure, Result.andThen_ok, List.map_toArray, List.map_cons, List.map_nil, hs, hx, hr]
  exact h v' w' h2 h3 h5
variable {w w' : World} {b : Nat} {room puts : Int} {v : Value} {l : List (Ent Int)}
theorem infoItem : (Try.prog.info? 92).map (fun i => (i.zero, i.size, i.bytes)) = some (some (.agg #[.int .i64 0, .int .i64 0, .int .i64 0]), 3, 24) := by kernel_rfl
theorem cells3_one (l : List (Ent Int)) : ∀ u ∈ cells3 l, u.oneCell' = true := by
  intro u hu
  simp only [cells3, List.mem_flatMap] at hu
  obtain ⟨e, _, hu⟩ := hu
  simp at hu
  rcases hu with rfl | rfl | rfl <;> rfl
theorem cells3_take (l : List (Ent Int)) (n : Nat) : cells3 (l.take n) = (cells3 l).take (n * 3) := by
  induction l generalizing n with
  | nil => simp [cells3]
  | cons e l ih =>
    cases n with
    | zero => simp [cells3]
    | succ n =>
      have := ih n
      simp only [cells3] at this ⊢
      rw [List.take_succ_cons, List.flatMap_cons, List.flatMap_cons, this, show (n + 1) * 3 = n * 3 + 3 by omega]
      simp
theorem cells3_drop (l : List (Ent Int)) (n : Nat) : cells3 (l.drop n) = (cells3 l).drop (n * 3) := by
  induction l generalizing n with
  | nil => simp [cells3]
  | cons e l ih =>
    cases n with
    | zero => simp [cells3]
    | succ n =>
      have := ih n
      simp only [cells3] at this ⊢
      rw [List.drop_succ_cons, List.flatMap_cons, this, show (n + 1) * 3 = n * 3 + 3 by omega]
      simp
theorem add_at (g o j : Nat) : (⟨g, o, none⟩ : Addr).add j = ⟨g, o + j, none⟩ := by unfold Addr.add; split <;> simp_all
theorem Refs.cell {g n cap : Nat} (h : Refs w b room (.slice (some ⟨g, 0, none⟩) n cap) l) {j : Nat} {u : Value} (hu : (cells3 l)[j]? = some u) : w.cell? ⟨g, j, none⟩ = some u := by
  have hj := (List.getElem?_eq_some_iff.1 hu).1
  rw [cells3_length] at hj
  have hn : l.length = n := by obtain ⟨a, c, e⟩ := h.slice; simp at e; exact e.2.1.symm
  have own := h.own
  rw [hn] at own hj
  rw [own.cellAt _ (by omega), hu]
theorem Refs.news1 {g n cap : Nat} (h : Refs w b room (.slice (some ⟨g, 0, none⟩) n cap) l) (i : Nat) : ∀ j u, (cells3 (l.take i))[j]? = some u → w.cell? ((⟨g, 0, none⟩ : Addr).add j) = some u := by
  intro j u hu
  rw [cells3_take, List.getElem?_take] at hu
  rw [add_at, Nat.zero_add]
  split at hu
  · exact h.cell hu
  · cases hu
theorem Refs.news2 {g n cap : Nat} (h : Refs w b room (.slice (some ⟨g, 0, none⟩) n cap) l) (i : Nat) : ∀ j u, (cells3 (l.drop i))[j]? = some u → w.cell? ((⟨g, i * 3, none⟩ : Addr).add j) = some u := by
  intro j u hu
  rw [cells3_drop, List.getElem?_drop] at hu
  rw [add_at]
  exact h.cell hu
theorem row_only {base n size : Nat} {e : TypeId} {xs : List Value} {S : List Nat} (h : w.ownsRow base e size v n xs) (g : Only S w w') (hS : ∀ k ∈ v.ownBlock.toList, k ∉ S) : w'.ownsRow base e size v n xs := by
  obtain ⟨h1, h2⟩ := h
  refine ⟨h1, ?_⟩
  rcases h2 with h2 | ⟨gb, cap, cur, rfl, hb, hh, r⟩
  · exact .inl h2
  · exact .inr ⟨gb, cap, cur, rfl, hb, by rw [g.block gb (Array.getElem?_eq_some_iff.1 hh).1 (hS gb (by simp [Value.ownBlock]))]; exact hh, r⟩
theorem erase_cells (l : List (Ent Int)) (i : Nat) : cells3 (l.eraseIdx i) = ([] ++ cells3 (l.take i)) ++ cells3 (l.drop (i + 1)) := by
  rw [List.eraseIdx_eq_take_drop_succ, cells3_append, List.nil_append]
/-- What lies there behind out. -/
theorem out_end {wa w1 wb w2 wc : World} {v1 v2 : Value} {i n : Nat} (h : Refs w b room v l) (hi : i < l.length) (hn : n = l.length - 1) (ga : Only [] w wa) (gr1 : wa.grownBy w1 none) (at1 : v1.ownBlock = none ∨ v1.ownBlock = some wa.heap.size) (gb : Only [] w1 wb) (gr2 : wb.grownBy w2 v1.ownBlock)
    (own2 : w2.ownsRow (b + 1) 92 3 v2 n (([] ++ cells3 (l.take i)) ++ cells3 (l.drop (i + 1)))) (at2 : v2.ownBlock = v1.ownBlock ∨ v2.ownBlock = some wb.heap.size) (gc : Only [] w2 wc) :
    Refs (wc.setCell ⟨b, 1, none⟩ v2) b room v2 (l.eraseIdx i) ∧ Only (foot b v) w (wc.setCell ⟨b, 1, none⟩ v2) ∧ ∀ k ∈ foot b v2, k ∈ foot b v ∨ w.heap.size ≤ k := by
  have hl := h.lt
  have s1 := gr1.size
  have n1 : ∀ k, v1.ownBlock = some k → w.heap.size ≤ k := by
    intro k hk
    rcases at1 with e | e
    · rw [e] at hk; cases hk
    · rw [e] at hk; simp at hk; have := ga.size; omega
  have n2 : ∀ k, v2.ownBlock = some k → w.heap.size ≤ k := by
    intro k hk
    rcases at2 with e | e
    · exact n1 k (e ▸ hk)
    · rw [e] at hk; simp at hk; have := ga.size; have := gb.size; omega
  have o1 : Only [] w w1 := ga.grown gr1 (fun k hk => by cases hk)
  have o2 : Only [] w w2 := (o1.trans gb (by simp)).grown gr2 (fun k hk => .inr (n1 k hk))
  have o3 : Only [] w wc := o2.trans gc (by simp)
  have blk : wc.heap[b]? = some (.cells #[.int .i64 room, v] 39 (0, 0)) := by rw [o3.block b hl (by simp)]; exact h.blk
  refine ⟨⟨?_, ?_, ?_⟩, ?_, ?_⟩
  · have := heap_setCell_same wc b 1 _ _ v2 blk
    simpa using this
  · have := ownsRow_setCell_below (row_only own2 gc (by simp)) (a := ⟨b, 1, none⟩) (show b < b + 1 by omega) v2
    rw [erase_cells, List.length_eraseIdx, if_pos hi, ← hn]
    exact this
  · rw [List.length_eraseIdx, if_pos hi]; have := h.few; omega
  · exact (o3.mono (by simp)).setCell (p := ⟨b, 1, none⟩) mem_foot _
  · intro k hk
    simp only [foot, List.mem_cons, Option.mem_toList] at hk
    rcases hk with rfl | hk
    · exact .inl mem_foot
    · exact .inr (n2 k hk)
theorem row_slice {base n size : Nat} {e : TypeId} {xs : List Value} (h : w.ownsRow base e size v n xs) : ∃ a cap, v = .slice a n cap := by
  rcases h.2 with ⟨rfl, hn⟩ | ⟨g, cap, cur, rfl, _⟩
  · exact ⟨none, 0, by rw [hn]⟩
  · exact ⟨_, _, rfl⟩
theorem newB {wa : World} {v1 : Value} (at1 : v1.ownBlock = none ∨ v1.ownBlock = some wa.heap.size) (hs : wa.heap.size = w.heap.size) : ∀ k, v1.ownBlock = some k → w.heap.size ≤ k := by
  intro k hk
  rcases at1 with e | e
  · rw [e] at hk; cases hk
  · rw [e] at hk; simp at hk; omega
attribute [local go_sem ↓] Go.wp_at_zero Go.wp_at_succ
set_option maxHeartbeats 4000000 in
set_option maxRecDepth 100000 in
theorem out_any (i : Nat) (w : World) (h : Refs w b room v l) (hi : i < l.length) :
    Calls Try.prog 57 #[.pointer (some ⟨b, 0, none⟩), .int .i64 i] w fun e w' => ∃ v', e = .returned (.tuple #[]) ∧ Refs w' b room v' (l.eraseIdx i) ∧ Only (foot b v) w w' ∧ ∀ k ∈ foot b v', k ∈ foot b v ∨ w.heap.size ≤ k := by
  have hf := h.few
  have c1 := h.c1
  have bl := h.lt
  have fb := h.fz 1
  obtain ⟨x, hx⟩ : ∃ x, l[i]? = some x := ⟨_, List.getElem?_eq_getElem hi⟩
  obtain ⟨g, cap, rfl, hn1, hn2, -, -, -⟩ := h.at hx
  have gl := (h.own.lt g rfl).2
  have gb : b < g := (h.own.lt g rfl).1
  unfold maxLen at hn2
  obtain ⟨i0, hi0, hz0, hz1, hz2⟩ := info_parts infoItem
  have N1 : Hid (∀ j u, (cells3 (l.take i))[j]? = some u → w.cell? ((⟨g, 0, none⟩ : Addr).add j) = some u) := h.news1 i
  have N2 : Hid (∀ j u, (cells3 (l.drop (i + 1)))[j]? = some u → w.cell? ((⟨g, (i + 1) * 3, none⟩ : Addr).add j) = some u) := h.news2 (i + 1)
  have H0 : Hid (Refs w b room (.slice (some ⟨g, 0, none⟩) l.length cap) l) := h
  have L1 : (cells3 (l.take i)).length = i * 3 := by rw [cells3_length]; simp; omega
  have L2 : (cells3 (l.drop (i + 1))).length = (l.length - (i + 1)) * 3 := by rw [cells3_length]; simp
  have HL1 : Hid ((cells3 (l.take i)).length = i * 3) := L1
  have HL2 : Hid ((cells3 (l.drop (i + 1))).length = (l.length - (i + 1)) * 3) := L2
  clear h hx L1 L2
  have q0 : (0 : Int) ≤ (i : Int) := by omega
  have q1 : (i : Int) < (l.length : Int) := by omega
  have q2 : (l.length : Int) ≤ (cap : Int) := by omega
  have q3 : (i : Int) ≤ (cap : Int) := by omega
  have q4 : (i : Int) + 1 ≤ (l.length : Int) := by omega
  have q5 : (0 : Int) ≤ (i : Int) + 1 := by omega
  have q6 : (i : Int) + 1 ≤ (cap : Int) := by omega
  have q7 : IntKind.i64.wrap ((i : Int) + 1) = (i : Int) + 1 := IntWalk.i64_in _ (by omega)
  rcases (by omega : ¬ cap = i + 1 ∨ cap = i + 1) with hc | hc
  · go_enter Try.func57, Try.ntmps57
    go_wp2_with fail
    go_region_law (first
        | (refine step_append_at _ (by rfl) (.const (.slice none 0 0)) (.tmp 10) 37 (by rfl) (b + 1) 92 i0 _ 3 24 Try.underlying37 hi0 hz0 hz1 hz2 rfl (by omega) (.slice none 0 0) 0 [] (by rfl) (World.ownsRow_nil _ _ _ _) ⟨g, 0, none⟩ i cap (cells3 (l.take i)) (by rfl) HL1.out N1.out (cells3_one _) (by unfold maxLen; omega) (by omega) (by simp; omega) ?_; intro v1 w1 own1 gr1 at1; have e1 : w1.cell? ⟨b, 1, none⟩ = some (.slice (some ⟨g, 0, none⟩) l.length cap) := (gr1.cell_far _ bl (by simp [Value.ownBlock])).trans c1; have f1 : w1.frozen? ⟨b, 1, none⟩ = false := (gr1.frozen_far _ bl (by simp [Value.ownBlock])).trans fb; have S1 : Hid (w.heap.size ≤ w1.heap.size) := gr1.size; have NB : Hid (∀ k, v1.ownBlock = some k → w.heap.size ≤ k) := newB at1 rfl; have AT : Hid (v1.ownBlock = none ∨ v1.ownBlock = some w.heap.size) := at1; have GR : Hid (w.drew.grownBy w1 (Value.slice none 0 0).ownBlock) := gr1; have OW : Hid (w1.ownsRow (b + 1) 92 3 v1 (0 + i) ([] ++ cells3 (l.take i))) := own1; clear at1 gr1 own1)
        | (refine step_append_at _ (by rfl) (.tmp 11) (.tmp 18) 37 (by rfl) (b + 1) 92 i0 _ 3 24 Try.underlying37 hi0 hz0 hz1 hz2 rfl (by omega) v1 (0 + i) ([] ++ cells3 (l.take i)) (by rfl) OW.out ⟨g, (i + 1) * 3, none⟩ (l.length - (i + 1)) (cap - (i + 1)) (cells3 (l.drop (i + 1))) (by rfl) HL2.out (fun j u hu => (GR.out.cell_far ((⟨g, (i + 1) * 3, none⟩ : Addr).add j) (by rw [add_at]; exact gl) (by simp [Value.ownBlock])).trans (N2.out j u hu)) (cells3_one _) (by unfold maxLen; omega) (by omega) (by have := S1.out; show b + 1 ≤ w1.heap.size; omega) ?_; intro v2 w2 own2 gr2 at2; obtain ⟨a2, cp2, rfl⟩ := row_slice own2; have e2 : w2.cell? ⟨b, 1, none⟩ = some (.slice (some ⟨g, 0, none⟩) l.length cap) := (gr2.cell_far _ (Nat.lt_of_lt_of_le bl S1.out) (fun e => (by have := NB.out b e.symm; omega))).trans e1; have f2 : w2.frozen? ⟨b, 1, none⟩ = false := (gr2.frozen_far _ (Nat.lt_of_lt_of_le bl S1.out) (fun e => (by have := NB.out b e.symm; omega))).trans f1; have AT2 : Hid ((Value.slice a2 (0 + i + (l.length - (i + 1))) cp2).ownBlock = v1.ownBlock ∨ (Value.slice a2 (0 + i + (l.length - (i + 1))) cp2).ownBlock = some w1.heap.size) := at2; have OW2 : Hid (w2.ownsRow (b + 1) 92 3 (.slice a2 (0 + i + (l.length - (i + 1))) cp2) (0 + i + (l.length - (i + 1))) (([] ++ cells3 (l.take i)) ++ cells3 (l.drop (i + 1)))) := own2; have GR2 : Hid (w1.grownBy w2 v1.ownBlock) := gr2; clear at2 own2 gr2))
    all_goals
      go_wp2
      go_end0
      obtain ⟨r1, r2, r3⟩ := out_end (wc := w2) H0.out hi (by omega) ((Only.refl _ w).drew) GR.out AT.out (Only.refl _ w1) GR2.out OW2.out AT2.out (Only.refl _ w2)
      rw [Nat.zero_add] at r1 r2 r3
      exact ⟨_, rfl, r1, r2, r3⟩
  · subst hc
    have HD : Hid (l.drop (i + 1) = []) := List.drop_eq_nil_of_le hn1
    have HL3 : Hid ((cells3 (l.drop (i + 1))).length = 0 * 3) := by show _ = _; rw [HD.out]; rfl
    clear q6 q3
    have q3 : (i : Int) ≤ (i : Int) + 1 := by omega
    have q8 : (l.length : Int) ≤ (i : Int) + 1 := by omega
    go_enter Try.func57, Try.ntmps57
    go_wp2_with fail
    go_region_law (first
        | (refine step_append_at _ (by rfl) (.const (.slice none 0 0)) (.tmp 10) 37 (by rfl) (b + 1) 92 i0 _ 3 24 Try.underlying37 hi0 hz0 hz1 hz2 rfl (by omega) (.slice none 0 0) 0 [] (by rfl) (World.ownsRow_nil _ _ _ _) ⟨g, 0, none⟩ i (i + 1) (cells3 (l.take i)) (by rfl) HL1.out N1.out (cells3_one _) (by unfold maxLen; omega) (by omega) (by simp; omega) ?_; intro v1 w1 own1 gr1 at1; have e1 : w1.cell? ⟨b, 1, none⟩ = some (.slice (some ⟨g, 0, none⟩) l.length (i + 1)) := (gr1.cell_far _ bl (by simp [Value.ownBlock])).trans c1; have f1 : w1.frozen? ⟨b, 1, none⟩ = false := (gr1.frozen_far _ bl (by simp [Value.ownBlock])).trans fb; have S1 : Hid (w.heap.size ≤ w1.heap.size) := gr1.size; have NB : Hid (∀ k, v1.ownBlock = some k → w.heap.size ≤ k) := newB at1 rfl; have AT : Hid (v1.ownBlock = none ∨ v1.ownBlock = some w.heap.size) := at1; have GR : Hid (w.drew.grownBy w1 (Value.slice none 0 0).ownBlock) := gr1; have OW : Hid (w1.ownsRow (b + 1) 92 3 v1 (0 + i) ([] ++ cells3 (l.take i))) := own1; clear at1 gr1 own1)
        | (refine step_append_at _ (by rfl) (.tmp 11) (.tmp 18) 37 (by rfl) (b + 1) 92 i0 _ 3 24 Try.underlying37 hi0 hz0 hz1 hz2 rfl (by omega) v1 (0 + i) ([] ++ cells3 (l.take i)) (by rfl) OW.out ⟨g, 0, none⟩ 0 0 (cells3 (l.drop (i + 1))) (by rfl) HL3.out (fun j u hu => by rw [HD.out] at hu; simp [cells3] at hu) (cells3_one _) (by unfold maxLen; omega) (by omega) (by have := S1.out; show b + 1 ≤ w1.heap.size; omega) ?_; intro v2 w2 own2 gr2 at2; obtain ⟨a2, cp2, rfl⟩ := row_slice own2; have e2 : w2.cell? ⟨b, 1, none⟩ = some (.slice (some ⟨g, 0, none⟩) l.length (i + 1)) := (gr2.cell_far _ (Nat.lt_of_lt_of_le bl S1.out) (fun e => (by have := NB.out b e.symm; omega))).trans e1; have f2 : w2.frozen? ⟨b, 1, none⟩ = false := (gr2.frozen_far _ (Nat.lt_of_lt_of_le bl S1.out) (fun e => (by have := NB.out b e.symm; omega))).trans f1; have AT2 : Hid ((Value.slice a2 (0 + i + 0) cp2).ownBlock = v1.ownBlock ∨ (Value.slice a2 (0 + i + 0) cp2).ownBlock = some w1.heap.size) := at2; have OW2 : Hid (w2.ownsRow (b + 1) 92 3 (.slice a2 (0 + i + 0) cp2) (0 + i + 0) (([] ++ cells3 (l.take i)) ++ cells3 (l.drop (i + 1)))) := own2; have GR2 : Hid (w1.grownBy w2 v1.ownBlock) := gr2; clear at2 own2 gr2))
    all_goals
      go_wp2
      go_end0
      obtain ⟨r1, r2, r3⟩ := out_end (wc := w2) H0.out hi (by omega) ((Only.refl _ w).drew) GR.out AT.out (Only.refl _ w1) GR2.out OW2.out AT2.out (Only.refl _ w2)
      simp only [Nat.zero_add, Nat.add_zero] at r1 r2 r3
      exact ⟨_, rfl, r1, r2, r3⟩
end Go.Proofs.Ytbfbijfedamgaaa.RH
