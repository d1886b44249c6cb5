/- Three rows of numbers of one's own: what of each load is left, when it is due, when the next one may come. -/
import Derived.Test.YtcgmbfpmcldfdaaGreatDoorApp9
import Derived.Test.YtcgmbfpmcldfdaaGreatDoorBMath3
import Derived.Test.YtcgmbfpmcldfdaaGreatDoorRunsZ
import Derived.OwnWalk
namespace Go.Proofs.YtcgmbfpmcldfdaaGreatDoor
open Go Go.RowKit

theorem nth_at {l : List Oper} {i : Nat} {o : Oper} (h : l[i]? = some o) : l.toArray[i]? = some o := by simpa using h
def rowA (f : Jb → Int) (js : List Jb) : Array Value := (js.map fun j => Value.int .i64 (f j)).toArray
theorem rowA_get {f : Jb → Int} {js : List Jb} {k : Nat} {j : Jb} (h : js[k]? = some j) : (rowA f js)[k]? = some (.int .i64 (f j)) := by
  unfold rowA; rw [List.getElem?_toArray, List.getElem?_map, h]; rfl
theorem rowA_set (f : Jb → Int) (js : List Jb) (k : Nat) (j : Jb) : (rowA f js).setIfInBounds k (.int .i64 (f j)) = rowA f (js.set k j) := by
  unfold rowA; rw [List.setIfInBounds_toArray, List.map_set]
theorem rowA_same {f : Jb → Int} {js : List Jb} {k : Nat} {i j : Jb} (h : js[k]? = some i) (e : f j = f i) : rowA f (js.set k j) = rowA f js := by
  unfold rowA
  congr 1
  apply List.ext_getElem?
  intro q
  rw [List.getElem?_map, List.getElem?_map, List.getElem?_set]
  split
  · rename_i hq
    subst hq
    split
    · rw [h]; simp [e]
    · have := (List.getElem?_eq_some_iff.1 h).1
      omega
  · rfl
/-- The three rows in their blocks. -/
structure Jbs (w : World) (gn gl gd : Nat) (js : List Jb) : Prop where
  bn : Blk w gn (rowA Jb.next js) 2
  bl : Blk w gl (rowA Jb.left js) 2
  bd : Blk w gd (rowA Jb.due js) 2
  ne : gn ≠ gl ∧ gn ≠ gd ∧ gl ≠ gd
theorem Jbs.below {w w' : World} {gn gl gd : Nat} {js : List Jb} (h : Jbs w gn gl gd js) (g : Below w.heap.size w w') : Jbs w' gn gl gd js := ⟨h.bn.below g, h.bl.below g, h.bd.below g, h.ne⟩
theorem Jbs.read {w : World} {gn gl gd k : Nat} {js : List Jb} {j : Jb} (h : Jbs w gn gl gd js) (hj : js[k]? = some j) :
    w.cell? ⟨gl, k, none⟩ = some (.int .i64 j.left) ∧ w.cell? ⟨gd, k, none⟩ = some (.int .i64 j.due) ∧ w.cell? ⟨gn, k, none⟩ = some (.int .i64 j.next) :=
  ⟨by rw [h.bl.cell]; exact rowA_get hj, by rw [h.bd.cell]; exact rowA_get hj, by rw [h.bn.cell]; exact rowA_get hj⟩
theorem Jbs.frz {w : World} {gn gl gd : Nat} {js : List Jb} (h : Jbs w gn gl gd js) (k : Nat) : w.frozen? ⟨gl, k, none⟩ = false ∧ w.frozen? ⟨gd, k, none⟩ = false ∧ w.frozen? ⟨gn, k, none⟩ = false := ⟨h.bl.frozen k, h.bd.frozen k, h.bn.frozen k⟩
theorem Jbs.turn {w : World} {gn gl gd k : Nat} {js : List Jb} (h : Jbs w gn gl gd js) (j : Jb) :
    Jbs (((w.setCell ⟨gl, k, none⟩ (.int .i64 j.left)).setCell ⟨gd, k, none⟩ (.int .i64 j.due)).setCell ⟨gn, k, none⟩ (.int .i64 j.next)) gn gl gd (js.set k j) := by
  obtain ⟨n1, n2, n3⟩ := h.ne
  obtain ⟨a1, a2⟩ := h.bl.set k (.int .i64 j.left)
  have d1 := h.bd.only a2 (by simp; omega)
  have m1 := h.bn.only a2 (by simp; omega)
  obtain ⟨b1, b2⟩ := d1.set k (.int .i64 j.due)
  have a3 := a1.only b2 (by simp; omega)
  have m2 := m1.only b2 (by simp; omega)
  obtain ⟨c1, c2⟩ := m2.set k (.int .i64 j.next)
  have a4 := a3.only c2 (by simp; omega)
  have b4 := b1.only c2 (by simp; omega)
  rw [rowA_set] at a4 b4 c1
  exact ⟨c1, a4, b4, h.ne⟩
theorem Jbs.less {w : World} {gn gl gd k : Nat} {js : List Jb} {i : Jb} (h : Jbs w gn gl gd js) (hi : js[k]? = some i) (x : Int) :
    Jbs (w.setCell ⟨gl, k, none⟩ (.int .i64 x)) gn gl gd (js.set k ⟨x, i.due, i.next⟩) := by
  obtain ⟨n1, n2, n3⟩ := h.ne
  obtain ⟨a1, a2⟩ := h.bl.set k (.int .i64 x)
  have d1 := h.bd.only a2 (by simp; omega)
  have m1 := h.bn.only a2 (by simp; omega)
  have e := rowA_set Jb.left js k ⟨x, i.due, i.next⟩
  rw [e] at a1
  refine ⟨?_, a1, ?_, h.ne⟩
  · rw [rowA_same (f := Jb.next) (j := ⟨x, i.due, i.next⟩) hi rfl]; exact m1
  · rw [rowA_same (f := Jb.due) (j := ⟨x, i.due, i.next⟩) hi rfl]; exact d1
theorem Jbs.dues {w : World} {gn gl gd k : Nat} {js : List Jb} {i : Jb} (h : Jbs w gn gl gd js) (hi : js[k]? = some i) (x : Int) :
    Jbs (w.setCell ⟨gd, k, none⟩ (.int .i64 x)) gn gl gd (js.set k ⟨i.left, x, i.next⟩) := by
  obtain ⟨n1, n2, n3⟩ := h.ne
  obtain ⟨a1, a2⟩ := h.bd.set k (.int .i64 x)
  have d1 := h.bl.only a2 (by simp; omega)
  have m1 := h.bn.only a2 (by simp; omega)
  have e := rowA_set Jb.due js k ⟨i.left, x, i.next⟩
  rw [e] at a1
  refine ⟨?_, ?_, a1, h.ne⟩
  · rw [rowA_same (f := Jb.next) (j := ⟨i.left, x, i.next⟩) hi rfl]; exact m1
  · rw [rowA_same (f := Jb.left) (j := ⟨i.left, x, i.next⟩) hi rfl]; exact d1
theorem Jbs.nexts {w : World} {gn gl gd k : Nat} {js : List Jb} {i : Jb} (h : Jbs w gn gl gd js) (hi : js[k]? = some i) (x : Int) :
    Jbs (w.setCell ⟨gn, k, none⟩ (.int .i64 x)) gn gl gd (js.set k ⟨i.left, i.due, x⟩) := by
  obtain ⟨n1, n2, n3⟩ := h.ne
  obtain ⟨a1, a2⟩ := h.bn.set k (.int .i64 x)
  have d1 := h.bl.only a2 (by simp; omega)
  have m1 := h.bd.only a2 (by simp; omega)
  have e := rowA_set Jb.next js k ⟨i.left, i.due, x⟩
  rw [e] at a1
  refine ⟨a1, ?_, ?_, h.ne⟩
  · rw [rowA_same (f := Jb.left) (j := ⟨i.left, i.due, x⟩) hi rfl]; exact d1
  · rw [rowA_same (f := Jb.due) (j := ⟨i.left, i.due, x⟩) hi rfl]; exact m1
theorem cell_off {w : World} {b g k q : Nat} {u v : Value} (h : w.cell? ⟨b, q, none⟩ = some v) (hne : b < g) : (w.setCell ⟨g, k, none⟩ u).cell? ⟨b, q, none⟩ = some v := by
  unfold World.cell? at *
  rw [Below.heap_setCell _ _ _ b (by show b ≠ g; omega)]
  exact h
theorem rowA_none (f : Jb → Int) (n : Nat) (h : f ⟨0, 0, 0⟩ = 0) : rowA f (List.replicate n ⟨0, 0, 0⟩) = Array.replicate n (.int .i64 0) := by
  unfold rowA; rw [List.map_replicate, h]; simp
theorem infoJ : (Tryz.prog.info? 2).map (fun i => (i.zero, i.size, i.bytes)) = some (some (.int .i64 0), 1, 8) := by kernel_rfl
theorem madeJ (N : Nat) (hN : N ≤ 1000) (w : World) : (Instr.makeSlice 27 (.int .i64 (N : Int)) (.int .i64 (N : Int))).run Tryz.prog w = .ok (.slice (some ⟨w.heap.size, 0, none⟩) N N) (w.alloc (.cells (Array.replicate N (.int .i64 0)) 2)) := by
  obtain ⟨i0, hi0, hz0, hz1, hz2⟩ := info_parts infoJ
  have h := run_makeSlice (P := Tryz.prog) w 27 2 i0 (.int .i64 0) Tryz.underlying27 hi0 hz0 .i64 .i64 (N : Int) (N : Int) (by omega) (by omega) (by rw [hz1]; simp; omega) (by rw [hz2]; omega) (by omega)
  rw [hz1] at h
  have e : madeCells (Value.cells (.int .i64 0)) (N * 1) = Array.replicate N (.int .i64 0) := by
    have := toList_madeCells_one (.int .i64 0) N
    apply Array.toList_inj.1
    rw [Nat.mul_one]
    show (madeCells #[.int .i64 0] N).toList = _
    rw [this]
    simp
  simp only [Int.toNat_natCast] at h
  rw [e] at h
  exact h
theorem blk3 (W : World) (o : Obj) (q : Nat) (h1 : W.heap.size ≤ q) (h2 : q < W.heap.size + 3) : (((W.alloc o).alloc o).alloc o).heap[q]? = some o := by
  show (((W.heap.push o).push o).push o)[q]? = some o
  simp only [Array.getElem?_push, Array.size_push]
  split
  · rfl
  · split
    · rfl
    · split
      · rfl
      · omega
theorem Jbs.made (W : World) (n gn gl gd : Nat) (h1 : W.heap.size ≤ gn ∧ gn < W.heap.size + 3) (h2 : W.heap.size ≤ gl ∧ gl < W.heap.size + 3) (h3 : W.heap.size ≤ gd ∧ gd < W.heap.size + 3) (ne : gn ≠ gl ∧ gn ≠ gd ∧ gl ≠ gd) :
    Jbs ((((W.alloc (.cells (Array.replicate n (.int .i64 0)) 2)).alloc (.cells (Array.replicate n (.int .i64 0)) 2)).alloc (.cells (Array.replicate n (.int .i64 0)) 2)).drew) gn gl gd (List.replicate n ⟨0, 0, 0⟩) := by
  refine Jbs.below (w := (((W.alloc (.cells (Array.replicate n (.int .i64 0)) 2)).alloc (.cells (Array.replicate n (.int .i64 0)) 2)).alloc (.cells (Array.replicate n (.int .i64 0)) 2))) ⟨?_, ?_, ?_, ne⟩ (bdrew _)
  · rw [rowA_none _ _ rfl]; exact blk3 _ _ _ h1.1 h1.2
  · rw [rowA_none _ _ rfl]; exact blk3 _ _ _ h2.1 h2.2
  · rw [rowA_none _ _ rfl]; exact blk3 _ _ _ h3.1 h3.2
/-- A tick's state: what is under way, where it lies; the rest as it was. -/
structure Stt (v : World) (gn gl gd : Nat) (l : List Sec) (js : List Jb) (t : Int) (w : World) : Prop where
  good : Good l js t
  jbs : Jbs w gn gl gd js
  bel : Below v.heap.size v w
  ge : v.heap.size ≤ gn ∧ v.heap.size ≤ gl ∧ v.heap.size ≤ gd
theorem Stt.below {v w w' : World} {gn gl gd : Nat} {l : List Sec} {js : List Jb} {t : Int} (h : Stt v gn gl gd l js t w) (g : Below w.heap.size w w') : Stt v gn gl gd l js t w' := ⟨h.good, h.jbs.below g, btrans h.bel g, h.ge⟩
theorem Stt.turn {v w : World} {gn gl gd k : Nat} {l : List Sec} {js : List Jb} {t : Int} (h : Stt v gn gl gd l js t w) (hf : fitB l = true) {s : Sec} {j : Jb} (hs : l[k]? = some s) (hj : js[k]? = some j) {gap : Int} (h0 : j.left = 0) (hn : j.next ≤ t) (hg : 0 ≤ gap) (hg2 : gap ≤ 15) (ht : 0 ≤ t) (ht2 : t ≤ 600) :
    Stt v gn gl gd l (js.set k ⟨s.res, t + s.pos, t + s.len + gap⟩) t (((w.setCell ⟨gl, k, none⟩ (.int .i64 s.res)).setCell ⟨gd, k, none⟩ (.int .i64 (t + s.pos))).setCell ⟨gn, k, none⟩ (.int .i64 (t + s.len + gap))) :=
  ⟨h.good.release (ldsB_all (fit_lds hf)) hs hj h0 hn hg hg2 ht ht2, h.jbs.turn ⟨s.res, t + s.pos, t + s.len + gap⟩, ((h.bel.setCell (p := ⟨gl, k, none⟩) h.ge.2.1 _).setCell (p := ⟨gd, k, none⟩) h.ge.2.2 _).setCell (p := ⟨gn, k, none⟩) h.ge.1 _, h.ge⟩
theorem Stt.renew {v w w' : World} {gn gl gd k : Nat} {l : List Sec} {js : List Jb} {t c d T left due next gap : Int} (h : Stt v gn gl gd l js t w) (hf : fitB l = true) (hs : l[k]? = some ⟨c, d, T⟩) (hj : js[k]? = some ⟨left, due, next⟩) (h0 : left = 0) (hn : next ≤ t) (hg : 0 ≤ gap) (hg2 : gap ≤ 15) (ht : 0 ≤ t) (ht2 : t ≤ 600)
    (jb : Jbs w' gn gl gd (js.set k ⟨c, t + d, t + T + gap⟩)) (bl : Below v.heap.size v w') : Stt v gn gl gd l (js.set k ⟨c, t + d, t + T + gap⟩) t w' :=
  ⟨h.good.release (ldsB_all (fit_lds hf)) hs hj h0 hn hg hg2 ht ht2, jb, bl, h.ge⟩
theorem Stt.run {v w : World} {gn gl gd k : Nat} {l : List Sec} {js : List Jb} {t : Int} (h : Stt v gn gl gd l js t w) (hf : fitB l = true) {j : Jb} (hj : js[k]? = some j) (h0 : 0 < j.left) (hm : ∀ x ∈ js, 0 < x.left → j.due ≤ x.due) :
    Stt v gn gl gd l (js.set k ⟨j.left - 1, j.due, j.next⟩) (t + 1) (w.setCell ⟨gl, k, none⟩ (.int .i64 (j.left - 1))) :=
  ⟨h.good.run hf hj h0 hm, h.jbs.less hj _, h.bel.setCell (p := ⟨gl, k, none⟩) h.ge.2.1 _, h.ge⟩
theorem Stt.idle {v w : World} {gn gl gd : Nat} {l : List Sec} {js : List Jb} {t : Int} (h : Stt v gn gl gd l js t w) (hf : fitB l = true) (h0 : ∀ x ∈ js, x.left = 0) : Stt v gn gl gd l js (t + 1) w := ⟨h.good.idle hf h0, h.jbs, h.bel, h.ge⟩
theorem Stt.made {W : World} {l : List Sec} {n gn gl gd : Nat} (hf : fitB l = true) (hn : l.length = n) (h1 : W.heap.size ≤ gn ∧ gn < W.heap.size + 3) (h2 : W.heap.size ≤ gl ∧ gl < W.heap.size + 3) (h3 : W.heap.size ≤ gd ∧ gd < W.heap.size + 3) (ne : gn ≠ gl ∧ gn ≠ gd ∧ gl ≠ gd) :
    Stt W gn gl gd l (List.replicate n ⟨0, 0, 0⟩) 0 ((((W.alloc (.cells (Array.replicate n (.int .i64 0)) 2)).alloc (.cells (Array.replicate n (.int .i64 0)) 2)).alloc (.cells (Array.replicate n (.int .i64 0)) 2)).drew) :=
  ⟨by rw [← hn]; exact Good.start hf, Jbs.made W n gn gl gd h1 h2 h3 ne, btrans (btrans (btrans (balloc _ _) (balloc _ _)) (balloc _ _)) (bdrew _), h1.1, h2.1, h3.1⟩
/-- Whom of the first k a core works for: the one that is due first, if any. -/
def Best (js : List Jb) (k : Nat) (b : Int) : Prop :=
  (b = -1 ∧ ∀ (j : Nat) x, j < k → js[j]? = some x → x.left = 0) ∨ (∃ (m : Nat) (y : Jb), m < k ∧ b = m ∧ js[m]? = some y ∧ 0 < y.left ∧ ∀ (j : Nat) x, j < k → js[j]? = some x → 0 < x.left → y.due ≤ x.due)
theorem Best.start (js : List Jb) : Best js 0 (-1) := .inl ⟨rfl, fun j x h => by omega⟩
theorem Best.set {js : List Jb} {k : Nat} {b : Int} (h : Best js k b) (z : Jb) : Best (js.set k z) k b := by
  have e : ∀ j x, j < k → (js.set k z)[j]? = some x → js[j]? = some x := fun j x hj hx => by rwa [List.getElem?_set_ne (by omega)] at hx
  rcases h with ⟨h1, h2⟩ | ⟨m, y, h1, h2, h3, h4, h5⟩
  · exact .inl ⟨h1, fun j x hj hx => h2 j x hj (e j x hj hx)⟩
  · exact .inr ⟨m, y, h1, h2, by rw [List.getElem?_set_ne (by omega)]; exact h3, h4, fun j x hj hx => h5 j x hj (e j x hj hx)⟩
theorem Best.skip {js : List Jb} {k : Nat} {b : Int} {z : Jb} (h : Best js k b) (hz : js[k]? = some z) (h0 : z.left = 0) : Best js (k + 1) b := by
  rcases h with ⟨h1, h2⟩ | ⟨m, y, h1, h2, h3, h4, h5⟩
  · refine .inl ⟨h1, fun j x hj hx => ?_⟩
    by_cases hk : j = k
    · subst hk; rw [hz] at hx; cases hx; exact h0
    · exact h2 j x (by omega) hx
  · refine .inr ⟨m, y, by omega, h2, h3, h4, fun j x hj hx hp => ?_⟩
    by_cases hk : j = k
    · subst hk; rw [hz] at hx; cases hx; omega
    · exact h5 j x (by omega) hx hp
theorem Best.first {js : List Jb} {k : Nat} {z : Jb} (h : Best js k (-1)) (hz : js[k]? = some z) (h0 : 0 < z.left) : Best js (k + 1) k := by
  rcases h with ⟨h1, h2⟩ | ⟨m, y, h1, h2, h3, h4, h5⟩
  · refine .inr ⟨k, z, by omega, rfl, hz, h0, fun j x hj hx hp => ?_⟩
    by_cases hk : j = k
    · subst hk; rw [hz] at hx; cases hx; omega
    · have := h2 j x (by omega) hx; omega
  · omega
theorem Best.near {js : List Jb} {k : Nat} {y z : Jb} (hmin : ∀ (j : Nat) x, j < k → js[j]? = some x → 0 < x.left → y.due ≤ x.due) (hz : js[k]? = some z) (h0 : 0 < z.left) (hd : z.due < y.due) : Best js (k + 1) k := by
  refine .inr ⟨k, z, by omega, rfl, hz, h0, fun j x hj hx hp => ?_⟩
  by_cases hk : j = k
  · subst hk; rw [hz] at hx; cases hx; omega
  · have := hmin j x (by omega) hx hp; omega
theorem Best.far {js : List Jb} {k : Nat} {y z : Jb} {m : Nat} (hk : m < k) (hm : js[m]? = some y) (hy : 0 < y.left) (hmin : ∀ (j : Nat) x, j < k → js[j]? = some x → 0 < x.left → y.due ≤ x.due) (hz : js[k]? = some z) (hd : ¬ z.due < y.due) : Best js (k + 1) m := by
  refine .inr ⟨m, y, by omega, rfl, hm, hy, fun j x hj hx hp => ?_⟩
  by_cases hk : j = k
  · subst hk; rw [hz] at hx; cases hx; omega
  · exact hmin j x (by omega) hx hp
/-- Behind the last one: nobody, or the one that is due first of all. -/
theorem Best.all {js : List Jb} {n : Nat} {b : Int} (h : Best js n b) (hn : js.length = n) : (b = -1 ∧ ∀ x ∈ js, x.left = 0) ∨ (∃ (m : Nat) (y : Jb), m < n ∧ b = m ∧ js[m]? = some y ∧ 0 < y.left ∧ ∀ x ∈ js, 0 < x.left → y.due ≤ x.due) := by
  have at_ : ∀ x ∈ js, ∃ j : Nat, j < n ∧ js[j]? = some x := fun x hx => by
    obtain ⟨j, hj, e⟩ := List.getElem_of_mem hx
    exact ⟨j, by omega, by rw [List.getElem?_eq_getElem hj, e]⟩
  rcases h with ⟨h1, h2⟩ | ⟨m, y, h1, h2, h3, h4, h5⟩
  · exact .inl ⟨h1, fun x hx => by obtain ⟨j, hj, e⟩ := at_ x hx; exact h2 j x hj e⟩
  · exact .inr ⟨m, y, h1, h2, h3, h4, fun x hx hp => by obtain ⟨j, hj, e⟩ := at_ x hx; exact h5 j x hj e hp⟩
end Go.Proofs.YtcgmbfpmcldfdaaGreatDoor
