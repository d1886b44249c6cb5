/- Slices of the program's own making. -/
import Derived.Test.YtakdliecjfeedaaGreatDoorEnv
import Derived.Maps.AppendAt
import Derived.OwnWalk
namespace Go.Proofs.YtakdliecjfeedaaGreatDoor
open Go Go.RowKit

def mkI (x : Int) : Value := .int .i64 x
def secC (l : List Sec) : List Value := l.flatMap fun s => [.int .i64 s.res, .int .i64 s.pos, .int .i64 s.len]
theorem infoI : (Tryz.prog.info? 3).map (fun i => (i.zero, i.size, i.bytes)) = some (some (.int .i64 0), 1, 8) := by kernel_rfl
theorem infoS : (Tryz.prog.info? 39).map (fun i => (i.zero, i.size, i.bytes)) = some (some (.agg #[.int .i64 0, .int .i64 0, .int .i64 0]), 3, 24) := by kernel_rfl
theorem cell_one (w : World) (x : Value) (t : TypeId) : ∀ (j : Nat) (q : Value), [x][j]? = some q → (w.alloc (.cells #[x] t)).cell? ((⟨w.heap.size, 0, none⟩ : Addr).add j) = some q := by
  intro j q hj
  match j, hj with
  | 0, hj => simp at hj; subst hj; simp [Addr.add]
theorem cell_three (w : World) (x y z : Value) (t : TypeId) : ∀ (j : Nat) (q : Value), [x, y, z][j]? = some q → (w.alloc (.cells #[x, y, z] t)).cell? ((⟨w.heap.size, 0, none⟩ : Addr).add j) = some q := by
  intro j q hj
  match j, hj with
  | 0, hj => simp at hj; subst hj; simp [Addr.add]
  | 1, hj => simp at hj; subst hj; simp [Addr.add]
  | 2, hj => simp at hj; subst hj; simp [Addr.add]
variable {w w' : World}
theorem own_only {base e n z : Nat} {v : Value} {xs : List Value} {S : List Nat} (h : w.ownsRow base e z v n xs) (o : Only S w w') (hS : ∀ k ∈ S, k < base) : w'.ownsRow base e z v n xs := by
  obtain ⟨h1, h2⟩ := h
  refine ⟨h1, ?_⟩
  rcases h2 with h2 | ⟨g, cap, cur, rfl, hb', hh, r⟩
  · exact .inl h2
  · exact .inr ⟨g, cap, cur, rfl, hb', by rw [o.block g (Array.getElem?_eq_some_iff.1 hh).1 (fun m => by have := hS g m; omega)]; exact hh, r⟩
theorem own_below {base e n z : Nat} {v : Value} {xs : List Value} (h : w.ownsRow base e z v n xs) (g : Below w.heap.size w w') : w'.ownsRow base e z v n xs := own_only h (Below.only g []) (by simp)
/-- An append leaves what lies ahead of the base. -/
theorem own_grow {base e n z : Nat} {u : Value} {xs : List Value} {o : Obj} (h : w.ownsRow base e z u n xs) (hb : base ≤ w.heap.size) (gr : (w.alloc o).grownBy w' u.ownBlock) : Below base w w' := by
  refine ⟨gr.os, gr.tape, gr.output, ?_, fun k hk => ?_⟩
  · have := gr.size; simp at this; omega
  · refine (gr.block k (by simp; omega) (fun e => ?_)).trans (Below.heap_alloc _ _ _ (by omega))
    have := (h.lt k e.symm).1
    omega
theorem own_form {base e n z : Nat} {v : Value} {xs : List Value} (h : w.ownsRow base e z v n xs) : ∃ a cap, v = .slice a n cap := by
  rcases h.2 with ⟨rfl, rfl⟩ | ⟨g, cap, cur, rfl, _⟩
  · exact ⟨_, _, rfl⟩
  · exact ⟨_, _, rfl⟩
theorem own_ints {base e : Nat} {v : Value} {l : List Int} (h : w.ownsRow base e 1 v l.length (l.map mkI)) : Ints w v l := by
  rcases h.2 with ⟨rfl, hn⟩ | ⟨g, cap, cur, rfl, hb, hh, h1, h2, h3, h4⟩
  · exact .inl ⟨List.length_eq_zero_iff.1 hn, _, _, rfl⟩
  · refine .inr ⟨g, cap, rfl, (Array.getElem?_eq_some_iff.1 hh).1, fun j x hj => ?_⟩
    have hl := (List.getElem?_eq_some_iff.1 hj).1
    have e : (cur.toList.take (l.length * 1))[j]? = some (mkI x) := by rw [h4, List.getElem?_map, hj]; rfl
    rw [List.getElem?_take_of_lt (by omega)] at e
    simp only [World.cell?, hh]
    simpa [mkI] using e
theorem secC_get {l : List Sec} {i : Nat} {x : Sec} (h : l[i]? = some x) : (secC l)[i * 3]? = some (.int .i64 x.res) ∧ (secC l)[i * 3 + 1]? = some (.int .i64 x.pos) ∧ (secC l)[i * 3 + 2]? = some (.int .i64 x.len) := by
  induction l generalizing i with
  | nil => simp at h
  | cons e es ih =>
    cases i with
    | zero => simp at h; subst h; simp [secC]
    | succ i =>
      have := ih (i := i) (by simpa using h)
      rw [show (i + 1) * 3 = i * 3 + 3 by omega]
      simpa [secC] using this
theorem secC_length (l : List Sec) : (secC l).length = l.length * 3 := by
  induction l with
  | nil => rfl
  | cons e es ih => simp only [secC, List.flatMap_cons, List.length_append] at *; rw [ih]; simp; omega
theorem secC_one (l : List Sec) : ∀ u ∈ secC l, u.oneCell' = true := by
  intro u hu
  simp only [secC, List.mem_flatMap] at hu
  obtain ⟨e, _, hu⟩ := hu
  simp at hu
  rcases hu with rfl | rfl | rfl <;> rfl
theorem secC_snoc (l : List Sec) (s : Sec) : secC (l ++ [s]) = secC l ++ [.int .i64 s.res, .int .i64 s.pos, .int .i64 s.len] := by simp [secC]
theorem own_secs {base e : Nat} {v : Value} {l : List Sec} (h : w.ownsRow base e 3 v l.length (secC l)) : Secs w v l := by
  rcases h.2 with ⟨rfl, hn⟩ | ⟨g, cap, cur, rfl, hb, hh, h1, h2, h3, h4⟩
  · exact .inl ⟨List.length_eq_zero_iff.1 hn, _, _, rfl⟩
  · refine .inr ⟨g, cap, rfl, (Array.getElem?_eq_some_iff.1 hh).1, fun j x hj => ?_⟩
    have hl := (List.getElem?_eq_some_iff.1 hj).1
    obtain ⟨e0, e1, e2⟩ := secC_get hj
    rw [← h4, List.getElem?_take_of_lt (by omega)] at e0 e1 e2
    simp only [World.cell?, hh]
    exact ⟨by simpa using e0, by simpa using e1, by simpa using e2⟩
theorem own_ints_one {base e : Nat} {x : Value} {b : Nat} (hb : base ≤ b) (hh : w.heap[b]? = some (.cells #[x] e (0, 0))) : w.ownsRow base e 1 (.slice (some ⟨b, 0, none⟩) 1 1) 1 [x] :=
  ⟨rfl, .inr ⟨b, 1, #[x], rfl, hb, hh, Nat.le_refl _, by unfold maxLen; omega, rfl, rfl⟩⟩
/-- A block of cells. -/
def Blk (w : World) (g : Nat) (cs : Array Value) (t : TypeId) : Prop := w.heap[g]? = some (.cells cs t (0, 0))
theorem Blk.lt {g : Nat} {cs : Array Value} {t : TypeId} (h : Blk w g cs t) : g < w.heap.size := (Array.getElem?_eq_some_iff.1 h).1
theorem Blk.cell {g : Nat} {cs : Array Value} {t : TypeId} (h : Blk w g cs t) (i : Nat) : w.cell? ⟨g, i, none⟩ = cs[i]? := by unfold Blk at h; simp [World.cell?, h]
theorem Blk.frozen {g : Nat} {cs : Array Value} {t : TypeId} (h : Blk w g cs t) (i : Nat) : w.frozen? ⟨g, i, none⟩ = false := by unfold Blk at h; simp [World.frozen?, h]
theorem Blk.set {g : Nat} {cs : Array Value} {t : TypeId} (h : Blk w g cs t) (i : Nat) (u : Value) : Blk (w.setCell ⟨g, i, none⟩ u) g (cs.setIfInBounds i u) t ∧ Only [g] w (w.setCell ⟨g, i, none⟩ u) :=
  ⟨heap_setCell_same w g i _ _ u h, (Only.refl _ w).setCell (p := ⟨g, i, none⟩) (by simp) _⟩
theorem Blk.only {g : Nat} {cs : Array Value} {t : TypeId} {S : List Nat} (h : Blk w g cs t) (o : Only S w w') (hS : g ∉ S) : Blk w' g cs t := (o.block g h.lt hS).trans h
theorem Blk.below {g : Nat} {cs : Array Value} {t : TypeId} (h : Blk w g cs t) (o : Below w.heap.size w w') : Blk w' g cs t := (o.block g h.lt).trans h
theorem Blk.belowB {g B : Nat} {cs : Array Value} {t : TypeId} (h : Blk w g cs t) (hg : g < B) (o : Below B w w') : Blk w' g cs t := (o.block g hg).trans h
theorem own_off {base e n z : Nat} {v : Value} {xs : List Value} {S : List Nat} (h : w.ownsRow base e z v n xs) (o : Only S w w') (hS : ∀ k, v.ownBlock = some k → k ∉ S) : w'.ownsRow base e z v n xs := by
  obtain ⟨h1, h2⟩ := h
  refine ⟨h1, ?_⟩
  rcases h2 with h2 | ⟨g, cap, cur, rfl, hb', hh, r⟩
  · exact .inl h2
  · exact .inr ⟨g, cap, cur, rfl, hb', by rw [o.block g (Array.getElem?_eq_some_iff.1 hh).1 (hS g rfl)]; exact hh, r⟩
/-- A round of sections: the reader, the section that is filled, the list, the rest. -/
structure Rnd (w : World) (b g : Nat) (st : St) (cs : Array Value) (u : Value) (n : Nat) (xs : List Value) (w' : World) : Prop where
  rd : Rd w' b st
  on : Only [b] w w'
  blk : Blk w' g cs 39
  own : w'.ownsRow w.heap.size 39 3 u n xs
  env : Env w'
  ne : ∀ k, u.ownBlock = some k → w.heap.size ≤ k ∧ k < g
  ge : w.heap.size ≤ g
  bl : b < w.heap.size
  b5 : 5 ≤ b
theorem Rnd.read {a x y : World} {b g n : Nat} {st st' : St} {cs : Array Value} {u : Value} {xs : List Value} (h : Rnd a b g st cs u n xs x) (r : Rd y b st') (o : Only [b] x y) : Rnd a b g st' cs u n xs y :=
  ⟨r, h.on.same o, h.blk.only o (by simp; have := h.ge; have := h.bl; omega), own_off h.own o (fun k hk => by have := (h.ne k hk).1; have := h.bl; simp; omega), h.env.only o (by simpa using h.b5), h.ne, h.ge, h.bl, h.b5⟩
theorem Rnd.store {a x : World} {b g n : Nat} {st : St} {cs : Array Value} {u : Value} {xs : List Value} (h : Rnd a b g st cs u n xs x) (i : Nat) (v : Value) : Rnd a b g st (cs.setIfInBounds i v) u n xs (x.setCell ⟨g, i, none⟩ v) := by
  obtain ⟨h1, h2⟩ := h.blk.set i v
  exact ⟨h.rd.only h2 (by simp; have := h.ge; have := h.bl; omega), h.on.trans h2 (fun k hk => .inr (by simp at hk; have := h.ge; omega)), h1, own_off h.own h2 (fun k hk => by have := (h.ne k hk).2; simp; omega), h.env.only h2 (by simp; have := h.ge; have := h.bl; have := h.b5; omega), h.ne, h.ge, h.bl, h.b5⟩
end Go.Proofs.YtakdliecjfeedaaGreatDoor
