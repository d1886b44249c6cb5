/- Arrays of two in blocks of their own; append onto a slice that may have lost its head, at a step of a region that draws. -/
import Derived.Test.YtbfbijfedamgaaaTail
import Derived.Deep.RegionLaw
import Derived.BigQuiet
import Derived.Deep.DrawnRows
namespace Go.Proofs.Ytbfbijfedamgaaa
open Go.RowKit
theorem run_append_tail {P : Program} (w : World) (t ty : TypeId) (base : Nat) (e : TypeId) (i : TypeInfo) (z : Value) (bytes : Nat) (h1 : P.underlying t = some (.slice e)) (h2 : P.info? e = some i) (h3 : i.zero = some z) (h4 : i.size = 1) (h5 : i.bytes = bytes) (h6 : z.cells.size = 1)
    (v : Value) (xs : List Value) (hown : Tail w base e v xs)
    (ad : Addr) (c : Nat) (y : Value) (hc : ∀ j u, [y][j]? = some u → w.cell? (ad.add j) = some u) (h1c : y.oneCell' = true)
    (b1 : xs.length + 1 ≤ maxLen) (b2 : (xs.length + 1) * bytes ≤ 140737488355328) (hb : base ≤ w.heap.size) :
    ∃ v' w', (Builtin.append_ #[t, t] ty #[v, .slice (some ad) 1 c]).run P w = .ok v' w' ∧ Tail w' base e v' (xs ++ [y]) ∧ w.grownBy w' v.ownBlock ∧ ∀ k ∈ v'.ownBlock.toList, k ∈ v.ownBlock.toList ∨ w.heap.size ≤ k := by
  have done : ∀ v' w', w'.ownsRow w.heap.size e 1 v' (xs.length + 1) (xs ++ [y]) → w.grownBy w' none → Tail w' base e v' (xs ++ [y]) ∧ w.grownBy w' v.ownBlock ∧ ∀ k ∈ v'.ownBlock.toList, k ∈ v.ownBlock.toList ∨ w.heap.size ≤ k := by
    intro v' w' own gr
    refine ⟨?_, ⟨gr.os, gr.tape, gr.output, gr.size, fun k hk _ => gr.block k hk (by simp)⟩, ?_⟩
    · rcases own.2 with ⟨_, h⟩ | ⟨g, cap, cur, rfl, hbg, hgg, hn, hm, hcs, ht⟩
      · omega
      · exact .inr ⟨g, 0, cap, cur, by simp, by omega, hgg, by simpa using hn, hm, by simp at hcs; omega, by simpa using ht⟩
    · intro k hk
      exact .inr (own.lt k (by simpa using hk)).1
  have one : ∀ u ∈ [y], u.oneCell' = true := by intro u hu; simp at hu; subst hu; exact h1c
  rcases hown with ⟨rfl, rfl⟩ | ⟨g, f, cap, cur, rfl, hbg, hgg, hl, hm, hsz, ht⟩
  · obtain ⟨v', w', hr, r1, r2, _⟩ := run_append_own_at (P := P) w w.heap.size t ty e i z 1 bytes h1 h2 h3 h4 h5 h6 (by omega) (.slice none 0 0) 0 [] (World.ownsRow_nil w _ e 1) ad 1 c [y] rfl hc one (by simpa using b1) (by simpa using b2) (Nat.le_refl _)
    exact ⟨v', w', hr, done v' w' (by simpa using r1) r2⟩
  · have cells : ∀ (j : Nat) (u : Value), xs[j]? = some u → w.cell? ⟨g, f + j, none⟩ = some u := by
      intro j u hu
      rw [cell_of_row w g (f + j) cur e (0, 0) hgg]
      rw [← ht, List.getElem?_take] at hu
      split at hu
      · simpa using hu
      · cases hu
    by_cases hr : xs.length + 1 ≤ cap
    · have hlt : f + xs.length < cur.size := by omega
      have hrun := run_append_room_cells (P := P) w t ty e i h1 h2 g f xs.length cap ad 1 c [y] (by rw [h4]; rfl) hc one hr
        (fun j hj => by
          simp at hj
          subst hj
          rw [h4, cell_of_row w g _ cur e (0, 0) hgg, Array.getElem?_eq_getElem (by omega)]
          rfl)
        (fun j _ => by simp [World.frozen?, hgg])
      rw [h4, Nat.mul_one] at hrun
      refine ⟨_, _, hrun, ?_, ?_, fun k hk => .inl hk⟩
      · refine .inr ⟨g, f, cap, cur.set! (f + xs.length) y, by simp, hbg, ?_, by simpa using hr, hm, by simpa using hsz, ?_⟩
        · have := heap_setCell_same w g (f + xs.length) cur e y hgg
          simpa [World.setCells] using this
        · rw [Array.set!_eq_setIfInBounds, Array.toList_setIfInBounds, List.length_append]
          have e1 : (cur.toList.set (f + xs.length) y).drop f = (cur.toList.drop f).set xs.length y := by
            rw [List.drop_set, if_neg (by omega), Nat.add_sub_cancel_left]
          have hl2 : xs.length < (cur.toList.drop f).length := by simp; omega
          rw [e1, List.length_singleton, List.take_succ_eq_append_getElem (by simpa using hl2)]
          rw [List.getElem_set_self, List.take_set_of_le (Nat.le_refl _), ht]
      · refine ⟨rfl, rfl, rfl, by simp [World.setCells, World.setCell], fun k hk hne => ?_⟩
        simp only [World.setCells]
        exact Below.heap_setCell _ _ _ _ (fun e => hne (by rw [e]; rfl))
    · obtain ⟨v', w', hrun, r1, r2⟩ := run_append_arg_grows (P := P) w t ty e i z 1 bytes h1 h2 h3 h4 h5 h6 (by omega) ⟨g, f, none⟩ xs.length cap xs (by simp) (fun j u hj => by rw [Addr.add_lit]; exact cells j u hj) ad 1 c [y] rfl hc (by omega) b1 b2
      exact ⟨v', w', hrun, done v' w' r1 r2⟩
theorem step_append_tail {P : Program} (w : World) {ops : Array Oper} {o : Oper} {a : Act} {K : Act → World → Prop} {Q : Exit → Act → World → Prop} {E : Prop} (hgd : o.guard = none) (s x : Operand) (t : TypeId)
    (ho : o.op = .call { callee := .builtin .append, args := #[s, x], argTypes := #[t, t] })
    (base : Nat) (e : TypeId) (i : TypeInfo) (z : Value) (bytes : Nat) (h1 : P.underlying t = some (.slice e)) (h2 : P.info? e = some i) (h3 : i.zero = some z) (h4 : i.size = 1) (h5 : i.bytes = bytes) (h6 : z.cells.size = 1)
    (v : Value) (xs : List Value) (hs : a.eval s = v) (hown : Tail w base e v xs)
    (ad : Addr) (c : Nat) (y : Value) (hx : a.eval x = .slice (some ad) 1 c) (hc : ∀ j u, [y][j]? = some u → w.cell? (ad.add j) = some u) (h1c : y.oneCell' = true)
    (b1 : xs.length + 1 ≤ maxLen) (b2 : (xs.length + 1) * bytes ≤ 140737488355328) (hb : base ≤ w.heap.size)
    (h : ∀ v' w', Tail w' base e v' (xs ++ [y]) → w.grownBy w' v.ownBlock → (∀ k ∈ v'.ownBlock.toList, k ∈ v.ownBlock.toList ∨ w.heap.size ≤ k) → K (a.put o.dst v') w') :
    if Region.wanted o (yielded ops a.tmps) = true then Oper.wp P o a w K Q else E := by
  have hw : Region.wanted o (yielded ops a.tmps) = true := by simp [Region.wanted, hgd]
  rw [if_pos hw]
  obtain ⟨v', w', hr, r1, r2, r3⟩ := run_append_tail (P := P) w t o.type base e i z bytes h1 h2 h3 h4 h5 h6 v xs hown ad c y hc h1c b1 b2 hb
  unfold Oper.wp execOp
  simp only [ho, resolve, invoke, builtin, Sem.run_bind, Sem.run_pure, Result.andThen_ok, List.map_toArray, List.map_cons, List.map_nil, hs, hx, hr]
  exact h v' w' r1 r2 r3
/-- An array of two in a block of its own. -/
def PairAt (L : Nat) (t : TypeId) (x y : Value) (w : World) : Prop := w.heap[L]? = some (.cells #[x, y] t (0, 0))
theorem PairAt.cells {L : Nat} {t : TypeId} {x y : Value} {w : World} (h : PairAt L t x y w) : w.cell? ⟨L, 0, none⟩ = some x ∧ w.cell? ⟨L, 1, none⟩ = some y := by
  unfold PairAt at h
  simp [World.cell?, h]
theorem PairAt.fz {L : Nat} {t : TypeId} {x y : Value} {w : World} (h : PairAt L t x y w) (o : Nat) : w.frozen? ⟨L, o, none⟩ = false := by
  unfold PairAt at h
  simp [World.frozen?, h]
theorem PairAt.keeps {L : Nat} {t : TypeId} {x y : Value} : Stays [L] (PairAt L t x y) := by
  intro w w' S h g hS
  have hl := (Array.getElem?_eq_some_iff.1 h).1
  unfold PairAt at h ⊢
  rw [g.block L hl (hS L (by simp))]
  exact h
theorem PairAt.lt {L : Nat} {t : TypeId} {x y : Value} {w : World} (h : PairAt L t x y w) : L < w.heap.size := (Array.getElem?_eq_some_iff.1 h).1
theorem few_pair {W w : World} {L : Nat} {t : TypeId} {x y x' y' u : Value} {j : Nat} {fs : List Thing} (m : Few W fs w) (i : Nat) (hi : fs[i]? = some ([L], PairAt L t x y)) (hp : PairAt L t x y w → PairAt L t x' y' (w.setCell ⟨L, j, none⟩ u)) : Few W (fs.set i ([L], PairAt L t x' y')) (w.setCell ⟨L, j, none⟩ u) := by
  have e : (fs.getD i nothing).1 = [L] := by simp [List.getD, hi]
  have hh : PairAt L t x y w := by have := m.holds i; simp only [List.getD, hi] at this; exact this
  refine m.turn i (List.getElem?_eq_some_iff.1 hi).1 (by rw [e]; exact (Only.refl _ w).setCell (p := ⟨L, j, none⟩) (by simp) _) (hp hh) (fun k hk => ?_) (by rw [e]; exact fun k hk => .inl hk) PairAt.keeps
  simp at hk
  subst hk
  exact (hp hh).lt
theorem PairAt.set0 {L : Nat} {t : TypeId} {x y : Value} {w : World} (x' : Value) (h : PairAt L t x y w) : PairAt L t x' y (w.setCell ⟨L, 0, none⟩ x') := by
  unfold PairAt at h ⊢
  have := heap_setCell_same w L 0 _ _ x' h
  simpa using this
theorem PairAt.set1 {L : Nat} {t : TypeId} {x y : Value} {w : World} (y' : Value) (h : PairAt L t x y w) : PairAt L t x y' (w.setCell ⟨L, 1, none⟩ y') := by
  unfold PairAt at h ⊢
  have := heap_setCell_same w L 1 _ _ y' h
  simpa using this
theorem two_new (w : World) (o o2 : Obj) : (((w.alloc o).alloc o2).heap[w.heap.size + 1]? = some o2) := by
  have := heap_alloc_new (w.alloc o) o2
  simpa using this
def vals (q : List (Nat × Int)) : List Value := q.map fun p => .int .i64 p.2
theorem vals_length (q : List (Nat × Int)) : (vals q).length = q.length := by simp [vals]
theorem vals_cons (p : Nat × Int) (q : List (Nat × Int)) : vals (p :: q) = .int .i64 p.2 :: vals q := rfl
theorem vals_snoc (q : List (Nat × Int)) (p : Nat × Int) : vals (q ++ [p]) = vals q ++ [.int .i64 p.2] := by simp [vals]
theorem i64_and1 (n : Int) : bits .and .i64 n 1 = n % 2 := by
  have h15 : (BitVec.ofInt 64 1).toNat = 2 ^ 1 - 1 := by decide
  have key : (BitVec.ofInt 64 n &&& BitVec.ofInt 64 1).toNat = (n % ((2 ^ 64 : Nat) : Int)).toNat % 2 ^ 1 := by
    rw [BitVec.toNat_and, BitVec.toNat_ofInt, h15, Nat.and_two_pow_sub_one_eq_mod]
  show IntKind.i64.wrap ((BitVec.ofInt 64 n &&& BitVec.ofInt 64 1).toNat : Nat) = n % 2
  rw [key, IntKind.wrap_i64]
  omega
end Go.Proofs.Ytbfbijfedamgaaa
