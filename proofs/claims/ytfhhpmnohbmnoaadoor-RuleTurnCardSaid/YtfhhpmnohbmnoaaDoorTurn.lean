/- A task of which one number is another one. -/
import Derived.Test.YtfhhpmnohbmnoaaDoorTwo
namespace Go.Proofs.YtfhhpmnohbmnoaaDoor
open Go Go.RowKit

variable {w x y : World} {co sy la mo c d t : Int} {sc st : Option Addr} {nc kc nt kt : Nat} {l : List Int} {m : List Sec}
/-- The two boxes, what lies in them. -/
structure Tn (w : World) (co sy la mo : Int) (sc : Option Addr) (nc kc : Nat) (l : List Int) (c d t : Int) (st : Option Addr) (nt kt : Nat) (m : List Sec) (x : World) : Prop where
  bc : Blk x w.heap.size #[.int .i64 co, .int .i64 sy, .int .i64 la, .int .i64 mo, .slice sc nc kc] 24
  bt : Blk x (w.heap.size + 1) #[.int .i64 c, .int .i64 d, .int .i64 t, .slice st nt kt] 27
  ints : Ints x (.slice sc nc kc) l
  secs : Secs x (.slice st nt kt) m
  bel : Below w.heap.size w x
theorem Tn.below (h : Tn w co sy la mo sc nc kc l c d t st nt kt m x) (g : Below x.heap.size x y) : Tn w co sy la mo sc nc kc l c d t st nt kt m y := ⟨h.bc.below g, h.bt.below g, h.ints.below g, h.secs.below g, btrans h.bel g⟩
theorem Tn.drew (h : Tn w co sy la mo sc nc kc l c d t st nt kt m x) : Tn w co sy la mo sc nc kc l c d t st nt kt m x.drew := h.below ((Below.refl _ _).drew)
theorem Cop.only (h : Cop w co sy la mo sc nc kc l c d t st nt kt m x) (v : Value) (i : Nat) : Blk (x.setCell ⟨w.heap.size + 1, i, none⟩ v) w.heap.size #[.int .i64 co, .int .i64 sy, .int .i64 la, .int .i64 mo, .slice sc nc kc] 24 ∧ Ints (x.setCell ⟨w.heap.size + 1, i, none⟩ v) (.slice sc nc kc) l ∧ Secs (x.setCell ⟨w.heap.size + 1, i, none⟩ v) (.slice st nt kt) m ∧ Below w.heap.size w (x.setCell ⟨w.heap.size + 1, i, none⟩ v) := by
  obtain ⟨_, o⟩ := h.ct.bt.set i v
  exact ⟨h.ct.bc.only o (by simp), h.ints.off o (fun k hk => by have := (h.oc.lt k hk).1; simp; omega), h.secs.off o (fun k hk => by have := (h.ot.lt k hk).1; simp; omega), h.ct.bel.trans (o.belowOf (by have := h.ct.bc.lt; omega) (by simp))⟩
theorem Cop.turn0 (h : Cop w co sy la mo sc nc kc l c d t st nt kt m x) (v : Int) : Tn w co sy la mo sc nc kc l v d t st nt kt m (x.setCell ⟨w.heap.size + 1, 0, none⟩ (.int .i64 v)) := by
  obtain ⟨a, b, e, f⟩ := h.only (.int .i64 v) 0
  exact ⟨a, (h.ct.bt.set 0 (.int .i64 v)).1, b, e, f⟩
theorem Cop.turn1 (h : Cop w co sy la mo sc nc kc l c d t st nt kt m x) (v : Int) : Tn w co sy la mo sc nc kc l c v t st nt kt m (x.setCell ⟨w.heap.size + 1, 1, none⟩ (.int .i64 v)) := by
  obtain ⟨a, b, e, f⟩ := h.only (.int .i64 v) 1
  exact ⟨a, (h.ct.bt.set 1 (.int .i64 v)).1, b, e, f⟩
theorem Cop.turn2 (h : Cop w co sy la mo sc nc kc l c d t st nt kt m x) (v : Int) : Tn w co sy la mo sc nc kc l c d v st nt kt m (x.setCell ⟨w.heap.size + 1, 2, none⟩ (.int .i64 v)) := by
  obtain ⟨a, b, e, f⟩ := h.only (.int .i64 v) 2
  exact ⟨a, (h.ct.bt.set 2 (.int .i64 v)).1, b, e, f⟩
theorem secs_lit (w : World) (a b e : Int) (t : TypeId) : Secs (w.alloc (.cells #[.int .i64 a, .int .i64 b, .int .i64 e] t)) (.slice (some ⟨w.heap.size, 0, none⟩) 1 1) [⟨a, b, e⟩] :=
  .inr ⟨w.heap.size, 1, rfl, by simp, fun j s hj => by
    match j, hj with
    | 0, hj => simp at hj; subst hj; simp⟩
theorem Cop.lit (h : Cop w co sy la mo sc nc kc l c d t st nt kt m x) (a b e : Int) : Tn w co sy la mo sc nc kc l c d t (some ⟨x.heap.size, 0, none⟩) 1 1 [⟨a, b, e⟩] ((x.setCell ⟨w.heap.size + 1, 3, none⟩ (.slice (some ⟨x.heap.size, 0, none⟩) 1 1)).alloc (.cells #[.int .i64 a, .int .i64 b, .int .i64 e] 33)) := by
  obtain ⟨p, q, _, f⟩ := h.only (.slice (some ⟨x.heap.size, 0, none⟩) 1 1) 3
  obtain ⟨r, o⟩ := h.ct.bt.set 3 (.slice (some ⟨x.heap.size, 0, none⟩) 1 1)
  have z : (x.setCell ⟨w.heap.size + 1, 3, none⟩ (.slice (some ⟨x.heap.size, 0, none⟩) 1 1)).heap.size = x.heap.size := by simp
  have s2 := secs_lit (x.setCell ⟨w.heap.size + 1, 3, none⟩ (.slice (some ⟨x.heap.size, 0, none⟩) 1 1)) a b e 33
  rw [z] at s2
  have g := balloc (x.setCell ⟨w.heap.size + 1, 3, none⟩ (.slice (some ⟨x.heap.size, 0, none⟩) 1 1)) (.cells #[.int .i64 a, .int .i64 b, .int .i64 e] 33)
  exact ⟨p.below g, Blk.below r g, q.below g, s2, btrans f g⟩
theorem Cop.app (h : Cop w co sy la mo sc nc kc l c d t st nt kt m x) {o : Obj} {y : World} {s7 : Option Addr} {k7 : Nat} {s : Sec} (gr : (x.alloc o).grownBy y (Value.slice st nt kt).ownBlock)
    (own : y.ownsRow (w.heap.size + 2) 33 3 (.slice s7 (nt + 1) k7) (nt + 1) (secC m ++ [.int .i64 s.res, .int .i64 s.pos, .int .i64 s.len])) :
    Blk y (w.heap.size + 1) #[.int .i64 c, .int .i64 d, .int .i64 t, .slice st nt kt] 27 ∧ Tn w co sy la mo sc nc kc l c d t s7 (nt + 1) k7 (m ++ [s]) (y.setCell ⟨w.heap.size + 1, 3, none⟩ (.slice s7 (nt + 1) k7)) := by
  have b2 : ∀ k, (Value.slice st nt kt).ownBlock = some k → w.heap.size + 2 ≤ k := fun k hk => (h.ot.lt k hk).1
  have keep : ∀ k ob, x.heap[k]? = some ob → (Value.slice st nt kt).ownBlock ≠ some k → y.heap[k]? = some ob := by
    intro k ob hk hne
    have hl := (Array.getElem?_eq_some_iff.1 hk).1
    rw [gr.block k (by simp; omega) (fun e => hne e.symm), Below.heap_alloc _ _ _ hl]
    exact hk
  have bt : Blk y (w.heap.size + 1) #[.int .i64 c, .int .i64 d, .int .i64 t, .slice st nt kt] 27 := keep _ _ h.ct.bt (fun e => by have := b2 _ e; omega)
  have bc : Blk y w.heap.size #[.int .i64 co, .int .i64 sy, .int .i64 la, .int .i64 mo, .slice sc nc kc] 24 := keep _ _ h.ct.bc (fun e => by have := b2 _ e; omega)
  have lx := h.ct.bt.lt
  have bel : Below w.heap.size w y := h.ct.bel.trans ⟨gr.os, gr.tape, gr.output, by have := gr.size; simp at this; omega, fun k hk => by
    rw [gr.block k (by simp; omega) (fun e => by have := b2 k e.symm; omega), Below.heap_alloc _ _ _ (by omega)]⟩
  have oc : y.ownsRow (w.heap.size + 2) 3 1 (.slice sc nc kc) nc (l.map mkI) := by
    obtain ⟨h1, h2⟩ := h.oc
    refine ⟨h1, ?_⟩
    rcases h2 with h2 | ⟨g, cap, cur, e, hb', hh, r⟩
    · exact .inl h2
    · exact .inr ⟨g, cap, cur, e, hb', keep _ _ hh (fun e2 => by have := h.ne g g (by rw [e]; rfl) e2; omega), r⟩
  obtain ⟨r, o⟩ := bt.set 3 (.slice s7 (nt + 1) k7)
  refine ⟨bt, bc.only o (by simp), r, ?_, ?_, bel.trans (o.belowOf (by have := bt.lt; omega) (by simp))⟩
  · have oc2 := own_off oc o (fun k hk => by have := (oc.lt k hk).1; simp; omega)
    rw [← h.lc] at oc2 ⊢
    exact own_ints oc2
  · have o2 := own_off own o (fun k hk => by have := (own.lt k hk).1; simp; omega)
    have e : (m ++ [s]).length = nt + 1 := by rw [List.length_append, h.lt]; rfl
    rw [← secC_snoc] at o2
    rw [← e] at o2 ⊢
    exact own_secs o2
end Go.Proofs.YtfhhpmnohbmnoaaDoor
