/- Plans of one's own: rows of plans, their pieces beside. -/
import Derived.Test.YtakdliecjfeedaaGreatDoorLMay
import Derived.Test.YtakdliecjfeedaaGreatDoorArgs9J
import Derived.Test.YtakdliecjfeedaaGreatDoorBits9
import Derived.Deep.Slices
import Derived.Deep.LoopGhost
import Derived.Lib.RowBridge
import Derived.Deep.Cut
import Derived.Deep.CutRange
namespace Go.Proofs.YtakdliecjfeedaaGreatDoor
open Go Go.RowKit

def plC (l : List PV) : List Value := l.flatMap fun x => [.int .i64 x.k, x.u]
def pcC (m : List Pc) : List Value := m.flatMap fun x => [.int .i64 x.core, .int .i64 x.off, .int .i64 x.len, .int .i64 x.c]
theorem plC_length (l : List PV) : (plC l).length = l.length * 2 := by
  induction l with
  | nil => rfl
  | cons e es ih => simp only [plC, List.flatMap_cons, List.length_append] at *; rw [ih]; simp; omega
theorem plC_get {l : List PV} {i : Nat} {x : PV} (h : l[i]? = some x) : (plC l)[i * 2]? = some (.int .i64 x.k) ∧ (plC l)[i * 2 + 1]? = some x.u := by
  induction l generalizing i with
  | nil => simp at h
  | cons e es ih =>
    cases i with
    | zero => simp at h; subst h; simp [plC]
    | succ i =>
      have := ih (i := i) (by simpa using h)
      rw [show (i + 1) * 2 = i * 2 + 2 by omega]
      simpa [plC] using this
theorem plC_append (l m : List PV) : plC (l ++ m) = plC l ++ plC m := by simp [plC]
theorem pcC_get {l : List Pc} {i : Nat} {x : Pc} (h : l[i]? = some x) : (pcC l)[i * 4]? = some (.int .i64 x.core) ∧ (pcC l)[i * 4 + 1]? = some (.int .i64 x.off) ∧ (pcC l)[i * 4 + 2]? = some (.int .i64 x.len) ∧ (pcC l)[i * 4 + 3]? = some (.int .i64 x.c) := by
  induction l generalizing i with
  | nil => simp at h
  | cons e es ih =>
    cases i with
    | zero => simp at h; subst h; simp [pcC]
    | succ i =>
      have := ih (i := i) (by simpa using h)
      rw [show (i + 1) * 4 = i * 4 + 4 by omega]
      simpa [pcC] using this
/-- A plan that the laws make of a task. -/
def PlOk (co : Int) (X : TV) (p : PV) : Prop := p.m.length ≤ 2 ∧ onB co p.m = true ∧ (p.k = 1 → ∀ q ∈ p.m, q.c = X.c ∧ q.len = X.d)
/-- Its pieces, in a block of their own. -/
def PcB (w : World) (base : Nat) (p : PV) : Prop := ∃ g, p.u = .slice (some ⟨g, 0, none⟩) p.m.length p.m.length ∧ base ≤ g ∧ Blk w g (pcC p.m).toArray 60
theorem pcs_of {w : World} {g : Nat} {m : List Pc} {cap : Nat} (h : Blk w g (pcC m).toArray 60) : Pcs w (.slice (some ⟨g, 0, none⟩) m.length cap) m := by
  refine .inr ⟨g, 0, cap, rfl, h.lt, fun j x hj => ?_⟩
  obtain ⟨e0, e1, e2, e3⟩ := pcC_get hj
  rw [Nat.zero_add, h.cell, h.cell, h.cell, h.cell]
  exact ⟨by simpa using e0, by simpa using e1, by simpa using e2, by simpa using e3⟩
variable {w w' : World}
theorem PcB.pcs {base : Nat} {p : PV} (h : PcB w base p) : Pcs w p.u p.m := by
  obtain ⟨g, e, _, hb⟩ := h
  rw [e]
  exact pcs_of hb
theorem PcB.below {base : Nat} {p : PV} (h : PcB w base p) (g : Below w.heap.size w w') : PcB w' base p := by
  obtain ⟨k, e, h1, hb⟩ := h
  exact ⟨k, e, h1, hb.below g⟩
/-- A slice of plans of one's own. -/
structure OwnP (w : World) (base : Nat) (v : Value) (ps : List PV) : Prop where
  own : w.ownsRow base 49 2 v ps.length (plC ps)
  pcb : ∀ p ∈ ps, PcB w base p
theorem OwnP.nil (w : World) (base : Nat) : OwnP w base (.slice none 0 0) [] := ⟨World.ownsRow_nil _ _ _ _, fun x hx => by cases hx⟩
theorem OwnP.below {base : Nat} {v : Value} {ps : List PV} (h : OwnP w base v ps) (g : Below w.heap.size w w') : OwnP w' base v ps := ⟨own_below h.own g, fun p hp => (h.pcb p hp).below g⟩
theorem OwnP.form {base : Nat} {v : Value} {ps : List PV} (h : OwnP w base v ps) : ∃ a cap, v = .slice a ps.length cap := own_form h.own
theorem OwnP.mono {base base' : Nat} {v : Value} {ps : List PV} (h : OwnP w base v ps) (hb : base' ≤ base) : OwnP w base' v ps := ⟨ownT_mono h.own hb, fun p hp => by
  obtain ⟨g, e, h1, h2⟩ := h.pcb p hp
  exact ⟨g, e, by omega, h2⟩⟩
theorem OwnP.plns {base : Nat} {v : Value} {ps : List PV} (h : OwnP w base v ps) : Plns w v ps := by
  rcases h.own.2 with ⟨rfl, hn⟩ | ⟨g, cap, cur, rfl, hb, hh, h1, h2, h3, h4⟩
  · exact .inl ⟨List.length_eq_zero_iff.1 hn, _, _, rfl⟩
  · refine .inr ⟨g, 0, cap, rfl, (Array.getElem?_eq_some_iff.1 hh).1, fun j x hj => ?_⟩
    have hl := (List.getElem?_eq_some_iff.1 hj).1
    obtain ⟨e0, e1⟩ := plC_get hj
    rw [← h4, List.getElem?_take_of_lt (by omega)] at e0 e1
    rw [Nat.zero_add]
    simp only [World.cell?, hh]
    exact ⟨⟨by simpa using e0, by simpa using e1⟩, (h.pcb x (List.mem_of_getElem? hj)).pcs⟩
theorem OwnP.one {base : Nat} {v : Value} {ps : List PV} (h : OwnP w base v ps) : ∀ u ∈ plC ps, u.oneCell' = true := by
  intro u hu
  simp only [plC, List.mem_flatMap] at hu
  obtain ⟨p, hp, hu⟩ := hu
  simp at hu
  rcases hu with rfl | rfl
  · rfl
  · obtain ⟨g, e, _, _⟩ := h.pcb p hp
    rw [e]; rfl
theorem pl_ty : (60 : Nat) ≠ 49 := by decide
/-- What an append to plans leaves of a block of pieces. -/
theorem blk_keep {base g : Nat} {v : Value} {n : Nat} {xs : List Value} {cs : Array Value} (h : w.ownsRow base 49 2 v n xs) (hb : Blk w g cs 60) (gr : w.grownBy w' v.ownBlock) : Blk w' g cs 60 := by
  unfold Blk at *
  rw [gr.block g (Array.getElem?_eq_some_iff.1 hb).1 (fun e => ?_)]
  · exact hb
  · rcases h.2 with ⟨rfl, _⟩ | ⟨g', cap, cur, rfl, _, hh, _⟩
    · simp [Value.ownBlock] at e
    · simp [Value.ownBlock] at e
      subst e
      rw [hh] at hb
      simp at hb
/-- .. with a plan more. -/
theorem OwnP.snoc {W : World} {base : Nat} {v v' : Value} {ps : List PV} {p : PV} {o : Obj} (h : OwnP W base v ps) (hx : PcB W base p)
    (own' : w'.ownsRow base 49 2 v' (ps.length + 1) (plC ps ++ [.int .i64 p.k, p.u])) (gr : (W.alloc o).grownBy w' v.ownBlock) : OwnP w' base v' (ps ++ [p]) := by
  have keep : ∀ y : PV, PcB W base y → PcB w' base y := fun y hy => by
    obtain ⟨g, e, h1, hb⟩ := hy
    exact ⟨g, e, h1, blk_keep (own_below h.own (balloc W o)) (hb.below (balloc W o)) gr⟩
  refine ⟨?_, fun y hy => ?_⟩
  · rw [plC_append, List.length_append]; exact own'
  · rcases List.mem_append.1 hy with hy | hy
    · exact keep y (h.pcb y hy)
    · simp at hy; subst hy; exact keep y hx
theorem infoPl : (Tryz.prog.info? 49).map (fun i => (i.zero, i.size, i.bytes)) = some (some (.agg #[.int .i64 0, .slice none 0 0]), 2, 32) := by kernel_rfl
theorem cell_two (w : World) (x y : Value) (t : TypeId) : ∀ (j : Nat) (q : Value), [x, y][j]? = some q → (w.alloc (.cells #[x, y] t)).cell? ((⟨w.heap.size, 0, none⟩ : Addr).add j) = some q := by
  intro j q hj
  match j, hj with
  | 0, hj => simp at hj; subst hj; simp [Addr.add]
  | 1, hj => simp at hj; subst hj; simp [Addr.add]
theorem and1 (n : Int) : bits .and .i64 n 1 = n % 2 := and_low n 1 1 (by omega) (by decide)
/-- What is under way in Plans: a plan in its box, its pieces, those that are told; the rest as it was. -/
structure PlW (w0 : World) (gp gq : Nat) (kd : Int) (m : List Pc) (v : Value) (ps : List PV) (w : World) : Prop where
  box : Blk w gp #[.int .i64 kd, .slice (some ⟨gq, 0, none⟩) m.length m.length] 49
  pcs : Blk w gq (pcC m).toArray 60
  own : OwnP w w0.heap.size v ps
  bel : Below w0.heap.size w0 w
  far : v.ownBlock ≠ some gp
  ge : w0.heap.size ≤ gp ∧ w0.heap.size ≤ gq
/-- Plans told so far. -/
structure PlS (w0 : World) (v : Value) (ps : List PV) (w : World) : Prop where
  own : OwnP w w0.heap.size v ps
  bel : Below w0.heap.size w0 w
theorem PlS.below {w0 : World} {v : Value} {ps : List PV} (h : PlS w0 v ps w) (g : Below w.heap.size w w') : PlS w0 v ps w' := ⟨h.own.below g, btrans h.bel g⟩
end Go.Proofs.YtakdliecjfeedaaGreatDoor
