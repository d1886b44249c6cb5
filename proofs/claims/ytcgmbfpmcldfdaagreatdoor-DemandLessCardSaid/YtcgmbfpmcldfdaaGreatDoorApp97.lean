/- Loads of one's own list, turned one number at a time. -/
import Derived.Test.YtcgmbfpmcldfdaaGreatDoorApp96
namespace Go.Proofs.YtcgmbfpmcldfdaaGreatDoor
open Go Go.RowKit

theorem own_set {w : World} {base e n n' z g cap : Nat} {xs : List Value} (h : w.ownsRow base e z (.slice (some ⟨g, 0, none⟩) n' cap) n xs) (i : Nat) (v : Value) :
    (w.setCell ⟨g, i, none⟩ v).ownsRow base e z (.slice (some ⟨g, 0, none⟩) n' cap) n (xs.set i v) := by
  obtain ⟨h1, h2⟩ := h
  refine ⟨by rw [List.length_set]; exact h1, ?_⟩
  rcases h2 with ⟨e, hn⟩ | ⟨g', c', cur, e, hb, hh, r1, r2, r3, r4⟩
  · simp at e
  · simp only [Value.slice.injEq, Option.some.injEq, Addr.mk.injEq] at e
    obtain ⟨⟨rfl, -, -⟩, rfl, rfl⟩ := e
    refine .inr ⟨g, cap, cur.setIfInBounds i v, rfl, hb, heap_setCell_same w g i _ _ v hh, r1, r2, by simpa using r3, ?_⟩
    rw [Array.toList_setIfInBounds, List.take_set, r4]
theorem secC_set {l : List Sec} {k : Nat} {s : Sec} (h : l[k]? = some s) (c : Int) :
    (secC l).set (k * 3) (.int .i64 c) = secC (l.set k ⟨c, s.pos, s.len⟩) ∧ (secC l).set (k * 3 + 1) (.int .i64 c) = secC (l.set k ⟨s.res, c, s.len⟩) ∧ (secC l).set (k * 3 + 2) (.int .i64 c) = secC (l.set k ⟨s.res, s.pos, c⟩) := by
  induction l generalizing k with
  | nil => simp at h
  | cons e l ih =>
    cases k with
    | zero => simp at h; subst h; simp [secC]
    | succ k =>
      have := ih (k := k) (by simpa using h)
      rw [show (k + 1) * 3 = k * 3 + 3 by omega, show k * 3 + 3 + 1 = (k * 3 + 1) + 3 by omega, show k * 3 + 3 + 2 = (k * 3 + 2) + 3 by omega]
      simpa [secC] using this
theorem OwnL.turn {w : World} {base g n cap k : Nat} {l : List Sec} {s : Sec} (h : OwnL w base (.slice (some ⟨g, 0, none⟩) n cap) l) (hs : l[k]? = some s) (c : Int) :
    OwnL (w.setCell ⟨g, k * 3, none⟩ (.int .i64 c)) base (.slice (some ⟨g, 0, none⟩) n cap) (l.set k ⟨c, s.pos, s.len⟩) ∧ OwnL (w.setCell ⟨g, k * 3 + 1, none⟩ (.int .i64 c)) base (.slice (some ⟨g, 0, none⟩) n cap) (l.set k ⟨s.res, c, s.len⟩) ∧ OwnL (w.setCell ⟨g, k * 3 + 2, none⟩ (.int .i64 c)) base (.slice (some ⟨g, 0, none⟩) n cap) (l.set k ⟨s.res, s.pos, c⟩) := by
  obtain ⟨e0, e1, e2⟩ := secC_set hs c
  unfold OwnL
  rw [← e0, ← e1, ← e2, List.length_set, List.length_set, List.length_set]
  exact ⟨own_set h _ _, own_set h _ _, own_set h _ _⟩
/-- What a load of one's own list reads; that it may be turned. -/
theorem OwnL.cells {w : World} {base g n cap k : Nat} {l : List Sec} {s : Sec} (h : OwnL w base (.slice (some ⟨g, 0, none⟩) n cap) l) (hs : l[k]? = some s) :
    (w.cell? ⟨g, k * 3, none⟩ = some (.int .i64 s.res) ∧ w.cell? ⟨g, k * 3 + 1, none⟩ = some (.int .i64 s.pos) ∧ w.cell? ⟨g, k * 3 + 2, none⟩ = some (.int .i64 s.len)) ∧ (w.frozen? ⟨g, k * 3, none⟩ = false ∧ w.frozen? ⟨g, k * 3 + 1, none⟩ = false ∧ w.frozen? ⟨g, k * 3 + 2, none⟩ = false) ∧ base ≤ g ∧ g < w.heap.size := by
  obtain ⟨b, e, _, x1, x2, x3⟩ := secs_at h.secs hs
  simp only [Option.some.injEq, Addr.mk.injEq] at e
  obtain ⟨rfl, -, -⟩ := e
  refine ⟨⟨x1, x2, x3⟩, ?_⟩
  rcases h.2 with ⟨e, hn⟩ | ⟨g', c', cur, e, hb, hh, r1, r2, r3, r4⟩
  · simp at e
  · simp only [Value.slice.injEq, Option.some.injEq, Addr.mk.injEq] at e
    obtain ⟨⟨rfl, -, -⟩, rfl, rfl⟩ := e
    exact ⟨⟨by simp [World.frozen?, hh], by simp [World.frozen?, hh], by simp [World.frozen?, hh]⟩, hb, (Array.getElem?_eq_some_iff.1 hh).1⟩
/-- What lies there behind a load was left out. -/
theorem out_end9 {vp W w1 w2 : World} {v1 v2 : Value} {n k : Nat} {l : List Sec} (hl : l.length = n) (hk : k < n) (g : Below vp.heap.size vp W) (hB : vp.heap.size ≤ W.heap.size)
    (gr1 : W.grownBy w1 none) (own1 : w1.ownsRow vp.heap.size 29 3 v1 k (secC (l.take k))) (gr2 : w1.grownBy w2 v1.ownBlock) (own2 : w2.ownsRow vp.heap.size 29 3 v2 (k + (n - (k + 1))) (secC (l.take k) ++ secC (l.drop (k + 1)))) :
    OwnL w2 vp.heap.size v2 (l.take k ++ l.drop (k + 1)) ∧ Below vp.heap.size vp w2 := by
  refine ⟨?_, ?_⟩
  · unfold OwnL
    rw [secC_append, List.length_append, List.length_drop, List.length_take, hl, show min k n = k by omega]
    exact own2
  · have s1 := gr1.size
    exact (g.trans (gr_bel gr1 (by simp) hB)).trans (gr_bel gr2 (fun q hq => (own1.lt q hq).1) (by omega))
theorem min3 {a b : Int} : min a b = if b < a then b else a := by omega
/-- The mathematics: a smaller load, a longer time. -/
theorem less_fit {l : List Sec} {k : Nat} {s x : Sec} {m : Bool} (h : fitB l = true) (hk : l[k]? = some s) (h1 : x.res ≤ s.res) (h2 : s.len ≤ x.len) (h3 : s.pos ≤ x.pos) (hm : fitB (l.set k x) = m) : ldB x = true → m = true := by
  intro hx; rw [← hm]; exact fit_set h hk hx h1 h2 h3
end Go.Proofs.YtcgmbfpmcldfdaaGreatDoor
