/- A list turned. -/
import Derived.Test.YtcgmbfpmcldfdaaGreatDoorApp9
import Derived.Test.YtcgmbfpmcldfdaaGreatDoorBMath6
import Derived.Test.YtcgmbfpmcldfdaaGreatDoorBegun9
import Derived.Deep.RegionLaw
namespace Go.Proofs.YtcgmbfpmcldfdaaGreatDoor
open Go Go.RowKit

theorem secC_drop (l : List Sec) (n : Nat) : secC (l.drop n) = (secC l).drop (n * 3) := by
  induction l generalizing n with
  | nil => simp [secC]
  | cons e l ih =>
    cases n with
    | zero => simp [secC]
    | succ n =>
      have := ih n
      rw [show (n + 1) * 3 = n * 3 + 3 by omega]
      simpa [secC] using this
theorem News.drop {w : World} {g : Nat} {l : List Sec} (h : News w ⟨g, 0, none⟩ l) (k : Nat) : News w ⟨g, k * 3, none⟩ (l.drop k) := by
  intro j u hu
  rw [secC_drop, List.getElem?_drop] at hu
  have := h _ u hu
  rw [addr_add] at this ⊢
  rw [Nat.zero_add] at this
  exact this
/-- A list of at least one load lies in a block. -/
theorem Cop9.at {w : World} {base n cap : Nat} {a : Option Addr} {l : List Sec} (h : Cop9 w base a n cap l) (hn : 0 < n) : ∃ g, a = some ⟨g, 0, none⟩ ∧ g < w.heap.size ∧ News w ⟨g, 0, none⟩ l ∧ cap ≤ 9223372036854775807 := by
  have hc := h.news.2.2.1
  rcases h.sec with ⟨e, a', c', e'⟩ | ⟨g, c, e, hg, _⟩
  · simp only [Value.slice.injEq] at e'; omega
  · simp only [Value.slice.injEq] at e
    obtain ⟨rfl, -, -⟩ := e
    exact ⟨g, rfl, hg, secs_news h.sec, hc⟩
theorem rot_end {vp W w1 w2 : World} {v1 v2 : Value} {n k : Nat} {l : List Sec} (hl : l.length = n) (hk : k ≤ n) (g : Below vp.heap.size vp W) (hB : vp.heap.size ≤ W.heap.size)
    (gr1 : W.grownBy w1 none) (own1 : w1.ownsRow vp.heap.size 29 3 v1 (n - k) (secC (l.drop k))) (gr2 : w1.grownBy w2 v1.ownBlock) (own2 : w2.ownsRow vp.heap.size 29 3 v2 (n - k + k) (secC (l.drop k) ++ secC (l.take k))) :
    OwnL w2 vp.heap.size v2 (l.drop k ++ l.take k) ∧ Below vp.heap.size vp w2 := by
  refine ⟨?_, ?_⟩
  · unfold OwnL
    rw [secC_append, List.length_append, List.length_drop, List.length_take, hl, show min k n = k by omega]
    exact own2
  · have s1 := gr1.size
    exact (g.trans (gr_bel gr1 (by simp) hB)).trans (gr_bel gr2 (fun q hq => (own1.lt q hq).1) (by omega))
end Go.Proofs.YtcgmbfpmcldfdaaGreatDoor
