/- The agents, by plain mathematics: the program's, the document's. -/
import Derived.Test.YtfhhpmnohbmnoaaGreatDoorAg
import Derived.Test.YtfhhpmnohbmnoaaGreatDoorRef3
namespace Go.Proofs.YtfhhpmnohbmnoaaGreatDoor
open Go Go.RowKit

theorem agL_one (l : List Int) (a : Sec) : agL l [a] = [agR l a] := by simp [agL, agM, Lib.compact, Lib.compactUpTo, Lib.keeps]
theorem sort_two (x y : Int) : [x, y].mergeSort (fun x y => decide (x ≤ y)) = if x ≤ y then [x, y] else [y, x] := by
  simp [List.mergeSort, List.MergeSort.Internal.splitInTwo, List.merge]
  
theorem compact_two (x y : Int) : Lib.compact [x, y] = if x = y then [x] else [x, y] := by
  by_cases h : x = y
  · subst h; simp [Lib.compact, Lib.compactUpTo, Lib.keeps, List.range_succ]
  · rw [if_neg h]
    have k0 : Lib.keeps #[x, y] 0 = true := by simp [Lib.keeps]
    have k1 : Lib.keeps #[x, y] 1 = true := by simp [Lib.keeps]; exact fun e => h e.symm
    simp [Lib.compact, Lib.compactUpTo, List.range_succ, k0, k1]
theorem agL_two (l : List Int) (a b : Sec) : agL l [a, b] = if agR l a < agR l b then [agR l a, agR l b] else if agR l a = agR l b then [agR l a] else [agR l b, agR l a] := by
  unfold agL
  rw [show agM l [a, b] = [agR l a, agR l b] from rfl, sort_two]
  generalize agR l a = x
  generalize agR l b = y
  by_cases h1 : x < y
  · rw [if_pos (by omega), if_pos h1, compact_two, if_neg (by omega)]
  · by_cases h2 : x = y
    · rw [if_pos (by omega), if_neg h1, if_pos h2, compact_two, if_pos h2]
    · rw [if_neg (by omega), if_neg h1, if_neg h2, compact_two, if_neg (by omega)]
theorem agR_get {l : List Int} {s : Sec} (hr : 0 ≤ s.res ∧ s.res < l.length) : l[s.res.toNat]? = some (agR l s) := by
  have h : s.res.toNat < l.length := by omega
  unfold agR
  rw [List.getElem?_eq_getElem h, List.getD_eq_getElem?_getD, List.getElem?_eq_getElem h]; rfl
theorem lon_iff {l : List Int} {y : Int} : ∀ (m : List Sec) (n : Int), 0 ≤ n → (∀ s ∈ m, (0 ≤ s.res ∧ s.res < l.length) ∧ 1 ≤ s.len) → 0 ≤ m.foldl (lonS l y) n ∧ (1 ≤ m.foldl (lonS l y) n ↔ 1 ≤ n ∨ ∃ s ∈ m, agR l s = y) := by
  intro m
  induction m with
  | nil => intro n hn _; simp [hn]
  | cons a r ih =>
    intro n hn hm
    have ha := hm a (by simp)
    have e := agR_get ha.1
    have hr : ∀ s ∈ r, (0 ≤ s.res ∧ s.res < l.length) ∧ 1 ≤ s.len := fun s hs => hm s (by simp [hs])
    rw [List.foldl_cons]
    unfold lonS
    rw [e]
    by_cases h : agR l a = y
    · rw [if_pos (congrArg some h)]
      obtain ⟨i1, i2⟩ := ih (max n a.len) (by omega) hr
      refine ⟨i1, i2.trans ⟨fun _ => .inr ⟨a, by simp, h⟩, fun _ => .inl (by omega)⟩⟩
    · rw [if_neg (fun e => h (Option.some.inj e))]
      obtain ⟨i1, i2⟩ := ih n hn hr
      refine ⟨i1, i2.trans ⟨?_, ?_⟩⟩
      · rintro (h1 | ⟨s, hs, e⟩)
        · exact .inl h1
        · exact .inr ⟨s, by simp [hs], e⟩
      · rintro (h1 | ⟨s, hs, e'⟩)
        · exact .inl h1
        · simp only [List.mem_cons] at hs
          rcases hs with e2 | hs
          · rw [e2] at e'; exact absurd e' h
          · exact .inr ⟨s, hs, e'⟩
theorem lonL_iff {l : List Int} {y : Int} {m : List Sec} (hm : ∀ s ∈ m, (0 ≤ s.res ∧ s.res < l.length) ∧ 1 ≤ s.len) : 0 ≤ lonL l y m ∧ (1 ≤ lonL l y m ↔ ∃ s ∈ m, agR l s = y) := by
  have h := lon_iff (l := l) (y := y) m 0 (by omega) hm
  exact ⟨h.1, h.2.trans ⟨fun h => h.elim (fun h => by omega) id, .inr⟩⟩
/-- What the agents are. -/
structure AgOk (l : List Int) (m : List Sec) (A : List Int) : Prop where
  mem : ∀ y, y ∈ A ↔ ∃ s ∈ m, agR l s = y
  up : A.Pairwise (· < ·)
  nil : A.length = 0 ↔ m.length = 0
  two : A.length ≤ 2
theorem ag_ok {l : List Int} {m : List Sec} (h2 : m.length ≤ 2) : AgOk l m (agL l m) := by
  match m, h2 with
  | [], _ => rw [agL_nil]; exact ⟨by simp, by simp, by simp, by simp⟩
  | [a], _ =>
    rw [agL_one]
    exact ⟨fun y => by simp [eq_comm], by simp, by simp, by simp⟩
  | [a, b], _ =>
    rw [agL_two]
    by_cases h1 : agR l a < agR l b
    · rw [if_pos h1]
      exact ⟨fun y => by simp [eq_comm], by simpa using h1, by simp, by simp⟩
    · by_cases h3 : agR l a = agR l b
      · rw [if_neg h1, if_pos h3]
        exact ⟨fun y => by simp [eq_comm, h3], by simp, by simp, by simp⟩
      · rw [if_neg h1, if_neg h3]
        exact ⟨fun y => by simp [eq_comm, or_comm], by simp; omega, by simp, by simp⟩
  | a :: b :: c :: r, h2 => simp at h2
theorem sorted_ext : ∀ (A B : List Int), A.Pairwise (· < ·) → B.Pairwise (· < ·) → (∀ x, x ∈ A ↔ x ∈ B) → A = B := by
  intro A
  induction A with
  | nil =>
    intro B _ _ h
    cases B with
    | nil => rfl
    | cons b r => exact absurd ((h b).2 (by simp)) (by simp)
  | cons a r ih =>
    intro B hA hB h
    cases B with
    | nil => exact absurd ((h a).1 (by simp)) (by simp)
    | cons b s =>
      rw [List.pairwise_cons] at hA hB
      have e : a = b := by
        have h1 := (h a).1 (by simp)
        have h2 := (h b).2 (by simp)
        simp only [List.mem_cons] at h1 h2
        rcases h1 with h1 | h1
        · exact h1
        · rcases h2 with h2 | h2
          · exact h2.symm
          · have := hA.1 b h2; have := hB.1 a h1; omega
      subst e
      congr 1
      refine ih s hA.2 hB.2 (fun x => ?_)
      have hx := h x
      simp only [List.mem_cons] at hx
      constructor
      · intro hm
        rcases hx.1 (.inr hm) with e | e
        · have := hA.1 x hm; omega
        · exact e
      · intro hm
        rcases hx.2 (.inr hm) with e | e
        · have := hB.1 x hm; omega
        · exact e
def refAg (p : Int → Bool) (k : Nat) : List Int := ((List.range k).map (fun i : Nat => (i : Int))).filter p
theorem refAg_succ (p : Int → Bool) (k : Nat) : refAg p (k + 1) = refAg p k ++ (if p (k : Int) then [(k : Int)] else []) := by
  unfold refAg
  rw [List.range_succ, List.map_append, List.filter_append]
  simp only [List.map_cons, List.map_nil, List.filter_cons, List.filter_nil]
theorem refAg_mem (p : Int → Bool) (k : Nat) (x : Int) : x ∈ refAg p k ↔ (0 ≤ x ∧ x < k) ∧ p x = true := by
  unfold refAg
  rw [List.mem_filter, List.mem_map]
  constructor
  · rintro ⟨⟨i, hi, rfl⟩, hp⟩
    exact ⟨⟨by omega, by have := List.mem_range.1 hi; omega⟩, hp⟩
  · rintro ⟨⟨h0, h1⟩, hp⟩
    exact ⟨⟨x.toNat, List.mem_range.2 (by omega), by omega⟩, hp⟩
theorem refAg_sorted (p : Int → Bool) (k : Nat) : (refAg p k).Pairwise (· < ·) := by
  unfold refAg
  refine List.Pairwise.filter _ ?_
  rw [List.pairwise_map]
  exact List.pairwise_lt_range.imp (fun h => by omega)

theorem agL_ref {l : List Int} {m : List Sec} {sy : Int} (h2 : m.length ≤ 2) (hs : 0 ≤ sy) (hm : ∀ s ∈ m, (0 ≤ s.res ∧ s.res < l.length) ∧ 1 ≤ s.len) (hl : ∀ x ∈ l, 0 ≤ x ∧ x < sy) : agL l m = refAg (fun a => decide (0 < lonL l a m)) sy.toNat := by
  have ok := ag_ok (l := l) h2
  refine sorted_ext _ _ ok.up (refAg_sorted _ _) (fun x => ?_)
  rw [ok.mem, refAg_mem, decide_eq_true_eq]
  obtain ⟨_, h⟩ := lonL_iff (y := x) hm
  constructor
  · rintro ⟨s, hs', e⟩
    have := hl x (by rw [← e]; exact List.mem_of_getElem? (agR_get (hm s hs').1))
    exact ⟨by omega, h.2 ⟨s, hs', e⟩⟩
  · rintro ⟨_, h'⟩
    exact h.1 h'
theorem has_take {A : List Int} {k : Nat} {x y : Int} (h : A[k]? = some x) : (A.take (k + 1)).contains y = ((A.take k).contains y || (x == y)) := by
  obtain ⟨hk, rfl⟩ := List.getElem?_eq_some_iff.1 h
  rw [List.take_succ_eq_append_getElem hk, List.contains_eq_any_beq, List.any_append, List.contains_eq_any_beq]
  simp [Bool.beq_comm]
theorem up_at {A : List Int} (h : A.Pairwise (· < ·)) {i : Nat} {x y : Int} (hy : A[i]? = some y) (hx : A[i + 1]? = some x) : y < x := by
  obtain ⟨h1, rfl⟩ := List.getElem?_eq_some_iff.1 hy
  obtain ⟨h2, rfl⟩ := List.getElem?_eq_some_iff.1 hx
  exact List.pairwise_iff_getElem.1 h i (i + 1) h1 h2 (by omega)
end Go.Proofs.YtfhhpmnohbmnoaaGreatDoor
