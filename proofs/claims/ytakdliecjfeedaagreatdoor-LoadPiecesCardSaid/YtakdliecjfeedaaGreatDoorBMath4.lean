/- Plain mathematics of loads: some of them by hand. -/
import Derived.Test.YtakdliecjfeedaaGreatDoorBMath2
namespace Go.Proofs.YtakdliecjfeedaaGreatDoor
open Go Go.RowKit
-- BODY

theorem up_of {l : List Sec} {n : Nat} (h : ∀ k : Nat, k < n → 0 < k → (k : Int) < askL l k) : Up l n := fun s h1 h2 => by
  have := h s.toNat (by omega) (by omega)
  rw [show ((s.toNat : Nat) : Int) = s by omega] at this
  exact this
theorem fine_of {l : List Sec} {n : Nat} (h : ∀ k : Nat, k < n → 0 < k → dueL l k ≤ k) : Fine l n := fun s h1 h2 => by
  have := h s.toNat (by omega) (by omega)
  rw [show ((s.toNat : Nat) : Int) = s by omega] at this
  exact this
/-- One load that is due within its work at the soonest fits. -/
theorem fit_single {c d t : Int} (h0 : 1 ≤ c) (h1 : c ≤ d) (h2 : d ≤ t) (h3 : t ≤ 200) : fitB [⟨c, d, t⟩] = true := by
  have hl : ldsB [⟨c, d, t⟩] = true := ldsB_mk (by simp) (fun s hs => by simp at hs; subst hs; exact ldB_iff.2 ⟨by simp only; omega, by simp only; omega, by simp only; omega⟩)
  obtain ⟨a, b⟩ := one_time hl (by simp) (T := t) (fun s hs => by simp at hs; subst hs; rfl) (by simp only [sumC]; omega)
  simp only [sumC] at b
  refine fit_iff.2 ⟨a, fun s s1 s2 => ?_⟩
  rw [b] at s2
  simp only [dueL]
  by_cases hd : s < d
  · rw [cnt_ahead hd]; simp; omega
  · rw [show cntD d t s = 1 from cnt_eq (by omega) (by omega) (by omega) (.inr (by omega))]; omega
def b0 : List Sec := [⟨2, 4, 6⟩, ⟨3, 8, 9⟩]
theorem b0_lds : ldsB b0 = true := by decide
theorem b0_time : tOk b0 = true ∧ tN b0 = 5 := time_found b0_lds (by decide) (by decide) (by decide) (by decide) (up_of (n := 5) (by decide))
theorem b0_fit : fitB b0 = true := fit_iff.2 ⟨b0_time.1, by rw [b0_time.2]; exact fine_of (n := 6) (by decide)⟩
theorem b0_ask : askL b0 7 = 7 := by decide
theorem b0_due : dueL b0 8 = 5 := by decide
theorem b0_bad : ldsB [⟨5, 5, 4⟩] = false := by decide
theorem b0_two : pFit b0 5 10 2 = true := by
  have h : tOk (b0 ++ [⟨2, 5, 10⟩]) = true ∧ tN (b0 ++ [⟨2, 5, 10⟩]) = 9 := time_found (by decide) (by decide) (by decide) (by decide) (by decide) (up_of (n := 9) (by decide))
  exact fit_iff.2 ⟨h.1, by show Fine (b0 ++ [⟨2, 5, 10⟩]) _; rw [show tN (b0 ++ [⟨((2 : Nat) : Int), 5, 10⟩]) = 9 from h.2]; exact fine_of (n := 10) (by decide)⟩
theorem b0_three : pFit b0 5 10 3 = false := by
  cases e : pFit b0 5 10 3
  · rfl
  · have := fit_due (t := 17) (show fitB (b0 ++ [⟨3, 5, 10⟩]) = true from e) (by omega)
    exact absurd this (by decide)
theorem b0_most : mostV b0 5 10 9 = 2 := by
  unfold mostV
  rw [show mayFit b0 5 10 = true from by decide, show (min (9 : Int) 5).toNat = 5 from by decide, gr_search (pFit_falls _ _ _) (g := 2) (by decide) (.inr b0_two) (.inr b0_three)]
  rfl
theorem nil_most {d t top : Int} (hd : 1 ≤ d) (hdt : d ≤ t) (ht : t ≤ 200) (h0 : 0 ≤ top) : mostV [] d t top = min top d := by
  unfold mostV
  rw [show mayFit [] d t = true from by simp [mayFit]; omega, gr_all]
  · simp only [if_true]; omega
  · by_cases e : (min top d).toNat = 0
    · exact .inl e
    · exact .inr (fit_single (by omega) (by omega) hdt ht)
theorem nil_tight {t top : Int} (hd : 1 ≤ t) (ht : t ≤ 200) (h0 : 0 ≤ top) : tightV [] t top = min top t := by
  unfold tightV
  rw [show mayFit [] 1 t = true from by simp [mayFit]; omega, gr_all]
  · simp only [if_true]; omega
  · by_cases e : (min top t).toNat = 0
    · exact .inl e
    · exact .inr (fit_single (by omega) (by omega) (by omega) ht)
theorem nil_no {d t top : Int} (h : t < d) : mostV [] d t top = 0 := by
  unfold mostV
  rw [show mayFit [] d t = false from by simp [mayFit]; omega]
  rfl
theorem b0_tight : tightV [] 10 4 = 4 := nil_tight (by omega) (by omega) (by omega)

-- loads of one distance
def twoB (a b d e t : Int) : Bool := decide (a ≤ d) && decide (b ≤ e) && decide (a + b ≤ max d e) && decide (a + b ≤ t)
theorem two_fit {a b d e t : Int} (ha : 1 ≤ a) (ha2 : a ≤ 200) (hb : 1 ≤ b) (hb2 : b ≤ 200) (hd : 1 ≤ d) (hdt : d ≤ t) (he : 1 ≤ e) (het : e ≤ t) (ht : t ≤ 200) : fitB [⟨a, d, t⟩, ⟨b, e, t⟩] = twoB a b d e t := by
  have hl : ldsB [⟨a, d, t⟩, ⟨b, e, t⟩] = true := ldsB_mk (by simp) (fun s hs => by
    simp at hs
    rcases hs with rfl | rfl <;> exact ldB_iff.2 ⟨by simp only; omega, by simp only; omega, by simp only; omega⟩)
  have hT : ∀ s ∈ ([⟨a, d, t⟩, ⟨b, e, t⟩] : List Sec), s.len = t := fun s hs => by simp at hs; rcases hs with rfl | rfl <;> rfl
  have hs : sumC [⟨a, d, t⟩, ⟨b, e, t⟩] = a + b := by simp [sumC]
  have hdue : ∀ u : Int, dueL [⟨a, d, t⟩, ⟨b, e, t⟩] u = a * cntD d t u + b * cntD e t u := fun u => by simp [dueL]
  by_cases hab : a + b ≤ t
  · obtain ⟨p, q⟩ := one_time hl (by simp) hT (by omega)
    rw [hs] at q
    have c1 : ∀ D u : Int, 1 ≤ D → D ≤ u → u ≤ t → cntD D t u = 1 := fun D u h1 h2 h3 => cnt_eq (by omega) (by omega) (by omega) (.inr (by omega))
    rw [Bool.eq_iff_iff, fit_iff, q]
    unfold twoB
    simp only [Bool.and_eq_true, decide_eq_true_eq]
    constructor
    · rintro ⟨_, hf⟩
      have f : ∀ u : Int, 0 < u → u ≤ a + b → a * cntD d t u + b * cntD e t u ≤ u := fun u h1 h2 => by rw [← hdue]; exact hf u h1 (by omega)
      have n1 : ∀ u : Int, 0 ≤ b * cntD e t u := fun u => Int.mul_nonneg (by omega) (cnt_nonneg (by omega))
      have n2 : ∀ u : Int, 0 ≤ a * cntD d t u := fun u => Int.mul_nonneg (by omega) (cnt_nonneg (by omega))
      refine ⟨⟨⟨?_, ?_⟩, ?_⟩, hab⟩
      · refine Classical.byContradiction fun hc => ?_
        have := f d (by omega) (by omega)
        rw [c1 d d (by omega) (by omega) (by omega)] at this
        have := n1 d; omega
      · refine Classical.byContradiction fun hc => ?_
        have := f e (by omega) (by omega)
        rw [c1 e e (by omega) (by omega) (by omega)] at this
        have := n2 e; omega
      · refine Classical.byContradiction fun hc => ?_
        have := f (max d e) (by omega) (by omega)
        rw [c1 d (max d e) (by omega) (by omega) (by omega), c1 e (max d e) (by omega) (by omega) (by omega)] at this
        omega
    · rintro ⟨⟨⟨h1, h2⟩, h3⟩, _⟩
      refine ⟨p, fun u u1 u2 => ?_⟩
      rw [hdue]
      by_cases k1 : u < d <;> by_cases k2 : u < e
      · rw [cnt_ahead k1, cnt_ahead k2]; simp; omega
      · rw [cnt_ahead k1, c1 e u (by omega) (by omega) (by omega)]; omega
      · rw [cnt_ahead k2, c1 d u (by omega) (by omega) (by omega)]; omega
      · rw [c1 d u (by omega) (by omega) (by omega), c1 e u (by omega) (by omega) (by omega)]; omega
  · obtain ⟨p, q⟩ := one_never hl (by simp) hT (by omega)
    have h1 : fitB [⟨a, d, t⟩, ⟨b, e, t⟩] = false := by unfold fitB; rw [p]; rfl
    rw [h1]
    unfold twoB
    rw [decide_eq_false hab]; simp
/-- All of a core, each within its distance. -/
theorem full_fit {l : List Sec} {t : Int} (hl : ldsB l = true) (hne : l ≠ []) (h : ∀ s ∈ l, s.len = t ∧ s.pos = t) (hs : sumC l = t) : fitB l = true ∧ tOk l = true ∧ tN l = t ∧ dueL l t = t := by
  obtain ⟨a, b⟩ := one_time hl hne (fun s hs => (h s hs).1) (by omega)
  have ht : 1 ≤ t ∧ t ≤ 200 := by
    cases l with
    | nil => exact absurd rfl hne
    | cons x r =>
      have := ldB_iff.1 (ldsB_all hl x (by simp))
      have := h x (by simp)
      omega
  have hd : ∀ u : Int, 0 < u → u ≤ t → dueL l u ≤ u := fun u u1 u2 => by
    rw [one_due h]
    by_cases k : u < t
    · rw [cnt_ahead k]; simp; omega
    · rw [show cntD t t u = 1 from cnt_eq (by omega) (by omega) (by omega) (.inr (by omega))]; omega
  refine ⟨fit_iff.2 ⟨a, fun u u1 u2 => hd u u1 (by omega)⟩, a, by omega, ?_⟩
  rw [one_due h, show cntD t t t = 1 from cnt_eq (by omega) (by omega) (by omega) (.inr (by omega))]; omega
theorem full_over {l : List Sec} {t : Int} (hl : ldsB l = true) (h : ∀ s ∈ l, s.len = t) (hne : l ≠ []) (hs : t < sumC l) : fitB l = false := by
  unfold fitB; rw [(one_never hl hne h hs).1]; rfl
/-- So many of the smallest: they fit just if they are few enough. -/
theorem many_all (n : Nat) : ∀ s ∈ List.replicate n (⟨1, 200, 200⟩ : Sec), ldB s = true := fun s hs => by obtain ⟨_, rfl⟩ := List.mem_replicate.1 hs; decide
theorem many_sum (n : Nat) : sumC (List.replicate n ⟨1, 200, 200⟩) = n := by
  induction n with
  | zero => rfl
  | succ n ih => rw [List.replicate_succ, sumC, ih]; simp only; omega
theorem many_lds (n : Nat) : ldsB (List.replicate n ⟨1, 200, 200⟩) = decide (n ≤ 24) := by
  unfold ldsB
  rw [show (List.replicate n (⟨1, 200, 200⟩ : Sec)).all ldB = true from List.all_eq_true.2 (many_all n)]
  simp
theorem many_fit (n : Nat) : fitB (List.replicate n ⟨1, 200, 200⟩) = decide (n ≤ 24) := by
  by_cases hn : n ≤ 24
  · rw [decide_eq_true hn]
    by_cases h0 : n = 0
    · subst h0; exact fit_nil
    have hl : ldsB (List.replicate n ⟨1, 200, 200⟩) = true := by rw [many_lds, decide_eq_true hn]
    obtain ⟨a, b⟩ := one_time hl (by simp; omega) (T := 200) (fun s hs => by obtain ⟨_, rfl⟩ := List.mem_replicate.1 hs; rfl) (by rw [many_sum]; omega)
    rw [many_sum] at b
    refine fit_iff.2 ⟨a, fun s s1 s2 => ?_⟩
    rw [one_due (D := 200) (T := 200) (fun s hs => by obtain ⟨_, rfl⟩ := List.mem_replicate.1 hs; exact ⟨rfl, rfl⟩), cnt_ahead (by omega)]
    omega
  · rw [decide_eq_false hn]
    unfold fitB
    rw [(time_bad (by rw [many_lds, decide_eq_false hn])).1]; rfl
theorem many_ask (n : Nat) : askL (List.replicate n ⟨1, 200, 200⟩) 1 = n := by
  rw [one_ask (T := 200) (fun s hs => by obtain ⟨_, rfl⟩ := List.mem_replicate.1 hs; rfl), many_sum, ceil_one (by omega) (by omega)]; omega

-- a load less, a smaller one
theorem ask_set {l : List Sec} {k : Nat} {s : Sec} (h : l[k]? = some s) (x : Sec) (t : Int) : askL (l.set k x) t + s.res * ceilD t s.len = askL l t + x.res * ceilD t x.len := by
  induction l generalizing k with
  | nil => simp at h
  | cons y r ih =>
    cases k with
    | zero => simp at h; subst h; simp only [List.set_cons_zero, askL]; omega
    | succ k => have := ih (k := k) (by simpa using h); simp only [List.set_cons_succ, askL]; omega
theorem due_set {l : List Sec} {k : Nat} {s : Sec} (h : l[k]? = some s) (x : Sec) (t : Int) : dueL (l.set k x) t + s.res * cntD s.pos s.len t = dueL l t + x.res * cntD x.pos x.len t := by
  induction l generalizing k with
  | nil => simp at h
  | cons y r ih =>
    cases k with
    | zero => simp at h; subst h; simp only [List.set_cons_zero, dueL]; omega
    | succ k => have := ih (k := k) (by simpa using h); simp only [List.set_cons_succ, dueL]; omega
theorem fit_set {l : List Sec} {k : Nat} {s x : Sec} (h : fitB l = true) (hk : l[k]? = some s) (hx : ldB x = true) (h1 : x.res ≤ s.res) (h2 : s.len ≤ x.len) (h3 : s.pos ≤ x.pos) : fitB (l.set k x) = true := by
  have hl := fit_lds h
  have hs := ldB_iff.1 (ldsB_all hl s (List.mem_of_getElem? hk))
  have hx' := ldB_iff.1 hx
  refine fit_less (ldsB_mk (by simpa using ldsB_len hl) (fun y hy => ?_)) (fun t ht => ?_) (fun t ht => ?_) h
  · rcases List.mem_or_eq_of_mem_set hy with h | rfl
    · exact ldsB_all hl y h
    · exact hx
  · have a := ask_set hk x t
    have b := ceil_long (t := t) (T := s.len) (T' := x.len) (by omega) h2 (by omega)
    have c := Int.mul_le_mul h1 b (ceil_nonneg (by omega) (by omega)) (by omega)
    omega
  · have a := due_set hk x t
    have b := cnt_long (t := t) (T := s.len) (T' := x.len) (by omega) h2 h3
    have c := Int.mul_le_mul h1 b (cnt_nonneg (by omega)) (by omega)
    omega
theorem fit_out {l : List Sec} (k : Nat) (h : fitB l = true) : fitB (l.take k ++ l.drop (k + 1)) = true := by
  have hl := fit_lds h
  by_cases hk : k < l.length
  · obtain ⟨s, hs⟩ : ∃ s, l[k]? = some s := ⟨_, List.getElem?_eq_getElem hk⟩
    have hx := ldB_iff.1 (ldsB_all hl s (List.mem_of_getElem? hs))
    have e : l.take k ++ s :: l.drop (k + 1) = l := by
      obtain ⟨_, rfl⟩ := List.getElem?_eq_some_iff.1 hs
      rw [← List.drop_eq_getElem_cons hk, List.take_append_drop]
    have ea : ∀ t, askL (l.take k ++ l.drop (k + 1)) t + s.res * ceilD t s.len = askL l t := fun t => by
      conv => rhs; rw [← e]
      rw [askL_append, askL_append]; simp only [askL]; omega
    have ed : ∀ t, dueL (l.take k ++ l.drop (k + 1)) t + s.res * cntD s.pos s.len t = dueL l t := fun t => by
      conv => rhs; rw [← e]
      rw [dueL_append, dueL_append]; simp only [dueL]; omega
    refine fit_less (ldsB_mk ?_ (fun y hy => ?_)) (fun t ht => ?_) (fun t ht => ?_) h
    · have := ldsB_len hl; rw [List.length_append, List.length_take, List.length_drop]; omega
    · rcases List.mem_append.1 hy with hy | hy
      · exact ldsB_all hl y (List.mem_of_mem_take hy)
      · exact ldsB_all hl y (List.mem_of_mem_drop hy)
    · have := ea t
      have := Int.mul_nonneg (a := s.res) (b := ceilD t s.len) (by omega) (ceil_nonneg (by omega) (by omega))
      omega
    · have := ed t
      have := Int.mul_nonneg (a := s.res) (b := cntD s.pos s.len t) (by omega) (cnt_nonneg (by omega))
      omega
  · rw [List.take_of_length_le (by omega), List.drop_of_length_le (by omega), List.append_nil]; exact h
-- END
end Go.Proofs.YtakdliecjfeedaaGreatDoor
