/- Plain mathematics of loads: what is asked, how long a core is busy, what has to be done. -/
import Derived.Test.YtakdliecjfeedaaGreatDoorSpec
namespace Go.Proofs.YtakdliecjfeedaaGreatDoor
open Go Go.RowKit
-- BODY

/-- A load that may be: res is its C, pos its D, len its T. -/
def ldB (s : Sec) : Bool := loadB s.res s.pos s.len
def ldsB (l : List Sec) : Bool := decide (l.length ≤ 24) && l.all ldB
def ceilD (t T : Int) : Int := -((-t) / T)
def cntD (D T t : Int) : Int := if t < D then 0 else (t - D) / T + 1
def askL : List Sec → Int → Int
  | [], _ => 0
  | s :: r, t => s.res * ceilD t s.len + askL r t
def dueL : List Sec → Int → Int
  | [], _ => 0
  | s :: r, t => s.res * cntD s.pos s.len t + dueL r t

theorem ldB_iff {s : Sec} : ldB s = true ↔ (1 ≤ s.res ∧ s.res ≤ 20000) ∧ (1 ≤ s.len ∧ s.len ≤ 200) ∧ 1 ≤ s.pos ∧ s.pos ≤ s.len := by
  unfold ldB loadB
  simp only [Bool.and_eq_true, inB_iff, and_assoc]
theorem ldsB_all {l : List Sec} (h : ldsB l = true) : ∀ s ∈ l, ldB s = true := by
  unfold ldsB at h
  simp only [Bool.and_eq_true, List.all_eq_true] at h
  exact h.2
theorem ldsB_len {l : List Sec} (h : ldsB l = true) : l.length ≤ 24 := by
  unfold ldsB at h
  simp only [Bool.and_eq_true, decide_eq_true_eq] at h
  exact h.1
theorem ldsB_mk {l : List Sec} (h1 : l.length ≤ 24) (h2 : ∀ s ∈ l, ldB s = true) : ldsB l = true := by
  unfold ldsB
  simp only [Bool.and_eq_true, decide_eq_true_eq, List.all_eq_true]
  exact ⟨h1, h2⟩

-- quotients
theorem dv_add {a b T : Int} (hT : 1 ≤ T) : a / T + b / T ≤ (a + b) / T := by
  rw [Int.le_ediv_iff_mul_le (by omega), Int.add_mul]
  have := Int.ediv_mul_le a (b := T) (by omega)
  have := Int.ediv_mul_le b (b := T) (by omega)
  omega
theorem dv_neg {a T : Int} (hT : 1 ≤ T) (h : a < 0) : a / T ≤ -1 := by
  have := Int.ediv_lt_of_lt_mul (a := a) (b := 0) (c := T) (by omega) (by simpa using h)
  omega
theorem dv_nonneg {a T : Int} (hT : 1 ≤ T) (h : 0 ≤ a) : 0 ≤ a / T := Int.ediv_nonneg h (by omega)
theorem ceil_mono {s t T : Int} (hT : 1 ≤ T) (h : s ≤ t) : ceilD s T ≤ ceilD t T := by
  unfold ceilD
  have := Int.ediv_le_ediv (a := -t) (b := -s) (c := T) (by omega) (by omega)
  omega
theorem ceil_zero (T : Int) : ceilD 0 T = 0 := by unfold ceilD; simp
theorem ceil_nonneg {t T : Int} (hT : 1 ≤ T) (h : 0 ≤ t) : 0 ≤ ceilD t T := by
  have := ceil_mono hT h; rw [ceil_zero] at this; exact this
theorem ceil_pos {t T : Int} (hT : 1 ≤ T) (h : 1 ≤ t) : 1 ≤ ceilD t T := by
  unfold ceilD
  have := dv_neg (a := -t) hT (by omega)
  omega
theorem ceil_le {t T : Int} (hT : 1 ≤ T) (h : 0 ≤ t) : ceilD t T ≤ t := by
  unfold ceilD
  have : -t ≤ (-t) / T := by
    rw [Int.le_ediv_iff_mul_le (by omega)]
    have := Int.mul_le_mul_of_nonneg_left hT h
    rw [Int.neg_mul]; omega
  omega
theorem ceil_add {s t T : Int} (hT : 1 ≤ T) : ceilD (s + t) T ≤ ceilD s T + ceilD t T := by
  unfold ceilD
  have := dv_add (a := -s) (b := -t) hT
  rw [show -(s + t) = -s + -t by omega]
  omega
theorem ceil_long {t T T' : Int} (hT : 1 ≤ T) (h : T ≤ T') (ht : 0 ≤ t) : ceilD t T' ≤ ceilD t T := by
  unfold ceilD
  have h0 : (-t) / T ≤ 0 := by
    have := Int.ediv_le_ediv (a := -t) (b := 0) (c := T) (by omega) (by omega)
    simpa using this
  have : (-t) / T ≤ (-t) / T' := by
    rw [Int.le_ediv_iff_mul_le (by omega)]
    have h1 := Int.ediv_mul_le (-t) (b := T) (by omega)
    have h2 : (-t) / T * T' ≤ (-t) / T * T := Int.mul_le_mul_of_nonpos_left h0 h
    omega
  omega
/-- By its bounds. -/
theorem ceil_eq {t T q : Int} (hT : 1 ≤ T) (h1 : t ≤ q * T) (h2 : (q - 1) * T < t) : ceilD t T = q := by
  unfold ceilD
  have a : -q ≤ (-t) / T := by rw [Int.le_ediv_iff_mul_le (by omega), Int.neg_mul]; omega
  have b : (-t) / T < -q + 1 := by
    rw [Int.ediv_lt_iff_lt_mul (by omega)]
    rw [show -q + 1 = -(q - 1) by omega, Int.neg_mul]; omega
  omega
theorem ceil_one {t T : Int} (h0 : 1 ≤ t) (h : t ≤ T) : ceilD t T = 1 := ceil_eq (by omega) (by omega) (by omega)
theorem cnt_nonneg {D T t : Int} (hT : 1 ≤ T) : 0 ≤ cntD D T t := by
  unfold cntD
  split
  · omega
  · have := dv_nonneg (a := t - D) hT (by omega); omega
theorem cnt_ceil {D T t : Int} (hT : 1 ≤ T) (hD : 1 ≤ D) (h : 0 ≤ t) : cntD D T t ≤ ceilD t T := by
  unfold cntD
  split
  · exact ceil_nonneg hT h
  · unfold ceilD
    have h1 := dv_add (a := t - D) (b := -t) hT
    have h2 := dv_neg (a := (t - D) + -t) hT (by omega)
    omega
theorem cnt_mono {D T s t : Int} (hT : 1 ≤ T) (h : s ≤ t) : cntD D T s ≤ cntD D T t := by
  unfold cntD
  split <;> split
  · omega
  · have := dv_nonneg (a := t - D) hT (by omega); omega
  · omega
  · have := Int.ediv_le_ediv (a := s - D) (b := t - D) (c := T) (by omega) (by omega); omega
theorem cnt_add {D T s t : Int} (hT : 1 ≤ T) (hs : 0 ≤ s) : cntD D T (s + t) ≤ ceilD s T + cntD D T t := by
  have h1 := dv_add (a := s + t - D) (b := -s) hT
  rw [show s + t - D + -s = t - D by omega] at h1
  have h0 := ceil_nonneg hT hs
  unfold ceilD at *
  unfold cntD
  split <;> split
  · omega
  · have := dv_nonneg (a := t - D) hT (by omega); omega
  · have := dv_neg (a := t - D) hT (by omega); omega
  · omega
theorem cnt_long {D D' T T' t : Int} (hT : 1 ≤ T) (h : T ≤ T') (hD : D ≤ D') : cntD D' T' t ≤ cntD D T t := by
  unfold cntD
  split <;> split
  · omega
  · have := dv_nonneg (a := t - D) hT (by omega); omega
  · omega
  · have h1 := Int.ediv_le_ediv (a := t - D') (b := t - D) (c := T') (by omega) (by omega)
    have h0 := dv_nonneg (a := t - D) (T := T') (by omega) (by omega)
    have h2 : (t - D) / T' ≤ (t - D) / T := by
      rw [Int.le_ediv_iff_mul_le (by omega)]
      have h3 := Int.ediv_mul_le (t - D) (b := T') (by omega)
      have h4 := Int.mul_le_mul_of_nonneg_left h h0
      omega
    omega
theorem cnt_zero {D T : Int} (hD : 1 ≤ D) : cntD D T 0 = 0 := by unfold cntD; rw [if_pos (by omega)]
theorem cnt_ahead {D T t : Int} (h : t < D) : cntD D T t = 0 := by unfold cntD; rw [if_pos h]
/-- The next deadline behind t. -/
theorem cnt_next {D T t : Int} (hT : 1 ≤ T) : t < D + T * cntD D T t := by
  unfold cntD
  split
  · simpa
  · have := Int.lt_ediv_add_one_mul_self (t - D) (b := T) (by omega)
    rw [Int.mul_comm]; omega
theorem cnt_still {D T s t : Int} (hT : 1 ≤ T) (h1 : s ≤ t) (h2 : t < D + T * cntD D T s) : cntD D T t = cntD D T s := by
  have h3 := cnt_mono (D := D) hT h1
  have : cntD D T t ≤ cntD D T s := by
    by_cases hl : t < D
    · rw [cnt_ahead hl]; exact cnt_nonneg hT
    · have : (t - D) / T < cntD D T s := by
        rw [Int.ediv_lt_iff_lt_mul (by omega), Int.mul_comm]; omega
      have e : cntD D T t = (t - D) / T + 1 := by unfold cntD; rw [if_neg hl]
      omega
  omega

-- sums
theorem askL_append (l m : List Sec) (t : Int) : askL (l ++ m) t = askL l t + askL m t := by
  induction l with
  | nil => simp [askL]
  | cons s r ih => simp only [List.cons_append, askL, ih]; omega
theorem dueL_append (l m : List Sec) (t : Int) : dueL (l ++ m) t = dueL l t + dueL m t := by
  induction l with
  | nil => simp [dueL]
  | cons s r ih => simp only [List.cons_append, dueL, ih]; omega
theorem askL_take {l : List Sec} {k : Nat} {s : Sec} (h : l[k]? = some s) (t : Int) : askL (l.take (k + 1)) t = askL (l.take k) t + s.res * ceilD t s.len := by
  obtain ⟨hk, rfl⟩ := List.getElem?_eq_some_iff.1 h
  rw [List.take_succ_eq_append_getElem hk, askL_append]
  simp [askL]
theorem dueL_take {l : List Sec} {k : Nat} {s : Sec} (h : l[k]? = some s) (t : Int) : dueL (l.take (k + 1)) t = dueL (l.take k) t + s.res * cntD s.pos s.len t := by
  obtain ⟨hk, rfl⟩ := List.getElem?_eq_some_iff.1 h
  rw [List.take_succ_eq_append_getElem hk, dueL_append]
  simp [dueL]
theorem mul_le' {a b c : Int} (ha : 0 ≤ a) (h : b ≤ c) : a * b ≤ a * c := Int.mul_le_mul_of_nonneg_left h ha
theorem ask_mono {l : List Sec} (h : ∀ s ∈ l, ldB s = true) {s t : Int} (hst : s ≤ t) : askL l s ≤ askL l t := by
  induction l with
  | nil => simp [askL]
  | cons x r ih =>
    have hx := ldB_iff.1 (h x (by simp))
    have := ih (fun y hy => h y (by simp [hy]))
    have := mul_le' (a := x.res) (by omega) (ceil_mono (T := x.len) (by omega) hst)
    simp only [askL]; omega
theorem due_mono {l : List Sec} (h : ∀ s ∈ l, ldB s = true) {s t : Int} (hst : s ≤ t) : dueL l s ≤ dueL l t := by
  induction l with
  | nil => simp [dueL]
  | cons x r ih =>
    have hx := ldB_iff.1 (h x (by simp))
    have := ih (fun y hy => h y (by simp [hy]))
    have := mul_le' (a := x.res) (by omega) (cnt_mono (D := x.pos) (T := x.len) (by omega) hst)
    simp only [dueL]; omega
theorem due_ask {l : List Sec} (h : ∀ s ∈ l, ldB s = true) {t : Int} (ht : 0 ≤ t) : dueL l t ≤ askL l t := by
  induction l with
  | nil => simp [dueL, askL]
  | cons x r ih =>
    have hx := ldB_iff.1 (h x (by simp))
    have := ih (fun y hy => h y (by simp [hy]))
    have := mul_le' (a := x.res) (by omega) (cnt_ceil (D := x.pos) (T := x.len) (by omega) (by omega) ht)
    simp only [dueL, askL]; omega
theorem due_nonneg {l : List Sec} (h : ∀ s ∈ l, ldB s = true) (t : Int) : 0 ≤ dueL l t := by
  induction l with
  | nil => simp [dueL]
  | cons x r ih =>
    have hx := ldB_iff.1 (h x (by simp))
    have := ih (fun y hy => h y (by simp [hy]))
    have := Int.mul_nonneg (a := x.res) (b := cntD x.pos x.len t) (by omega) (cnt_nonneg (by omega))
    simp only [dueL]; omega
theorem ask_zero (l : List Sec) : askL l 0 = 0 := by
  induction l with
  | nil => rfl
  | cons x r ih => simp [askL, ih, ceil_zero]
theorem ask_nonneg {l : List Sec} (h : ∀ s ∈ l, ldB s = true) {t : Int} (ht : 0 ≤ t) : 0 ≤ askL l t := by
  have := ask_mono h ht; rw [ask_zero] at this; exact this
theorem due_zero {l : List Sec} (h : ∀ s ∈ l, ldB s = true) : dueL l 0 = 0 := by
  induction l with
  | nil => rfl
  | cons x r ih =>
    have hx := ldB_iff.1 (h x (by simp))
    have := ih (fun y hy => h y (by simp [hy]))
    simp only [dueL]; rw [cnt_zero (by omega)]; omega
theorem ask_pos {l : List Sec} (h : ∀ s ∈ l, ldB s = true) (hl : l ≠ []) {t : Int} (ht : 1 ≤ t) : 1 ≤ askL l t := by
  cases l with
  | nil => exact absurd rfl hl
  | cons x r =>
    have hx := ldB_iff.1 (h x (by simp))
    have := ask_nonneg (l := r) (fun y hy => h y (by simp [hy])) (t := t) (by omega)
    have := mul_le' (a := x.res) (by omega) (ceil_pos (T := x.len) (by omega) ht)
    simp only [askL]; omega
theorem ask_bd {l : List Sec} (h : ∀ s ∈ l, ldB s = true) {t : Int} (ht : 0 ≤ t) (ht2 : t ≤ 20000) : askL l t ≤ 400000000 * l.length := by
  induction l with
  | nil => simp [askL]
  | cons x r ih =>
    have hx := ldB_iff.1 (h x (by simp))
    have := ih (fun y hy => h y (by simp [hy]))
    have a := ceil_le (T := x.len) (by omega) ht
    have b := ceil_nonneg (T := x.len) (by omega) ht
    have : x.res * ceilD t x.len ≤ 20000 * 20000 := Int.mul_le_mul (by omega) (by omega) b (by omega)
    simp only [askL, List.length_cons]; omega
theorem ask_add {l : List Sec} (h : ∀ s ∈ l, ldB s = true) {s t : Int} : askL l (s + t) ≤ askL l s + askL l t := by
  induction l with
  | nil => simp [askL]
  | cons x r ih =>
    have hx := ldB_iff.1 (h x (by simp))
    have := ih (fun y hy => h y (by simp [hy]))
    have := mul_le' (a := x.res) (by omega) (ceil_add (s := s) (t := t) (T := x.len) (by omega))
    rw [Int.mul_add] at this
    simp only [askL]; omega
theorem due_add {l : List Sec} (h : ∀ s ∈ l, ldB s = true) {s t : Int} (hs : 0 ≤ s) : dueL l (s + t) ≤ askL l s + dueL l t := by
  induction l with
  | nil => simp [dueL, askL]
  | cons x r ih =>
    have hx := ldB_iff.1 (h x (by simp))
    have := ih (fun y hy => h y (by simp [hy]))
    have := mul_le' (a := x.res) (by omega) (cnt_add (D := x.pos) (t := t) (T := x.len) (by omega) hs)
    rw [Int.mul_add] at this
    simp only [dueL, askL]; omega

-- the busy time
def tmF (l : List Sec) : Option Nat := (List.range 20001).find? (fun n => decide (0 < n) && decide (askL l n = n))
def tOk (l : List Sec) : Bool := ldsB l && (l.isEmpty || (tmF l).isSome)
def tN (l : List Sec) : Int := if ldsB l && !l.isEmpty then (((tmF l).getD 0 : Nat) : Int) else 0
/-- Up to t more is asked than there is time. -/
def Up (l : List Sec) (t : Int) : Prop := ∀ s, 0 < s → s < t → s < askL l s
theorem Up.one (l : List Sec) : Up l 1 := fun s h1 h2 => by omega
theorem Up.le {l : List Sec} {t : Int} (h : Up l t) (hl : ldsB l = true) (hne : l ≠ []) (ht : 1 ≤ t) : t ≤ askL l t := by
  by_cases h1 : t = 1
  · subst h1; exact ask_pos (ldsB_all hl) hne (by omega)
  · have := h (t - 1) (by omega) (by omega)
    have := ask_mono (ldsB_all hl) (s := t - 1) (t := t) (by omega)
    omega
theorem Up.next {l : List Sec} {t : Int} (h : Up l t) (hl : ldsB l = true) (hne : l ≠ []) (ht : 1 ≤ t) (h' : askL l t ≠ t) : t < askL l t ∧ Up l (askL l t) := by
  have h1 := h.le hl hne ht
  refine ⟨by omega, fun s hs1 hs2 => ?_⟩
  by_cases hst : s < t
  · exact h s hs1 hst
  · have := ask_mono (ldsB_all hl) (s := t) (t := s) (by omega)
    omega
theorem time_found {l : List Sec} {n : Int} (hl : ldsB l = true) (hne : l ≠ []) (h0 : 0 < n) (h1 : n ≤ 20000) (h : askL l n = n) (hu : Up l n) : tOk l = true ∧ tN l = n := by
  obtain ⟨k, rfl⟩ : ∃ k : Nat, n = k := ⟨n.toNat, by omega⟩
  have hf : tmF l = some k := by
    unfold tmF
    rw [List.find?_range_eq_some]
    refine ⟨by simp [h]; omega, by simp; omega, fun j hj => ?_⟩
    simp only [Bool.not_eq_true', Bool.and_eq_false_iff, decide_eq_false_iff_not]
    by_cases hj0 : 0 < j
    · right; have := hu j (by omega) (by omega); omega
    · left; omega
  have he : l.isEmpty = false := by cases l with | nil => exact absurd rfl hne | cons => rfl
  unfold tOk tN
  rw [hf, hl, he]
  simp
theorem time_lost {l : List Sec} (hl : ldsB l = true) (hne : l ≠ []) (hu : Up l 20001) : tOk l = false ∧ tN l = 0 := by
  have hf : tmF l = none := by
    unfold tmF
    rw [List.find?_eq_none]
    intro j hj
    simp at hj
    by_cases hj0 : 0 < j
    · have := hu j (by omega) (by omega); simp; omega
    · simp; omega
  have he : l.isEmpty = false := by cases l with | nil => exact absurd rfl hne | cons => rfl
  unfold tOk tN
  rw [hf, hl, he]
  simp
theorem time_bad {l : List Sec} (hl : ldsB l = false) : tOk l = false ∧ tN l = 0 := by unfold tOk tN; rw [hl]; simp
theorem time_nil : tOk [] = true ∧ tN [] = 0 := by unfold tOk tN; simp [ldsB]
theorem tOk_lds {l : List Sec} (h : tOk l = true) : ldsB l = true := by
  unfold tOk at h; simp only [Bool.and_eq_true] at h; exact h.1
/-- The least time at which no more is asked than there is: all is done just then. -/
theorem least {l : List Sec} (hl : ldsB l = true) (hne : l ≠ []) : ∀ (n : Nat), 0 < n → askL l n ≤ n → ∃ k : Int, 0 < k ∧ k ≤ n ∧ askL l k = k ∧ Up l k := by
  intro n
  induction n using Nat.strongRecOn with
  | ind n ih =>
    intro h0 h
    by_cases hu : Up l n
    · have := hu.le hl hne (by omega)
      exact ⟨n, by omega, by omega, by omega, hu⟩
    · unfold Up at hu
      have : ∃ s : Int, 0 < s ∧ s < n ∧ askL l s ≤ s := by
        refine Classical.byContradiction fun hc => hu fun s h1 h2 => ?_
        refine Classical.byContradiction fun h3 => hc ⟨s, h1, h2, by omega⟩
      obtain ⟨s, h1, h2, h3⟩ := this
      obtain ⟨k, hk1, hk2, hk3, hk4⟩ := ih s.toNat (by omega) (by omega) (by rw [show ((s.toNat : Nat) : Int) = s by omega]; exact h3)
      exact ⟨k, hk1, by omega, hk3, hk4⟩
theorem time_le {l : List Sec} {n : Int} (hl : ldsB l = true) (hne : l ≠ []) (h0 : 0 < n) (h1 : n ≤ 20000) (h : askL l n ≤ n) : tOk l = true ∧ 0 < tN l ∧ tN l ≤ n ∧ askL l (tN l) = tN l ∧ Up l (tN l) := by
  obtain ⟨k, a, b, c, d⟩ := least hl hne n.toNat (by omega) (by rw [show ((n.toNat : Nat) : Int) = n by omega]; exact h)
  obtain ⟨e, f⟩ := time_found hl hne a (by omega) c d
  rw [f]
  exact ⟨e, a, by omega, c, d⟩
theorem time_ok {l : List Sec} (h : tOk l = true) (hne : l ≠ []) : 0 < tN l ∧ tN l ≤ 20000 ∧ askL l (tN l) = tN l ∧ Up l (tN l) := by
  have hl := tOk_lds h
  by_cases hu : Up l 20001
  · have := (time_lost hl hne hu).1; rw [h] at this; cases this
  · have : ∃ s : Int, 0 < s ∧ s < 20001 ∧ askL l s ≤ s := by
      refine Classical.byContradiction fun hc => hu fun s h1 h2 => ?_
      refine Classical.byContradiction fun h3 => hc ⟨s, h1, h2, by omega⟩
    obtain ⟨s, h1, h2, h3⟩ := this
    obtain ⟨a, b, c, d, e⟩ := time_le hl hne h1 (by omega) h3
    exact ⟨b, by omega, d, e⟩
theorem time_no {l : List Sec} (h : tOk l = false) (hl : ldsB l = true) : l ≠ [] ∧ Up l 20001 := by
  have hne : l ≠ [] := by rintro rfl; rw [time_nil.1] at h; cases h
  refine ⟨hne, fun s h1 h2 => ?_⟩
  refine Classical.byContradiction fun h3 => ?_
  have := (time_le hl hne h1 (by omega) (by omega)).1
  rw [h] at this; cases this
theorem tN_no {l : List Sec} (h : tOk l = false) : tN l = 0 := by
  cases hl : ldsB l
  · exact (time_bad hl).2
  · obtain ⟨a, b⟩ := time_no h hl
    exact (time_lost hl a b).2
theorem tN_bd (l : List Sec) : 0 ≤ tN l ∧ tN l ≤ 20000 := by
  cases h : tOk l
  · rw [tN_no h]; omega
  · by_cases hne : l = []
    · subst hne; rw [time_nil.2]; omega
    · have := time_ok h hne; omega

-- what has to be done
def ovF (l : List Sec) : Option Nat := (List.range 20001).find? (fun t => decide (0 < t) && decide ((t : Int) ≤ tN l) && decide ((t : Int) < dueL l t))
def oOk (l : List Sec) : Bool := (ovF l).isSome
def oN (l : List Sec) : Int := (((ovF l).getD 0 : Nat) : Int)
def fitB (l : List Sec) : Bool := tOk l && !oOk l
def Fine (l : List Sec) (t : Int) : Prop := ∀ s, 0 < s → s < t → dueL l s ≤ s
theorem over_found {l : List Sec} {n : Int} (h0 : 0 < n) (h1 : n ≤ tN l) (h : n < dueL l n) (hu : Fine l n) : oOk l = true ∧ oN l = n := by
  have hb := tN_bd l
  obtain ⟨k, rfl⟩ : ∃ k : Nat, n = k := ⟨n.toNat, by omega⟩
  have hf : ovF l = some k := by
    unfold ovF
    rw [List.find?_range_eq_some]
    refine ⟨by simp only [Bool.and_eq_true, decide_eq_true_eq]; omega, by simp; omega, fun j hj => ?_⟩
    simp only [Bool.not_eq_true', Bool.and_eq_false_iff, decide_eq_false_iff_not]
    by_cases hj0 : 0 < j
    · right; have := hu j (by omega) (by omega); omega
    · left; left; omega
  unfold oOk oN
  rw [hf]
  simp
theorem over_none {l : List Sec} (hu : Fine l (tN l + 1)) : oOk l = false ∧ oN l = 0 := by
  have hf : ovF l = none := by
    unfold ovF
    rw [List.find?_eq_none]
    intro j hj
    simp only [Bool.and_eq_true, decide_eq_true_eq]
    rintro ⟨⟨a, b⟩, c⟩
    have := hu j (by omega) (by omega)
    omega
  unfold oOk oN
  rw [hf]
  simp
theorem over_fine {l : List Sec} (h : oOk l = false) : Fine l (tN l + 1) := by
  intro s h1 h2
  refine Classical.byContradiction fun h3 => ?_
  have hb := tN_bd l
  unfold oOk ovF at h
  rw [Option.isSome_eq_false_iff, Option.isNone_iff_eq_none, List.find?_eq_none] at h
  have := h s.toNat (by simp; omega)
  rw [show ((s.toNat : Nat) : Int) = s by omega] at this
  simp only [Bool.and_eq_true, decide_eq_true_eq] at this
  exact this ⟨⟨by omega, by omega⟩, by omega⟩
theorem oN_no {l : List Sec} (h : oOk l = false) : oN l = 0 := by
  unfold oOk at h
  unfold oN
  rw [Option.isSome_eq_false_iff, Option.isNone_iff_eq_none] at h
  rw [h]; rfl
theorem oN_pos {l : List Sec} (h : oOk l = true) : 0 < oN l ∧ oN l ≤ tN l ∧ oN l < dueL l (oN l) ∧ Fine l (oN l) := by
  have h' := h
  unfold oOk at h'
  obtain ⟨k, hk⟩ := Option.isSome_iff_exists.1 h'
  have e : oN l = k := by unfold oN; rw [hk]; rfl
  unfold ovF at hk
  rw [List.find?_range_eq_some] at hk
  obtain ⟨a, b, c⟩ := hk
  simp only [Bool.and_eq_true, decide_eq_true_eq] at a
  rw [e]
  refine ⟨by omega, a.1.2, a.2, fun s h1 h2 => ?_⟩
  have := c s.toNat (by omega)
  rw [show ((s.toNat : Nat) : Int) = s by omega] at this
  simp only [Bool.not_eq_true', Bool.and_eq_false_iff, decide_eq_false_iff_not] at this
  rcases this with (h | h) | h <;> omega
theorem fit_iff {l : List Sec} : fitB l = true ↔ tOk l = true ∧ Fine l (tN l + 1) := by
  unfold fitB
  simp only [Bool.and_eq_true, Bool.not_eq_true']
  exact ⟨fun ⟨a, b⟩ => ⟨a, over_fine b⟩, fun ⟨a, b⟩ => ⟨a, (over_none b).1⟩⟩
/-- What fits up to its busy time fits at every time. -/
theorem fit_all {l : List Sec} (h : fitB l = true) : ∀ n : Nat, dueL l n ≤ n := by
  obtain ⟨h1, h2⟩ := fit_iff.1 h
  have hl := tOk_lds h1
  by_cases hne : l = []
  · subst hne; intro n; simp [dueL]
  obtain ⟨a, b, c, d⟩ := time_ok h1 hne
  intro n
  induction n using Nat.strongRecOn with
  | ind n ih =>
    by_cases hn : n = 0
    · subst hn; rw [show ((0 : Nat) : Int) = 0 from rfl, due_zero (ldsB_all hl)]; omega
    by_cases hs : (n : Int) ≤ tN l
    · exact h2 n (by omega) (by omega)
    · have k1 := ih ((n : Int) - tN l).toNat (by omega)
      rw [show (((((n : Int) - tN l).toNat : Nat)) : Int) = (n : Int) - tN l by omega] at k1
      have k2 := due_add (ldsB_all hl) (s := tN l) (t := (n : Int) - tN l) (by omega)
      rw [show tN l + ((n : Int) - tN l) = n by omega] at k2
      omega
theorem fit_due {l : List Sec} (h : fitB l = true) {t : Int} (ht : 0 ≤ t) : dueL l t ≤ t := by
  have := fit_all h t.toNat
  rw [show ((t.toNat : Nat) : Int) = t by omega] at this
  exact this
theorem fit_of {l : List Sec} (h : tOk l = true) (hd : ∀ t, 0 < t → dueL l t ≤ t) : fitB l = true := fit_iff.2 ⟨h, fun s h1 _ => hd s h1⟩
theorem fit_lds {l : List Sec} (h : fitB l = true) : ldsB l = true := tOk_lds (fit_iff.1 h).1
theorem fit_nil : fitB [] = true := fit_of time_nil.1 (fun t _ => by simp [dueL]; omega)
theorem tOk_less {l m : List Sec} (hl : ldsB l = true) (ha : ∀ t, 0 < t → askL l t ≤ askL m t) (hm : tOk m = true) : tOk l = true := by
  by_cases hne : l = []
  · subst hne; exact time_nil.1
  have hmne : m ≠ [] := by
    rintro rfl
    have h1 := ask_pos (ldsB_all hl) hne (t := 1) (by omega)
    have h2 := ha 1 (by omega)
    simp [askL] at h2; omega
  obtain ⟨a, b, c, d⟩ := time_ok hm hmne
  exact (time_le hl hne a b (by have := ha (tN m) a; omega)).1
theorem fit_less {l m : List Sec} (hl : ldsB l = true) (ha : ∀ t, 0 < t → askL l t ≤ askL m t) (hd : ∀ t, 0 < t → dueL l t ≤ dueL m t) (hm : fitB m = true) : fitB l = true :=
  fit_of (tOk_less hl ha (fit_iff.1 hm).1) (fun t ht => by have := hd t ht; have := fit_due hm (t := t) (by omega); omega)
-- END
end Go.Proofs.YtakdliecjfeedaaGreatDoor

/- Plain mathematics of loads, further: deadlines, the greatest that fits, orders, single loads. -/
namespace Go.Proofs.YtakdliecjfeedaaGreatDoor
open Go Go.RowKit
-- BODY

theorem ceil_alt {t T : Int} (hT : 1 ≤ T) : (t - 1) / T + 1 = ceilD t T := by
  symm
  have h1 := Int.ediv_mul_le (t - 1) (b := T) (by omega)
  have h2 := Int.lt_ediv_add_one_mul_self (t - 1) (b := T) (by omega)
  refine ceil_eq hT (by omega) ?_
  rw [show (t - 1) / T + 1 - 1 = (t - 1) / T by omega]; omega
theorem ceil_succ {t T : Int} (hT : 1 ≤ T) : ceilD (t + 1) T = ceilD t T + if t % T = 0 then 1 else 0 := by
  rw [← ceil_alt hT (t := t + 1), show t + 1 - 1 = t by omega]
  have h1 := Int.emod_add_mul_ediv t T
  have h2 := Int.emod_nonneg t (b := T) (by omega)
  have h3 := Int.emod_lt_of_pos t (b := T) (by omega)
  have hm : T * (t / T) = t / T * T := Int.mul_comm _ _
  split
  · have : ceilD t T = t / T := ceil_eq hT (by omega) (by rw [Int.sub_mul]; omega)
    omega
  · have : ceilD t T = t / T + 1 := ceil_eq hT (by rw [Int.add_mul]; omega) (by rw [show t / T + 1 - 1 = t / T by omega]; omega)
    omega
theorem cnt_eq {D T t q : Int} (hT : 1 ≤ T) (h0 : 0 ≤ q) (h1 : t < q * T + D) (h2 : q = 0 ∨ (q - 1) * T + D ≤ t) : cntD D T t = q := by
  unfold cntD
  rcases h2 with rfl | h2
  · rw [if_pos (by omega)]
  · by_cases hq : q = 0
    · subst hq; rw [if_pos (by omega)]
    · have h3 : 0 ≤ (q - 1) * T := Int.mul_nonneg (by omega) (by omega)
      rw [if_neg (by omega)]
      have a : q - 1 ≤ (t - D) / T := by rw [Int.le_ediv_iff_mul_le (by omega)]; omega
      have b : (t - D) / T < q := by rw [Int.ediv_lt_iff_lt_mul (by omega)]; omega
      omega
theorem cnt_step {D T t : Int} (hT : 1 ≤ T) : cntD D T t = cntD D T (t - 1) + if D ≤ t ∧ (t - D) % T = 0 then 1 else 0 := by
  by_cases h : t < D
  · rw [cnt_ahead h, cnt_ahead (by omega), if_neg (by omega)]; rfl
  have e : cntD D T t = (t - D) / T + 1 := by unfold cntD; rw [if_neg h]
  by_cases h' : t = D
  · subst h'
    rw [cnt_ahead (t := t - 1) (by omega), e]; simp
  have e' : cntD D T (t - 1) = (t - 1 - D) / T + 1 := by unfold cntD; rw [if_neg (by omega)]
  rw [e, e']
  have h2 := Int.emod_add_mul_ediv (t - D) T
  have h3 := Int.emod_nonneg (t - D) (b := T) (by omega)
  have h4 := Int.emod_lt_of_pos (t - D) (b := T) (by omega)
  have hm : T * ((t - D) / T) = (t - D) / T * T := Int.mul_comm _ _
  split
  · have : (t - 1 - D) / T = (t - D) / T - 1 := by
      have a : (t - D) / T - 1 ≤ (t - 1 - D) / T := by rw [Int.le_ediv_iff_mul_le (by omega), Int.sub_mul]; omega
      have b : (t - 1 - D) / T < (t - D) / T := by rw [Int.ediv_lt_iff_lt_mul (by omega)]; omega
      omega
    omega
  · have : (t - 1 - D) / T = (t - D) / T := by
      have a : (t - D) / T ≤ (t - 1 - D) / T := by rw [Int.le_ediv_iff_mul_le (by omega)]; omega
      have b : (t - 1 - D) / T < (t - D) / T + 1 := by rw [Int.ediv_lt_iff_lt_mul (by omega), Int.add_mul]; omega
      omega
    omega
/-- What is added in a tick. -/
def stepL : List Sec → Int → Int
  | [], _ => 0
  | s :: r, t => (if t % s.len = 0 then s.res else 0) + stepL r t
theorem ask_succ {l : List Sec} (h : ∀ s ∈ l, ldB s = true) (t : Int) : askL l (t + 1) = askL l t + stepL l t := by
  induction l with
  | nil => simp [askL, stepL]
  | cons x r ih =>
    have hx := ldB_iff.1 (h x (by simp))
    have := ih (fun y hy => h y (by simp [hy]))
    simp only [askL, stepL]
    rw [ceil_succ (by omega), Int.mul_add, this]
    split <;> simp <;> omega
theorem stepL_append (l m : List Sec) (t : Int) : stepL (l ++ m) t = stepL l t + stepL m t := by
  induction l with
  | nil => simp [stepL]
  | cons s r ih => simp only [List.cons_append, stepL, ih]; omega
theorem stepL_take {l : List Sec} {k : Nat} {s : Sec} (h : l[k]? = some s) (t : Int) : stepL (l.take (k + 1)) t = stepL (l.take k) t + if t % s.len = 0 then s.res else 0 := by
  obtain ⟨hk, rfl⟩ := List.getElem?_eq_some_iff.1 h
  rw [List.take_succ_eq_append_getElem hk, stepL_append]
  simp [stepL]
def dstepL : List Sec → Int → Int
  | [], _ => 0
  | s :: r, t => (if s.pos ≤ t ∧ (t - s.pos) % s.len = 0 then s.res else 0) + dstepL r t
theorem due_step {l : List Sec} (h : ∀ s ∈ l, ldB s = true) (t : Int) : dueL l t = dueL l (t - 1) + dstepL l t := by
  induction l with
  | nil => simp [dueL, dstepL]
  | cons x r ih =>
    have hx := ldB_iff.1 (h x (by simp))
    have := ih (fun y hy => h y (by simp [hy]))
    simp only [dueL, dstepL]
    rw [cnt_step (by omega), Int.mul_add, this]
    split <;> simp <;> omega
theorem dstepL_append (l m : List Sec) (t : Int) : dstepL (l ++ m) t = dstepL l t + dstepL m t := by
  induction l with
  | nil => simp [dstepL]
  | cons s r ih => simp only [List.cons_append, dstepL, ih]; omega
theorem dstepL_take {l : List Sec} {k : Nat} {s : Sec} (h : l[k]? = some s) (t : Int) : dstepL (l.take (k + 1)) t = dstepL (l.take k) t + if s.pos ≤ t ∧ (t - s.pos) % s.len = 0 then s.res else 0 := by
  obtain ⟨hk, rfl⟩ := List.getElem?_eq_some_iff.1 h
  rw [List.take_succ_eq_append_getElem hk, dstepL_append]
  simp [dstepL]

/-- The next deadline. -/
def dlA : List Sec → Int → Int
  | [], _ => 20001
  | s :: r, t => min (s.pos + s.len * cntD s.pos s.len t) (dlA r t)
theorem dlA_le (l : List Sec) (t : Int) : dlA l t ≤ 20001 := by
  induction l with
  | nil => simp [dlA]
  | cons s r ih => simp only [dlA]; omega
theorem dlA_append (l m : List Sec) (t : Int) : dlA (l ++ m) t = min (dlA l t) (dlA m t) := by
  induction l with
  | nil => have := dlA_le m t; simp only [List.nil_append, dlA]; omega
  | cons s r ih => simp only [List.cons_append, dlA, ih]; omega
theorem dlA_take {l : List Sec} {k : Nat} {s : Sec} (h : l[k]? = some s) (t : Int) : dlA (l.take (k + 1)) t = min (dlA (l.take k) t) (s.pos + s.len * cntD s.pos s.len t) := by
  obtain ⟨hk, rfl⟩ := List.getElem?_eq_some_iff.1 h
  rw [List.take_succ_eq_append_getElem hk, dlA_append]
  have := dlA_le (l.take k) t
  simp only [dlA]
  omega
theorem dlA_gt {l : List Sec} (h : ∀ s ∈ l, ldB s = true) {t : Int} (ht : t ≤ 20000) : t < dlA l t := by
  induction l with
  | nil => simp [dlA]; omega
  | cons x r ih =>
    have hx := ldB_iff.1 (h x (by simp))
    have := ih (fun y hy => h y (by simp [hy]))
    have := cnt_next (D := x.pos) (T := x.len) (t := t) (by omega)
    simp only [dlA]; omega
theorem dlA_still {l : List Sec} (h : ∀ s ∈ l, ldB s = true) {s t : Int} (h1 : s ≤ t) (h2 : t < dlA l s) : dueL l t = dueL l s := by
  induction l with
  | nil => rfl
  | cons x r ih =>
    have hx := ldB_iff.1 (h x (by simp))
    simp only [dlA] at h2
    have := ih (fun y hy => h y (by simp [hy])) (by omega)
    have e := cnt_still (D := x.pos) (T := x.len) (by omega) h1 (by omega)
    simp only [dueL]; rw [e]; omega
theorem fine_next {l : List Sec} (h : ∀ s ∈ l, ldB s = true) {t : Int} (hf : Fine l t) (hd : dueL l t ≤ t) : Fine l (dlA l t) := by
  intro s h1 h2
  by_cases hs : s < t
  · exact hf s h1 hs
  · rw [dlA_still h (by omega) h2]; omega

-- a load more
theorem ask_snoc (l : List Sec) (x : Sec) (t : Int) : askL (l ++ [x]) t = askL l t + x.res * ceilD t x.len := by rw [askL_append]; simp [askL]
theorem due_snoc (l : List Sec) (x : Sec) (t : Int) : dueL (l ++ [x]) t = dueL l t + x.res * cntD x.pos x.len t := by rw [dueL_append]; simp [dueL]
theorem lds_snoc {l : List Sec} {x : Sec} : ldsB (l ++ [x]) = true ↔ l.length ≤ 23 ∧ (∀ s ∈ l, ldB s = true) ∧ ldB x = true := by
  constructor
  · intro h
    have h1 := ldsB_len h
    have h2 := ldsB_all h
    simp at h1
    exact ⟨by omega, fun s hs => h2 s (by simp [hs]), h2 x (by simp)⟩
  · rintro ⟨h1, h2, h3⟩
    refine ldsB_mk (by simp; omega) fun s hs => ?_
    simp at hs
    rcases hs with hs | rfl
    · exact h2 s hs
    · exact h3
theorem lds_front {l : List Sec} {x : Sec} (h : ldsB (l ++ [x]) = true) : ldsB l = true := by
  obtain ⟨h1, h2, _⟩ := lds_snoc.1 h
  exact ldsB_mk (by omega) h2
theorem fit_front {l : List Sec} {x : Sec} (h : fitB (l ++ [x]) = true) : fitB l = true := by
  have hl := fit_lds h
  obtain ⟨h1, h2, h3⟩ := lds_snoc.1 hl
  have hx := ldB_iff.1 h3
  refine fit_less (lds_front hl) (fun t ht => ?_) (fun t ht => ?_) h
  · rw [ask_snoc]
    have := Int.mul_nonneg (a := x.res) (b := ceilD t x.len) (by omega) (ceil_nonneg (by omega) (by omega))
    omega
  · rw [due_snoc]
    have := Int.mul_nonneg (a := x.res) (b := cntD x.pos x.len t) (by omega) (cnt_nonneg (by omega))
    omega
theorem fit_smaller {l : List Sec} {c c' d t : Int} (h : fitB (l ++ [⟨c', d, t⟩]) = true) (h0 : 1 ≤ c) (hc : c ≤ c') : fitB (l ++ [⟨c, d, t⟩]) = true := by
  have hl := fit_lds h
  obtain ⟨h1, h2, h3⟩ := lds_snoc.1 hl
  have hx := ldB_iff.1 h3
  simp only at hx
  refine fit_less (lds_snoc.2 ⟨h1, h2, ldB_iff.2 ⟨by simp only; omega, by simp only; omega, by simp only; omega⟩⟩) (fun u hu => ?_) (fun u hu => ?_) h
  · rw [ask_snoc, ask_snoc]
    have := Int.mul_le_mul_of_nonneg_right hc (ceil_nonneg (t := u) (T := t) (by omega) (by omega))
    simp only; omega
  · rw [due_snoc, due_snoc]
    have := Int.mul_le_mul_of_nonneg_right hc (cnt_nonneg (D := d) (t := u) (T := t) (by omega))
    simp only; omega
/-- Work without slack: where so much fits, less of it does. -/
theorem fit_tighter {l : List Sec} {c c' T : Int} (h : fitB (l ++ [⟨c', c', T⟩]) = true) (h0 : 1 ≤ c) (hc : c ≤ c') : fitB (l ++ [⟨c, c, T⟩]) = true := by
  have hl := fit_lds h
  obtain ⟨h1, h2, h3⟩ := lds_snoc.1 hl
  have hx := ldB_iff.1 h3
  simp only at hx
  have hl' : ldsB (l ++ [⟨c, c, T⟩]) = true := lds_snoc.2 ⟨h1, h2, ldB_iff.2 ⟨by simp only; omega, by simp only; omega, by simp only; omega⟩⟩
  refine fit_of (tOk_less hl' (fun u hu => ?_) (fit_iff.1 h).1) (fun u hu => ?_)
  · rw [ask_snoc, ask_snoc]
    have := Int.mul_le_mul_of_nonneg_right hc (ceil_nonneg (t := u) (T := T) (by omega) (by omega))
    simp only; omega
  · rw [due_snoc]
    simp only
    by_cases hu' : u < c
    · rw [cnt_ahead hu', Int.mul_zero]
      have := fit_due (fit_front h) (t := u) (by omega)
      omega
    · have e : cntD c T u = (u - c) / T + 1 := by unfold cntD; rw [if_neg hu']
      rw [e]
      generalize hk : (u - c) / T = k
      have k0 : 0 ≤ k := by rw [← hk]; exact dv_nonneg (by omega) (by omega)
      have k1 : k * T ≤ u - c := by rw [← hk]; exact Int.ediv_mul_le _ (by omega)
      have m1 : c * k ≤ c' * k := Int.mul_le_mul_of_nonneg_right hc k0
      have ex : ∀ a : Int, a * (k + 1) = a * k + a := fun a => by rw [Int.mul_add]; omega
      by_cases hb : c' + k * T ≤ u
      · have f := fit_due h (t := u) (by omega)
        rw [due_snoc] at f
        simp only at f
        have g : k + 1 ≤ cntD c' T u := by
          have : cntD c' T u = (u - c') / T + 1 := by
            have : 0 ≤ k * T := Int.mul_nonneg k0 (by omega)
            unfold cntD; rw [if_neg (by omega)]
          have : k ≤ (u - c') / T := by rw [Int.le_ediv_iff_mul_le (by omega)]; omega
          omega
        have := mul_le' (a := c') (by omega) g
        rw [ex] at *
        omega
      · have f := fit_due h (t := c' + k * T) (by have : 0 ≤ k * T := Int.mul_nonneg k0 (by omega); omega)
        rw [due_snoc] at f
        simp only at f
        have g : cntD c' T (c' + k * T) = k + 1 := by
          have : 0 ≤ k * T := Int.mul_nonneg k0 (by omega)
          unfold cntD; rw [if_neg (by omega), show c' + k * T - c' = k * T by omega, Int.mul_ediv_cancel _ (by omega)]
        rw [g] at f
        have := due_mono h2 (s := u) (t := c' + k * T) (by omega)
        rw [ex] at *
        omega

-- the greatest
def grN (p : Nat → Bool) : Nat → Nat
  | 0 => 0
  | n + 1 => if p (n + 1) then n + 1 else grN p n
theorem gr_le (p : Nat → Bool) (n : Nat) : grN p n ≤ n := by
  induction n with
  | zero => simp [grN]
  | succ n ih => simp only [grN]; split <;> omega
theorem gr_is (p : Nat → Bool) (n : Nat) : (grN p n = 0 ∨ p (grN p n) = true) ∧ ∀ c, grN p n < c → c ≤ n → p c = false := by
  induction n with
  | zero => exact ⟨.inl rfl, fun c h1 h2 => by omega⟩
  | succ n ih =>
    simp only [grN]
    split
    · rename_i h; exact ⟨.inr h, fun c h1 h2 => by omega⟩
    · rename_i h
      refine ⟨ih.1, fun c h1 h2 => ?_⟩
      by_cases e : c = n + 1
      · subst e; simpa using h
      · exact ih.2 c h1 (by omega)
/-- It is the greatest, however it was found. -/
theorem gr_eq {p : Nat → Bool} {n g : Nat} (h0 : g ≤ n) (h1 : g = 0 ∨ p g = true) (h2 : ∀ c, g < c → c ≤ n → p c = false) : grN p n = g := by
  obtain ⟨a, b⟩ := gr_is p n
  have c := gr_le p n
  rcases Nat.lt_trichotomy (grN p n) g with h | h | h
  · have := b g h h0
    rcases h1 with h1 | h1
    · omega
    · rw [h1] at this; cases this
  · exact h
  · have := h2 _ h c
    rcases a with a | a
    · omega
    · rw [a] at this; cases this
def Falls (p : Nat → Bool) : Prop := ∀ a b, 1 ≤ a → a ≤ b → p b = true → p a = true
theorem gr_below {p : Nat → Bool} (h : Falls p) {n c : Nat} (h1 : 1 ≤ c) (h2 : c ≤ grN p n) : p c = true := by
  rcases (gr_is p n).1 with a | a
  · omega
  · exact h c _ h1 h2 a
/-- As a search finds it. -/
theorem gr_search {p : Nat → Bool} (h : Falls p) {n g : Nat} (h0 : g ≤ n) (h1 : g = 0 ∨ p g = true) (h2 : g = n ∨ p (g + 1) = false) : grN p n = g := by
  refine gr_eq h0 h1 fun c a b => ?_
  rcases h2 with h2 | h2
  · omega
  · cases e : p c
    · rfl
    · rw [h (g + 1) c (by omega) (by omega) e] at h2; cases h2
theorem gr_none {p : Nat → Bool} {n : Nat} (h : ∀ c, 1 ≤ c → c ≤ n → p c = false) : grN p n = 0 := gr_eq (by omega) (.inl rfl) (fun c a b => h c (by omega) b)
theorem gr_all {p : Nat → Bool} {n : Nat} (h : n = 0 ∨ p n = true) : grN p n = n := gr_eq (by omega) h (fun c a b => by omega)
theorem gr_less {p q : Nat → Bool} {n m : Nat} (hn : n ≤ m) (h : ∀ c, 1 ≤ c → p c = true → q c = true) : grN p n ≤ grN q m := by
  rcases (gr_is p n).1 with a | a
  · omega
  · refine Classical.byContradiction fun hc => ?_
    have h1 := gr_le p n
    have := (gr_is q m).2 (grN p n) (by omega) (by omega)
    by_cases e : grN p n = 0
    · omega
    · rw [h _ (by omega) a] at this; cases this
def pFit (l : List Sec) (d t : Int) (c : Nat) : Bool := fitB (l ++ [⟨c, d, t⟩])
def pTight (l : List Sec) (t : Int) (c : Nat) : Bool := fitB (l ++ [⟨c, c, t⟩])
theorem pFit_falls (l : List Sec) (d t : Int) : Falls (pFit l d t) := fun a b h1 h2 h => fit_smaller h (by omega) (by omega)
theorem pTight_falls (l : List Sec) (t : Int) : Falls (pTight l t) := fun a b h1 h2 h => fit_tighter h (by omega) (by omega)
def mayFit (l : List Sec) (d t : Int) : Bool := decide (l.length ≤ 23) && decide (1 ≤ d) && decide (d ≤ t) && decide (t ≤ 200)
def mostV (l : List Sec) (d t top : Int) : Int := if mayFit l d t then (grN (pFit l d t) (min top d).toNat : Nat) else 0
def tightV (l : List Sec) (t top : Int) : Int := if mayFit l 1 t then (grN (pTight l t) (min top t).toNat : Nat) else 0
theorem pFit_front {l : List Sec} {d t : Int} {c : Nat} (h : pFit l d t c = true) : fitB l = true := fit_front h
theorem pTight_front {l : List Sec} {t : Int} {c : Nat} (h : pTight l t c = true) : fitB l = true := fit_front h
theorem most_unfit {l : List Sec} (h : fitB l = false) (d t top : Int) : mostV l d t top = 0 := by
  unfold mostV
  split
  · rw [gr_none]; rfl
    intro c _ _
    cases e : pFit l d t c
    · rfl
    · rw [pFit_front e] at h; cases h
  · rfl
theorem tight_unfit {l : List Sec} (h : fitB l = false) (t top : Int) : tightV l t top = 0 := by
  unfold tightV
  split
  · rw [gr_none]; rfl
    intro c _ _
    cases e : pTight l t c
    · rfl
    · rw [pTight_front e] at h; cases h
  · rfl

-- what hangs on what is asked and due alone
theorem same_time {l m : List Sec} (hl : ldsB l = ldsB m) (he : l.isEmpty = m.isEmpty) (ha : ∀ t, askL l t = askL m t) : tOk l = tOk m ∧ tN l = tN m := by
  have : tmF l = tmF m := by unfold tmF; simp only [ha]
  unfold tOk tN
  rw [this, hl, he]
  exact ⟨rfl, rfl⟩
theorem same_over {l m : List Sec} (h : tN l = tN m) (hd : ∀ t, dueL l t = dueL m t) : oOk l = oOk m ∧ oN l = oN m := by
  have : ovF l = ovF m := by unfold ovF; simp only [h, hd]
  unfold oOk oN
  rw [this]
  exact ⟨rfl, rfl⟩
theorem same_fit {l m : List Sec} (h : tOk l = tOk m) (h' : oOk l = oOk m) : fitB l = fitB m := by unfold fitB; rw [h, h']
theorem rot_ask (l : List Sec) (k : Nat) (t : Int) : askL (l.drop k ++ l.take k) t = askL l t := by
  conv => rhs; rw [← List.take_append_drop k l]
  rw [askL_append, askL_append]; omega
theorem rot_due (l : List Sec) (k : Nat) (t : Int) : dueL (l.drop k ++ l.take k) t = dueL l t := by
  conv => rhs; rw [← List.take_append_drop k l]
  rw [dueL_append, dueL_append]; omega
theorem rot_lds (l : List Sec) (k : Nat) : ldsB (l.drop k ++ l.take k) = ldsB l := by
  conv => rhs; rw [← List.take_append_drop k l]
  unfold ldsB
  rw [List.all_append, List.all_append, List.length_append, List.length_append, Bool.and_comm (l.drop k |>.all ldB), Nat.add_comm]
theorem rot_empty (l : List Sec) (k : Nat) : (l.drop k ++ l.take k).isEmpty = l.isEmpty := by
  rw [Bool.eq_iff_iff, List.isEmpty_iff, List.isEmpty_iff]
  constructor
  · intro h
    have : (l.drop k ++ l.take k).length = 0 := by rw [h]; rfl
    rw [List.length_append, List.length_drop, List.length_take] at this
    exact List.length_eq_zero_iff.1 (by omega)
  · rintro rfl; simp
theorem rot_all (l : List Sec) (k : Nat) : (tOk (l.drop k ++ l.take k) = tOk l ∧ tN (l.drop k ++ l.take k) = tN l) ∧ (oOk (l.drop k ++ l.take k) = oOk l ∧ oN (l.drop k ++ l.take k) = oN l) ∧ fitB (l.drop k ++ l.take k) = fitB l := by
  have h1 := same_time (rot_lds l k) (rot_empty l k) (rot_ask l k)
  have h2 := same_over h1.2 (rot_due l k)
  exact ⟨h1, h2, same_fit h1.1 h2.1⟩
theorem time_more {l : List Sec} {x : Sec} (h : tOk (l ++ [x]) = true) : tOk l = true ∧ tN l < tN (l ++ [x]) := by
  have hl := tOk_lds h
  obtain ⟨h1, h2, h3⟩ := lds_snoc.1 hl
  have hx := ldB_iff.1 h3
  obtain ⟨a, b, c, d⟩ := time_ok h (by simp)
  by_cases hne : l = []
  · subst hne; exact ⟨time_nil.1, by rw [time_nil.2]; exact a⟩
  rw [ask_snoc] at c
  have := mul_le' (a := x.res) (by omega) (ceil_pos (T := x.len) (t := tN (l ++ [x])) (by omega) (by omega))
  obtain ⟨p, q, r, s, u⟩ := time_le (lds_front hl) hne a b (by omega)
  refine ⟨p, ?_⟩
  by_cases e : tN l = tN (l ++ [x])
  · rw [e] at s; omega
  · omega
def sumC : List Sec → Int
  | [] => 0
  | s :: r => s.res + sumC r
theorem sumC_append (l m : List Sec) : sumC (l ++ m) = sumC l + sumC m := by
  induction l with
  | nil => simp [sumC]
  | cons s r ih => simp only [List.cons_append, sumC, ih]; omega
theorem sumC_take {l : List Sec} {k : Nat} {s : Sec} (h : l[k]? = some s) : sumC (l.take (k + 1)) = sumC (l.take k) + s.res := by
  obtain ⟨hk, rfl⟩ := List.getElem?_eq_some_iff.1 h
  rw [List.take_succ_eq_append_getElem hk, sumC_append]
  simp [sumC]
theorem sum_ask {l : List Sec} (h : ∀ s ∈ l, ldB s = true) {t : Int} (ht : 1 ≤ t) : sumC l ≤ askL l t := by
  induction l with
  | nil => simp [sumC, askL]
  | cons x r ih =>
    have hx := ldB_iff.1 (h x (by simp))
    have := ih (fun y hy => h y (by simp [hy]))
    have := mul_le' (a := x.res) (by omega) (ceil_pos (T := x.len) (by omega) ht)
    simp only [sumC, askL]; omega
theorem sum_time {l : List Sec} (h : tOk l = true) : sumC l ≤ tN l ∧ askL l (tN l) = tN l := by
  by_cases hne : l = []
  · subst hne; simp [sumC, askL, time_nil.2]
  · obtain ⟨a, b, c, d⟩ := time_ok h hne
    have := sum_ask (ldsB_all (tOk_lds h)) (t := tN l) (by omega)
    omega
/-- Loads of one distance T, each due within it: together as one. -/
theorem one_ask {l : List Sec} {T : Int} (h : ∀ s ∈ l, s.len = T) (t : Int) : askL l t = sumC l * ceilD t T := by
  induction l with
  | nil => simp [askL, sumC]
  | cons x r ih =>
    have := ih (fun y hy => h y (by simp [hy]))
    simp only [askL, sumC]; rw [h x (by simp), this, Int.add_mul]
theorem one_due {l : List Sec} {D T : Int} (h : ∀ s ∈ l, s.len = T ∧ s.pos = D) (t : Int) : dueL l t = sumC l * cntD D T t := by
  induction l with
  | nil => simp [dueL, sumC]
  | cons x r ih =>
    have := ih (fun y hy => h y (by simp [hy]))
    simp only [dueL, sumC]; rw [(h x (by simp)).1, (h x (by simp)).2, this, Int.add_mul]
/-- Of one distance: busy just for the sum, if that is at most the distance. -/
theorem one_time {l : List Sec} {T : Int} (hl : ldsB l = true) (hne : l ≠ []) (h : ∀ s ∈ l, s.len = T) (hs : sumC l ≤ T) : tOk l = true ∧ tN l = sumC l := by
  have hT : 1 ≤ T ∧ T ≤ 200 := by
    cases l with
    | nil => exact absurd rfl hne
    | cons x r =>
      have := ldB_iff.1 (ldsB_all hl x (by simp))
      have := h x (by simp)
      omega
  have h1 := sum_ask (ldsB_all hl) (t := 1) (by omega)
  have h2 := ask_pos (ldsB_all hl) hne (t := 1) (by omega)
  rw [one_ask h, ceil_one (by omega) (by omega)] at h1 h2
  refine time_found hl hne (by omega) (by omega) ?_ ?_
  · rw [one_ask h, ceil_one (by omega) (by omega)]; omega
  · intro s a b
    rw [one_ask h, ceil_one (by omega) (by omega)]; omega
theorem one_never {l : List Sec} {T : Int} (hl : ldsB l = true) (hne : l ≠ []) (h : ∀ s ∈ l, s.len = T) (hs : T < sumC l) : tOk l = false ∧ tN l = 0 := by
  have hT : 1 ≤ T ∧ T ≤ 200 := by
    cases l with
    | nil => exact absurd rfl hne
    | cons x r =>
      have := ldB_iff.1 (ldsB_all hl x (by simp))
      have := h x (by simp)
      omega
  refine time_lost hl hne fun s a b => ?_
  rw [one_ask h]
  have h1 : ceilD s T * T ≥ s := by
    unfold ceilD
    have := Int.ediv_mul_le (-s) (b := T) (by omega)
    rw [Int.neg_mul]; omega
  have h0 := ceil_pos (t := s) (T := T) (by omega) (by omega)
  have := Int.mul_le_mul_of_nonneg_right (show T + 1 ≤ sumC l by omega) (show 0 ≤ ceilD s T by omega)
  rw [Int.add_mul, Int.mul_comm T] at this
  omega
-- END
end Go.Proofs.YtakdliecjfeedaaGreatDoor
