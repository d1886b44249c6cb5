/- Plain mathematics of loads: what is asked, how long a core is busy, what has to be done. -/
import Derived.Test.YtcgmbfpmcldfdaaGreatDoorSpec
namespace Go.Proofs.YtcgmbfpmcldfdaaGreatDoor
open Go Go.RowKit
-- BODY

/-- A load that may be: res is its C, pos its D, len its T. -/
def ldB (s : Sec) : Bool := loadB s.res s.pos s.len
def ldsB (l : List Sec) : Bool := decide (l.length ≤ 24) && l.all ldB
def ceilD (t T : Int) : Int := -((-t) / T)
def cntD (D T t : Int) : Int := if t < D then 0 else (t - D) / T + 1
def askL : List Sec → Int → Int
  | [], _ => 0
  | s :: r, t => s.res * ceilD t s.len + askL r t
def dueL : List Sec → Int → Int
  | [], _ => 0
  | s :: r, t => s.res * cntD s.pos s.len t + dueL r t

theorem ldB_iff {s : Sec} : ldB s = true ↔ (1 ≤ s.res ∧ s.res ≤ 20000) ∧ (1 ≤ s.len ∧ s.len ≤ 200) ∧ 1 ≤ s.pos ∧ s.pos ≤ s.len := by
  unfold ldB loadB
  simp only [Bool.and_eq_true, inB_iff, and_assoc]
theorem ldsB_all {l : List Sec} (h : ldsB l = true) : ∀ s ∈ l, ldB s = true := by
  unfold ldsB at h
  simp only [Bool.and_eq_true, List.all_eq_true] at h
  exact h.2
theorem ldsB_len {l : List Sec} (h : ldsB l = true) : l.length ≤ 24 := by
  unfold ldsB at h
  simp only [Bool.and_eq_true, decide_eq_true_eq] at h
  exact h.1
theorem ldsB_mk {l : List Sec} (h1 : l.length ≤ 24) (h2 : ∀ s ∈ l, ldB s = true) : ldsB l = true := by
  unfold ldsB
  simp only [Bool.and_eq_true, decide_eq_true_eq, List.all_eq_true]
  exact ⟨h1, h2⟩

-- quotients
theorem dv_add {a b T : Int} (hT : 1 ≤ T) : a / T + b / T ≤ (a + b) / T := by
  rw [Int.le_ediv_iff_mul_le (by omega), Int.add_mul]
  have := Int.ediv_mul_le a (b := T) (by omega)
  have := Int.ediv_mul_le b (b := T) (by omega)
  omega
theorem dv_neg {a T : Int} (hT : 1 ≤ T) (h : a < 0) : a / T ≤ -1 := by
  have := Int.ediv_lt_of_lt_mul (a := a) (b := 0) (c := T) (by omega) (by simpa using h)
  omega
theorem dv_nonneg {a T : Int} (hT : 1 ≤ T) (h : 0 ≤ a) : 0 ≤ a / T := Int.ediv_nonneg h (by omega)
theorem ceil_mono {s t T : Int} (hT : 1 ≤ T) (h : s ≤ t) : ceilD s T ≤ ceilD t T := by
  unfold ceilD
  have := Int.ediv_le_ediv (a := -t) (b := -s) (c := T) (by omega) (by omega)
  omega
theorem ceil_zero (T : Int) : ceilD 0 T = 0 := by unfold ceilD; simp
theorem ceil_nonneg {t T : Int} (hT : 1 ≤ T) (h : 0 ≤ t) : 0 ≤ ceilD t T := by
  have := ceil_mono hT h; rw [ceil_zero] at this; exact this
theorem ceil_pos {t T : Int} (hT : 1 ≤ T) (h : 1 ≤ t) : 1 ≤ ceilD t T := by
  unfold ceilD
  have := dv_neg (a := -t) hT (by omega)
  omega
theorem ceil_le {t T : Int} (hT : 1 ≤ T) (h : 0 ≤ t) : ceilD t T ≤ t := by
  unfold ceilD
  have : -t ≤ (-t) / T := by
    rw [Int.le_ediv_iff_mul_le (by omega)]
    have := Int.mul_le_mul_of_nonneg_left hT h
    rw [Int.neg_mul]; omega
  omega
theorem ceil_add {s t T : Int} (hT : 1 ≤ T) : ceilD (s + t) T ≤ ceilD s T + ceilD t T := by
  unfold ceilD
  have := dv_add (a := -s) (b := -t) hT
  rw [show -(s + t) = -s + -t by omega]
  omega
theorem ceil_long {t T T' : Int} (hT : 1 ≤ T) (h : T ≤ T') (ht : 0 ≤ t) : ceilD t T' ≤ ceilD t T := by
  unfold ceilD
  have h0 : (-t) / T ≤ 0 := by
    have := Int.ediv_le_ediv (a := -t) (b := 0) (c := T) (by omega) (by omega)
    simpa using this
  have : (-t) / T ≤ (-t) / T' := by
    rw [Int.le_ediv_iff_mul_le (by omega)]
    have h1 := Int.ediv_mul_le (-t) (b := T) (by omega)
    have h2 : (-t) / T * T' ≤ (-t) / T * T := Int.mul_le_mul_of_nonpos_left h0 h
    omega
  omega
/-- By its bounds. -/
theorem ceil_eq {t T q : Int} (hT : 1 ≤ T) (h1 : t ≤ q * T) (h2 : (q - 1) * T < t) : ceilD t T = q := by
  unfold ceilD
  have a : -q ≤ (-t) / T := by rw [Int.le_ediv_iff_mul_le (by omega), Int.neg_mul]; omega
  have b : (-t) / T < -q + 1 := by
    rw [Int.ediv_lt_iff_lt_mul (by omega)]
    rw [show -q + 1 = -(q - 1) by omega, Int.neg_mul]; omega
  omega
theorem ceil_one {t T : Int} (h0 : 1 ≤ t) (h : t ≤ T) : ceilD t T = 1 := ceil_eq (by omega) (by omega) (by omega)
theorem cnt_nonneg {D T t : Int} (hT : 1 ≤ T) : 0 ≤ cntD D T t := by
  unfold cntD
  split
  · omega
  · have := dv_nonneg (a := t - D) hT (by omega); omega
theorem cnt_ceil {D T t : Int} (hT : 1 ≤ T) (hD : 1 ≤ D) (h : 0 ≤ t) : cntD D T t ≤ ceilD t T := by
  unfold cntD
  split
  · exact ceil_nonneg hT h
  · unfold ceilD
    have h1 := dv_add (a := t - D) (b := -t) hT
    have h2 := dv_neg (a := (t - D) + -t) hT (by omega)
    omega
theorem cnt_mono {D T s t : Int} (hT : 1 ≤ T) (h : s ≤ t) : cntD D T s ≤ cntD D T t := by
  unfold cntD
  split <;> split
  · omega
  · have := dv_nonneg (a := t - D) hT (by omega); omega
  · omega
  · have := Int.ediv_le_ediv (a := s - D) (b := t - D) (c := T) (by omega) (by omega); omega
theorem cnt_add {D T s t : Int} (hT : 1 ≤ T) (hs : 0 ≤ s) : cntD D T (s + t) ≤ ceilD s T + cntD D T t := by
  have h1 := dv_add (a := s + t - D) (b := -s) hT
  rw [show s + t - D + -s = t - D by omega] at h1
  have h0 := ceil_nonneg hT hs
  unfold ceilD at *
  unfold cntD
  split <;> split
  · omega
  · have := dv_nonneg (a := t - D) hT (by omega); omega
  · have := dv_neg (a := t - D) hT (by omega); omega
  · omega
theorem cnt_long {D D' T T' t : Int} (hT : 1 ≤ T) (h : T ≤ T') (hD : D ≤ D') : cntD D' T' t ≤ cntD D T t := by
  unfold cntD
  split <;> split
  · omega
  · have := dv_nonneg (a := t - D) hT (by omega); omega
  · omega
  · have h1 := Int.ediv_le_ediv (a := t - D') (b := t - D) (c := T') (by omega) (by omega)
    have h0 := dv_nonneg (a := t - D) (T := T') (by omega) (by omega)
    have h2 : (t - D) / T' ≤ (t - D) / T := by
      rw [Int.le_ediv_iff_mul_le (by omega)]
      have h3 := Int.ediv_mul_le (t - D) (b := T') (by omega)
      have h4 := Int.mul_le_mul_of_nonneg_left h h0
      omega
    omega
theorem cnt_zero {D T : Int} (hD : 1 ≤ D) : cntD D T 0 = 0 := by unfold cntD; rw [if_pos (by omega)]
theorem cnt_ahead {D T t : Int} (h : t < D) : cntD D T t = 0 := by unfold cntD; rw [if_pos h]
/-- The next deadline behind t. -/
theorem cnt_next {D T t : Int} (hT : 1 ≤ T) : t < D + T * cntD D T t := by
  unfold cntD
  split
  · simpa
  · have := Int.lt_ediv_add_one_mul_self (t - D) (b := T) (by omega)
    rw [Int.mul_comm]; omega
theorem cnt_still {D T s t : Int} (hT : 1 ≤ T) (h1 : s ≤ t) (h2 : t < D + T * cntD D T s) : cntD D T t = cntD D T s := by
  have h3 := cnt_mono (D := D) hT h1
  have : cntD D T t ≤ cntD D T s := by
    by_cases hl : t < D
    · rw [cnt_ahead hl]; exact cnt_nonneg hT
    · have : (t - D) / T < cntD D T s := by
        rw [Int.ediv_lt_iff_lt_mul (by omega), Int.mul_comm]; omega
      have e : cntD D T t = (t - D) / T + 1 := by unfold cntD; rw [if_neg hl]
      omega
  omega

-- sums
theorem askL_append (l m : List Sec) (t : Int) : askL (l ++ m) t = askL l t + askL m t := by
  induction l with
  | nil => simp [askL]
  | cons s r ih => simp only [List.cons_append, askL, ih]; omega
theorem dueL_append (l m : List Sec) (t : Int) : dueL (l ++ m) t = dueL l t + dueL m t := by
  induction l with
  | nil => simp [dueL]
  | cons s r ih => simp only [List.cons_append, dueL, ih]; omega
theorem askL_take {l : List Sec} {k : Nat} {s : Sec} (h : l[k]? = some s) (t : Int) : askL (l.take (k + 1)) t = askL (l.take k) t + s.res * ceilD t s.len := by
  obtain ⟨hk, rfl⟩ := List.getElem?_eq_some_iff.1 h
  rw [List.take_succ_eq_append_getElem hk, askL_append]
  simp [askL]
theorem dueL_take {l : List Sec} {k : Nat} {s : Sec} (h : l[k]? = some s) (t : Int) : dueL (l.take (k + 1)) t = dueL (l.take k) t + s.res * cntD s.pos s.len t := by
  obtain ⟨hk, rfl⟩ := List.getElem?_eq_some_iff.1 h
  rw [List.take_succ_eq_append_getElem hk, dueL_append]
  simp [dueL]
theorem mul_le' {a b c : Int} (ha : 0 ≤ a) (h : b ≤ c) : a * b ≤ a * c := Int.mul_le_mul_of_nonneg_left h ha
theorem ask_mono {l : List Sec} (h : ∀ s ∈ l, ldB s = true) {s t : Int} (hst : s ≤ t) : askL l s ≤ askL l t := by
  induction l with
  | nil => simp [askL]
  | cons x r ih =>
    have hx := ldB_iff.1 (h x (by simp))
    have := ih (fun y hy => h y (by simp [hy]))
    have := mul_le' (a := x.res) (by omega) (ceil_mono (T := x.len) (by omega) hst)
    simp only [askL]; omega
theorem due_mono {l : List Sec} (h : ∀ s ∈ l, ldB s = true) {s t : Int} (hst : s ≤ t) : dueL l s ≤ dueL l t := by
  induction l with
  | nil => simp [dueL]
  | cons x r ih =>
    have hx := ldB_iff.1 (h x (by simp))
    have := ih (fun y hy => h y (by simp [hy]))
    have := mul_le' (a := x.res) (by omega) (cnt_mono (D := x.pos) (T := x.len) (by omega) hst)
    simp only [dueL]; omega
theorem due_ask {l : List Sec} (h : ∀ s ∈ l, ldB s = true) {t : Int} (ht : 0 ≤ t) : dueL l t ≤ askL l t := by
  induction l with
  | nil => simp [dueL, askL]
  | cons x r ih =>
    have hx := ldB_iff.1 (h x (by simp))
    have := ih (fun y hy => h y (by simp [hy]))
    have := mul_le' (a := x.res) (by omega) (cnt_ceil (D := x.pos) (T := x.len) (by omega) (by omega) ht)
    simp only [dueL, askL]; omega
theorem due_nonneg {l : List Sec} (h : ∀ s ∈ l, ldB s = true) (t : Int) : 0 ≤ dueL l t := by
  induction l with
  | nil => simp [dueL]
  | cons x r ih =>
    have hx := ldB_iff.1 (h x (by simp))
    have := ih (fun y hy => h y (by simp [hy]))
    have := Int.mul_nonneg (a := x.res) (b := cntD x.pos x.len t) (by omega) (cnt_nonneg (by omega))
    simp only [dueL]; omega
theorem ask_zero (l : List Sec) : askL l 0 = 0 := by
  induction l with
  | nil => rfl
  | cons x r ih => simp [askL, ih, ceil_zero]
theorem ask_nonneg {l : List Sec} (h : ∀ s ∈ l, ldB s = true) {t : Int} (ht : 0 ≤ t) : 0 ≤ askL l t := by
  have := ask_mono h ht; rw [ask_zero] at this; exact this
theorem due_zero {l : List Sec} (h : ∀ s ∈ l, ldB s = true) : dueL l 0 = 0 := by
  induction l with
  | nil => rfl
  | cons x r ih =>
    have hx := ldB_iff.1 (h x (by simp))
    have := ih (fun y hy => h y (by simp [hy]))
    simp only [dueL]; rw [cnt_zero (by omega)]; omega
theorem ask_pos {l : List Sec} (h : ∀ s ∈ l, ldB s = true) (hl : l ≠ []) {t : Int} (ht : 1 ≤ t) : 1 ≤ askL l t := by
  cases l with
  | nil => exact absurd rfl hl
  | cons x r =>
    have hx := ldB_iff.1 (h x (by simp))
    have := ask_nonneg (l := r) (fun y hy => h y (by simp [hy])) (t := t) (by omega)
    have := mul_le' (a := x.res) (by omega) (ceil_pos (T := x.len) (by omega) ht)
    simp only [askL]; omega
theorem ask_bd {l : List Sec} (h : ∀ s ∈ l, ldB s = true) {t : Int} (ht : 0 ≤ t) (ht2 : t ≤ 20000) : askL l t ≤ 400000000 * l.length := by
  induction l with
  | nil => simp [askL]
  | cons x r ih =>
    have hx := ldB_iff.1 (h x (by simp))
    have := ih (fun y hy => h y (by simp [hy]))
    have a := ceil_le (T := x.len) (by omega) ht
    have b := ceil_nonneg (T := x.len) (by omega) ht
    have : x.res * ceilD t x.len ≤ 20000 * 20000 := Int.mul_le_mul (by omega) (by omega) b (by omega)
    simp only [askL, List.length_cons]; omega
theorem ask_add {l : List Sec} (h : ∀ s ∈ l, ldB s = true) {s t : Int} : askL l (s + t) ≤ askL l s + askL l t := by
  induction l with
  | nil => simp [askL]
  | cons x r ih =>
    have hx := ldB_iff.1 (h x (by simp))
    have := ih (fun y hy => h y (by simp [hy]))
    have := mul_le' (a := x.res) (by omega) (ceil_add (s := s) (t := t) (T := x.len) (by omega))
    rw [Int.mul_add] at this
    simp only [askL]; omega
theorem due_add {l : List Sec} (h : ∀ s ∈ l, ldB s = true) {s t : Int} (hs : 0 ≤ s) : dueL l (s + t) ≤ askL l s + dueL l t := by
  induction l with
  | nil => simp [dueL, askL]
  | cons x r ih =>
    have hx := ldB_iff.1 (h x (by simp))
    have := ih (fun y hy => h y (by simp [hy]))
    have := mul_le' (a := x.res) (by omega) (cnt_add (D := x.pos) (t := t) (T := x.len) (by omega) hs)
    rw [Int.mul_add] at this
    simp only [dueL, askL]; omega

-- the busy time
def tmF (l : List Sec) : Option Nat := (List.range 20001).find? (fun n => decide (0 < n) && decide (askL l n = n))
def tOk (l : List Sec) : Bool := ldsB l && (l.isEmpty || (tmF l).isSome)
def tN (l : List Sec) : Int := if ldsB l && !l.isEmpty then (((tmF l).getD 0 : Nat) : Int) else 0
/-- Up to t more is asked than there is time. -/
def Up (l : List Sec) (t : Int) : Prop := ∀ s, 0 < s → s < t → s < askL l s
theorem Up.one (l : List Sec) : Up l 1 := fun s h1 h2 => by omega
theorem Up.le {l : List Sec} {t : Int} (h : Up l t) (hl : ldsB l = true) (hne : l ≠ []) (ht : 1 ≤ t) : t ≤ askL l t := by
  by_cases h1 : t = 1
  · subst h1; exact ask_pos (ldsB_all hl) hne (by omega)
  · have := h (t - 1) (by omega) (by omega)
    have := ask_mono (ldsB_all hl) (s := t - 1) (t := t) (by omega)
    omega
theorem Up.next {l : List Sec} {t : Int} (h : Up l t) (hl : ldsB l = true) (hne : l ≠ []) (ht : 1 ≤ t) (h' : askL l t ≠ t) : t < askL l t ∧ Up l (askL l t) := by
  have h1 := h.le hl hne ht
  refine ⟨by omega, fun s hs1 hs2 => ?_⟩
  by_cases hst : s < t
  · exact h s hs1 hst
  · have := ask_mono (ldsB_all hl) (s := t) (t := s) (by omega)
    omega
theorem time_found {l : List Sec} {n : Int} (hl : ldsB l = true) (hne : l ≠ []) (h0 : 0 < n) (h1 : n ≤ 20000) (h : askL l n = n) (hu : Up l n) : tOk l = true ∧ tN l = n := by
  obtain ⟨k, rfl⟩ : ∃ k : Nat, n = k := ⟨n.toNat, by omega⟩
  have hf : tmF l = some k := by
    unfold tmF
    rw [List.find?_range_eq_some]
    refine ⟨by simp [h]; omega, by simp; omega, fun j hj => ?_⟩
    simp only [Bool.not_eq_true', Bool.and_eq_false_iff, decide_eq_false_iff_not]
    by_cases hj0 : 0 < j
    · right; have := hu j (by omega) (by omega); omega
    · left; omega
  have he : l.isEmpty = false := by cases l with | nil => exact absurd rfl hne | cons => rfl
  unfold tOk tN
  rw [hf, hl, he]
  simp
theorem time_lost {l : List Sec} (hl : ldsB l = true) (hne : l ≠ []) (hu : Up l 20001) : tOk l = false ∧ tN l = 0 := by
  have hf : tmF l = none := by
    unfold tmF
    rw [List.find?_eq_none]
    intro j hj
    simp at hj
    by_cases hj0 : 0 < j
    · have := hu j (by omega) (by omega); simp; omega
    · simp; omega
  have he : l.isEmpty = false := by cases l with | nil => exact absurd rfl hne | cons => rfl
  unfold tOk tN
  rw [hf, hl, he]
  simp
theorem time_bad {l : List Sec} (hl : ldsB l = false) : tOk l = false ∧ tN l = 0 := by unfold tOk tN; rw [hl]; simp
theorem time_nil : tOk [] = true ∧ tN [] = 0 := by unfold tOk tN; simp [ldsB]
theorem tOk_lds {l : List Sec} (h : tOk l = true) : ldsB l = true := by
  unfold tOk at h; simp only [Bool.and_eq_true] at h; exact h.1
/-- The least time at which no more is asked than there is: all is done just then. -/
theorem least {l : List Sec} (hl : ldsB l = true) (hne : l ≠ []) : ∀ (n : Nat), 0 < n → askL l n ≤ n → ∃ k : Int, 0 < k ∧ k ≤ n ∧ askL l k = k ∧ Up l k := by
  intro n
  induction n using Nat.strongRecOn with
  | ind n ih =>
    intro h0 h
    by_cases hu : Up l n
    · have := hu.le hl hne (by omega)
      exact ⟨n, by omega, by omega, by omega, hu⟩
    · unfold Up at hu
      have : ∃ s : Int, 0 < s ∧ s < n ∧ askL l s ≤ s := by
        refine Classical.byContradiction fun hc => hu fun s h1 h2 => ?_
        refine Classical.byContradiction fun h3 => hc ⟨s, h1, h2, by omega⟩
      obtain ⟨s, h1, h2, h3⟩ := this
      obtain ⟨k, hk1, hk2, hk3, hk4⟩ := ih s.toNat (by omega) (by omega) (by rw [show ((s.toNat : Nat) : Int) = s by omega]; exact h3)
      exact ⟨k, hk1, by omega, hk3, hk4⟩
theorem time_le {l : List Sec} {n : Int} (hl : ldsB l = true) (hne : l ≠ []) (h0 : 0 < n) (h1 : n ≤ 20000) (h : askL l n ≤ n) : tOk l = true ∧ 0 < tN l ∧ tN l ≤ n ∧ askL l (tN l) = tN l ∧ Up l (tN l) := by
  obtain ⟨k, a, b, c, d⟩ := least hl hne n.toNat (by omega) (by rw [show ((n.toNat : Nat) : Int) = n by omega]; exact h)
  obtain ⟨e, f⟩ := time_found hl hne a (by omega) c d
  rw [f]
  exact ⟨e, a, by omega, c, d⟩
theorem time_ok {l : List Sec} (h : tOk l = true) (hne : l ≠ []) : 0 < tN l ∧ tN l ≤ 20000 ∧ askL l (tN l) = tN l ∧ Up l (tN l) := by
  have hl := tOk_lds h
  by_cases hu : Up l 20001
  · have := (time_lost hl hne hu).1; rw [h] at this; cases this
  · have : ∃ s : Int, 0 < s ∧ s < 20001 ∧ askL l s ≤ s := by
      refine Classical.byContradiction fun hc => hu fun s h1 h2 => ?_
      refine Classical.byContradiction fun h3 => hc ⟨s, h1, h2, by omega⟩
    obtain ⟨s, h1, h2, h3⟩ := this
    obtain ⟨a, b, c, d, e⟩ := time_le hl hne h1 (by omega) h3
    exact ⟨b, by omega, d, e⟩
theorem time_no {l : List Sec} (h : tOk l = false) (hl : ldsB l = true) : l ≠ [] ∧ Up l 20001 := by
  have hne : l ≠ [] := by rintro rfl; rw [time_nil.1] at h; cases h
  refine ⟨hne, fun s h1 h2 => ?_⟩
  refine Classical.byContradiction fun h3 => ?_
  have := (time_le hl hne h1 (by omega) (by omega)).1
  rw [h] at this; cases this
theorem tN_no {l : List Sec} (h : tOk l = false) : tN l = 0 := by
  cases hl : ldsB l
  · exact (time_bad hl).2
  · obtain ⟨a, b⟩ := time_no h hl
    exact (time_lost hl a b).2
theorem tN_bd (l : List Sec) : 0 ≤ tN l ∧ tN l ≤ 20000 := by
  cases h : tOk l
  · rw [tN_no h]; omega
  · by_cases hne : l = []
    · subst hne; rw [time_nil.2]; omega
    · have := time_ok h hne; omega

-- what has to be done
def ovF (l : List Sec) : Option Nat := (List.range 20001).find? (fun t => decide (0 < t) && decide ((t : Int) ≤ tN l) && decide ((t : Int) < dueL l t))
def oOk (l : List Sec) : Bool := (ovF l).isSome
def oN (l : List Sec) : Int := (((ovF l).getD 0 : Nat) : Int)
def fitB (l : List Sec) : Bool := tOk l && !oOk l
def Fine (l : List Sec) (t : Int) : Prop := ∀ s, 0 < s → s < t → dueL l s ≤ s
theorem over_found {l : List Sec} {n : Int} (h0 : 0 < n) (h1 : n ≤ tN l) (h : n < dueL l n) (hu : Fine l n) : oOk l = true ∧ oN l = n := by
  have hb := tN_bd l
  obtain ⟨k, rfl⟩ : ∃ k : Nat, n = k := ⟨n.toNat, by omega⟩
  have hf : ovF l = some k := by
    unfold ovF
    rw [List.find?_range_eq_some]
    refine ⟨by simp only [Bool.and_eq_true, decide_eq_true_eq]; omega, by simp; omega, fun j hj => ?_⟩
    simp only [Bool.not_eq_true', Bool.and_eq_false_iff, decide_eq_false_iff_not]
    by_cases hj0 : 0 < j
    · right; have := hu j (by omega) (by omega); omega
    · left; left; omega
  unfold oOk oN
  rw [hf]
  simp
theorem over_none {l : List Sec} (hu : Fine l (tN l + 1)) : oOk l = false ∧ oN l = 0 := by
  have hf : ovF l = none := by
    unfold ovF
    rw [List.find?_eq_none]
    intro j hj
    simp only [Bool.and_eq_true, decide_eq_true_eq]
    rintro ⟨⟨a, b⟩, c⟩
    have := hu j (by omega) (by omega)
    omega
  unfold oOk oN
  rw [hf]
  simp
theorem over_fine {l : List Sec} (h : oOk l = false) : Fine l (tN l + 1) := by
  intro s h1 h2
  refine Classical.byContradiction fun h3 => ?_
  have hb := tN_bd l
  unfold oOk ovF at h
  rw [Option.isSome_eq_false_iff, Option.isNone_iff_eq_none, List.find?_eq_none] at h
  have := h s.toNat (by simp; omega)
  rw [show ((s.toNat : Nat) : Int) = s by omega] at this
  simp only [Bool.and_eq_true, decide_eq_true_eq] at this
  exact this ⟨⟨by omega, by omega⟩, by omega⟩
theorem oN_no {l : List Sec} (h : oOk l = false) : oN l = 0 := by
  unfold oOk at h
  unfold oN
  rw [Option.isSome_eq_false_iff, Option.isNone_iff_eq_none] at h
  rw [h]; rfl
theorem oN_pos {l : List Sec} (h : oOk l = true) : 0 < oN l ∧ oN l ≤ tN l ∧ oN l < dueL l (oN l) ∧ Fine l (oN l) := by
  have h' := h
  unfold oOk at h'
  obtain ⟨k, hk⟩ := Option.isSome_iff_exists.1 h'
  have e : oN l = k := by unfold oN; rw [hk]; rfl
  unfold ovF at hk
  rw [List.find?_range_eq_some] at hk
  obtain ⟨a, b, c⟩ := hk
  simp only [Bool.and_eq_true, decide_eq_true_eq] at a
  rw [e]
  refine ⟨by omega, a.1.2, a.2, fun s h1 h2 => ?_⟩
  have := c s.toNat (by omega)
  rw [show ((s.toNat : Nat) : Int) = s by omega] at this
  simp only [Bool.not_eq_true', Bool.and_eq_false_iff, decide_eq_false_iff_not] at this
  rcases this with (h | h) | h <;> omega
theorem fit_iff {l : List Sec} : fitB l = true ↔ tOk l = true ∧ Fine l (tN l + 1) := by
  unfold fitB
  simp only [Bool.and_eq_true, Bool.not_eq_true']
  exact ⟨fun ⟨a, b⟩ => ⟨a, over_fine b⟩, fun ⟨a, b⟩ => ⟨a, (over_none b).1⟩⟩
/-- What fits up to its busy time fits at every time. -/
theorem fit_all {l : List Sec} (h : fitB l = true) : ∀ n : Nat, dueL l n ≤ n := by
  obtain ⟨h1, h2⟩ := fit_iff.1 h
  have hl := tOk_lds h1
  by_cases hne : l = []
  · subst hne; intro n; simp [dueL]
  obtain ⟨a, b, c, d⟩ := time_ok h1 hne
  intro n
  induction n using Nat.strongRecOn with
  | ind n ih =>
    by_cases hn : n = 0
    · subst hn; rw [show ((0 : Nat) : Int) = 0 from rfl, due_zero (ldsB_all hl)]; omega
    by_cases hs : (n : Int) ≤ tN l
    · exact h2 n (by omega) (by omega)
    · have k1 := ih ((n : Int) - tN l).toNat (by omega)
      rw [show (((((n : Int) - tN l).toNat : Nat)) : Int) = (n : Int) - tN l by omega] at k1
      have k2 := due_add (ldsB_all hl) (s := tN l) (t := (n : Int) - tN l) (by omega)
      rw [show tN l + ((n : Int) - tN l) = n by omega] at k2
      omega
theorem fit_due {l : List Sec} (h : fitB l = true) {t : Int} (ht : 0 ≤ t) : dueL l t ≤ t := by
  have := fit_all h t.toNat
  rw [show ((t.toNat : Nat) : Int) = t by omega] at this
  exact this
theorem fit_of {l : List Sec} (h : tOk l = true) (hd : ∀ t, 0 < t → dueL l t ≤ t) : fitB l = true := fit_iff.2 ⟨h, fun s h1 _ => hd s h1⟩
theorem fit_lds {l : List Sec} (h : fitB l = true) : ldsB l = true := tOk_lds (fit_iff.1 h).1
theorem fit_nil : fitB [] = true := fit_of time_nil.1 (fun t _ => by simp [dueL]; omega)
theorem tOk_less {l m : List Sec} (hl : ldsB l = true) (ha : ∀ t, 0 < t → askL l t ≤ askL m t) (hm : tOk m = true) : tOk l = true := by
  by_cases hne : l = []
  · subst hne; exact time_nil.1
  have hmne : m ≠ [] := by
    rintro rfl
    have h1 := ask_pos (ldsB_all hl) hne (t := 1) (by omega)
    have h2 := ha 1 (by omega)
    simp [askL] at h2; omega
  obtain ⟨a, b, c, d⟩ := time_ok hm hmne
  exact (time_le hl hne a b (by have := ha (tN m) a; omega)).1
theorem fit_less {l m : List Sec} (hl : ldsB l = true) (ha : ∀ t, 0 < t → askL l t ≤ askL m t) (hd : ∀ t, 0 < t → dueL l t ≤ dueL m t) (hm : fitB m = true) : fitB l = true :=
  fit_of (tOk_less hl ha (fit_iff.1 hm).1) (fun t ht => by have := hd t ht; have := fit_due hm (t := t) (by omega); omega)
-- END
end Go.Proofs.YtcgmbfpmcldfdaaGreatDoor
