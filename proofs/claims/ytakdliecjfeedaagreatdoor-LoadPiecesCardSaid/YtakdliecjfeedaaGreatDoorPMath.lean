/- Plain mathematics of pieces: how many loads there are, whose each of them is. -/
import Derived.Test.YtakdliecjfeedaaGreatDoorOpen13
namespace Go.Proofs.YtakdliecjfeedaaGreatDoor
open Go Go.RowKit

def sumN : List Nat → Nat
  | [] => 0
  | x :: l => x + sumN l
theorem sumN_take {l : List Nat} {k x : Nat} (h : l[k]? = some x) : sumN (l.take (k + 1)) = sumN (l.take k) + x := by
  induction l generalizing k with
  | nil => simp at h
  | cons y l ih =>
    cases k with
    | zero => simp at h; subst h; simp [sumN]
    | succ k =>
      have := ih (k := k) (by simpa using h)
      simp only [List.take_succ_cons, sumN]
      omega
theorem sumN_le (l : List Nat) (k : Nat) : sumN (l.take k) ≤ sumN l := by
  induction l generalizing k with
  | nil => simp
  | cons y l ih =>
    cases k with
    | zero => simp [sumN]
    | succ k => have := ih k; simp only [List.take_succ_cons, sumN]; omega
def lens (rows : List (List Sec)) : List Nat := rows.map List.length
theorem len_add {rows : List (List Sec)} {i : Nat} (s : Sec) (h : i < rows.length) : sumN (lens (addAt rows i s)) = sumN (lens rows) + 1 := by
  unfold addAt lens
  induction rows generalizing i with
  | nil => simp at h
  | cons r rows ih =>
    cases i with
    | zero => simp [sumN]; omega
    | succ i =>
      have := ih (i := i) (by simpa using h)
      simp only [List.modify_succ_cons, List.map_cons, sumN]
      omega
theorem len_lay {X : TV} {W k : Int} {N : Nat} {m : List Pc} (hm : onB N m = true) : ∀ {rows : List (List Sec)}, rows.length = N → sumN (lens (layL X W k rows m)) = sumN (lens rows) + m.length := by
  induction m with
  | nil => intro rows _; rfl
  | cons p m ih =>
    intro rows hr
    have h0 := onB_all hm p (by simp)
    have h1 : onB N m = true := by
      unfold onB at hm ⊢
      simp only [List.all_cons, Bool.and_eq_true] at hm
      exact hm.2
    simp only [layL, List.length_cons]
    rw [ih h1 (by rw [addAt_length, hr]), len_add _ (by omega)]
    omega
theorem len_none (N : Nat) : sumN (lens (List.replicate N [])) = 0 := by
  induction N with
  | zero => rfl
  | succ N ih =>
    rw [List.replicate_succ]
    show 0 + sumN (lens (List.replicate N [])) = 0
    omega
def plens (ps : List PV) : List Nat := ps.map fun p => p.m.length
variable {N q : Nat} {l : List TV} {ps : List PV}
/-- As many loads as pieces. -/
theorem len_all (K : Kn13 N l q ps) (la : Int) (res : List Int) (n : Nat) (hn : n ≤ q) : sumN (lens (allL la res l ps (List.replicate N []) n)) = sumN ((plens ps).take n) := by
  induction n with
  | zero => simp only [allL]; rw [len_none]; rfl
  | succ n ih =>
    obtain ⟨x, hx⟩ : ∃ x, l[n]? = some x := ⟨_, List.getElem?_eq_getElem (by rw [K.lq]; omega)⟩
    obtain ⟨p, hp⟩ : ∃ x, ps[n]? = some x := ⟨_, List.getElem?_eq_getElem (by rw [K.len]; omega)⟩
    rw [allL_succ hx hp, len_lay (K.all p (List.mem_of_getElem? hp)).2 (by rw [allL_length, List.length_replicate]), ih (by omega), sumN_take (x := p.m.length) (by unfold plens; rw [List.getElem?_map, hp]; rfl)]
/-- What lies on a core. -/
theorem mem_lay {X : TV} {W kd : Int} {c : Nat} {x : Sec} {m : List Pc} : ∀ {rows : List (List Sec)} {r : List Sec}, (layL X W kd rows m)[c]? = some r → x ∈ r → (∃ r', rows[c]? = some r' ∧ x ∈ r') ∨ ∃ (e : Nat) (p : Pc), m[e]? = some p ∧ p.core.toNat = c ∧ x = askOf X W kd p := by
  induction m with
  | nil => intro rows r h hx; exact .inl ⟨r, h, hx⟩
  | cons p m ih =>
    intro rows r h hx
    simp only [layL] at h
    rcases ih h hx with ⟨r', h1, h2⟩ | ⟨e, p', h1, h2, h3⟩
    · unfold addAt at h1
      rw [List.getElem?_modify] at h1
      cases h3 : rows[c]? with
      | none => rw [h3] at h1; simp at h1
      | some q =>
        rw [h3] at h1
        simp at h1
        split at h1
        · rename_i hc
          subst h1
          rcases List.mem_append.1 h2 with h2 | h2
          · exact .inl ⟨q, rfl, h2⟩
          · simp at h2
            exact .inr ⟨0, p, rfl, hc, h2⟩
        · subst h1
          exact .inl ⟨q, rfl, h2⟩
    · exact .inr ⟨e + 1, p', by simpa using h1, h2, h3⟩
/-- Whose it is. -/
theorem mem_all (K : Kn13 N l q ps) (la : Int) (res : List Int) {c : Nat} {x : Sec} (n : Nat) (hn : n ≤ q) : ∀ {r : List Sec}, (allL la res l ps (List.replicate N []) n)[c]? = some r → x ∈ r → ∃ (i : Nat) (X : TV) (pv : PV) (e : Nat) (p : Pc), i < n ∧ l[i]? = some X ∧ ps[i]? = some pv ∧ pv.m[e]? = some p ∧ p.core = c ∧ x = ⟨p.c + (if pv.k = 1 then waitV la res l i else 0), p.len, X.t⟩ := by
  induction n with
  | zero =>
    intro r h hx
    simp only [allL] at h
    rw [List.getElem?_replicate] at h
    split at h
    · simp at h; subst h; simp at hx
    · cases h
  | succ n ih =>
    intro r h hx
    obtain ⟨X, hX⟩ : ∃ x, l[n]? = some x := ⟨_, List.getElem?_eq_getElem (by rw [K.lq]; omega)⟩
    obtain ⟨pv, hp⟩ : ∃ x, ps[n]? = some x := ⟨_, List.getElem?_eq_getElem (by rw [K.len]; omega)⟩
    rw [allL_succ hX hp] at h
    rcases mem_lay h hx with ⟨r', h1, h2⟩ | ⟨e, p, h1, h2, h3⟩
    · obtain ⟨i, X', pv', e, p, a, b⟩ := ih (by omega) h1 h2
      exact ⟨i, X', pv', e, p, by omega, b⟩
    · have hok := K.ok n X pv hX hp
      have hon := onB_all hok.2.1 p (List.mem_of_getElem? h1)
      refine ⟨n, X, pv, e, p, by omega, hX, hp, h1, by omega, ?_⟩
      rw [h3]
      unfold askOf
      by_cases hk : pv.k = 1
      · rw [if_pos hk, if_pos hk]
        obtain ⟨a, b⟩ := hok.2.2 hk p (List.mem_of_getElem? h1)
        rw [a, b]
      · rw [if_neg hk, if_neg hk, Int.add_zero]
theorem sumN_bd {l : List Nat} (h : ∀ x ∈ l, x ≤ 1000) : sumN l ≤ 1000 * l.length := by
  induction l with
  | nil => simp [sumN]
  | cons x l ih =>
    have a := ih fun y hy => h y (by simp [hy])
    have b := h x (by simp)
    simp only [sumN, List.length_cons]
    omega
theorem plens_bd (K : Kn13 N l q ps) (hq : q ≤ 12) : sumN (plens ps) ≤ 24000 := by
  have h := sumN_bd (l := plens ps) (fun x hx => by
    unfold plens at hx
    obtain ⟨p, hp, rfl⟩ := List.mem_map.1 hx
    exact (K.all p hp).1)
  have e : (plens ps).length = q := by unfold plens; rw [List.length_map, K.len]
  omega
end Go.Proofs.YtakdliecjfeedaaGreatDoor
