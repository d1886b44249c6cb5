/- A heap of things by keys, in plain lists: its order, what rising and sinking do to it. -/
namespace Go.Proofs.Ytbfbijfedamgaaa

/-- A thing with its key: two numbers and when it was put. -/
structure Ent (α : Type) where
  v : α
  a : Int
  b : Int
  t : Int

section
variable {α : Type}

/-- x stands ahead of y. -/
def Lt (x y : Ent α) : Prop := x.a < y.a ∨ x.a = y.a ∧ (x.b < y.b ∨ x.b = y.b ∧ x.t < y.t)
/-- y does not stand ahead of x. -/
def Le (x y : Ent α) : Prop := ¬ Lt y x

theorem Le.refl (x : Ent α) : Le x x := by unfold Le Lt; omega
theorem Le.trans {x y z : Ent α} (h : Le x y) (g : Le y z) : Le x z := by unfold Le Lt at *; omega
theorem Lt.le {x y : Ent α} (h : Lt x y) : Le x y := by unfold Le Lt at *; omega

/-- Le at two places, where both are. -/
def At (es : List (Ent α)) (i j : Nat) : Prop := ∀ x y, es[i]? = some x → es[j]? = some y → Le x y

/-- Each one stands behind the one above it. -/
def Heap (es : List (Ent α)) : Prop := ∀ j, 0 < j → At es ((j - 1) / 2) j
/-- So but for the one at i. -/
def Near (es : List (Ent α)) (i : Nat) : Prop := (∀ j, 0 < j → j ≠ i → (j - 1) / 2 ≠ i → At es ((j - 1) / 2) j) ∧ (0 < i → ∀ j, 0 < j → (j - 1) / 2 = i → At es ((i - 1) / 2) j)
/-- So but for those below the one at i. -/
def Down (es : List (Ent α)) (i : Nat) : Prop := (∀ j, 0 < j → (j - 1) / 2 ≠ i → At es ((j - 1) / 2) j) ∧ (0 < i → ∀ j, 0 < j → (j - 1) / 2 = i → At es ((i - 1) / 2) j)

/-- Two change places. -/
def swp (es : List (Ent α)) (i j : Nat) : List (Ent α) :=
  match es[i]?, es[j]? with
  | some x, some y => (es.set i y).set j x
  | _, _ => es

theorem swp_eq {es : List (Ent α)} {i j : Nat} {x y : Ent α} (hi : es[i]? = some x) (hj : es[j]? = some y) : swp es i j = (es.set i y).set j x := by
  unfold swp; rw [hi, hj]
theorem swp_length (es : List (Ent α)) (i j : Nat) : (swp es i j).length = es.length := by
  unfold swp; split <;> simp
theorem swp_perm (es : List (Ent α)) (i j : Nat) : (swp es i j).Perm es := by
  unfold swp
  split
  · rename_i x y hx hy
    obtain ⟨hi, rfl⟩ := List.getElem?_eq_some_iff.1 hx
    obtain ⟨hj, rfl⟩ := List.getElem?_eq_some_iff.1 hy
    exact List.set_set_perm hi hj
  · exact List.Perm.refl _
theorem lt_of_some {es : List (Ent α)} {i : Nat} {x : Ent α} (h : es[i]? = some x) : i < es.length := (List.getElem?_eq_some_iff.1 h).1
theorem swp_get {es : List (Ent α)} {i j : Nat} {x y : Ent α} (hi : es[i]? = some x) (hj : es[j]? = some y) (k : Nat) :
    (swp es i j)[k]? = if k = j then some x else if k = i then some y else es[k]? := by
  rw [swp_eq hi hj, List.getElem?_set, List.getElem?_set]
  have li := lt_of_some hi
  have lj := lt_of_some hj
  simp only [List.length_set]
  by_cases h1 : j = k
  · subst h1; simp [lj]
  · by_cases h2 : i = k
    · subst h2; simp [h1, li, Ne.symm h1]
    · simp [h1, h2, Ne.symm h1, Ne.symm h2]

/-- RISING: the one at i stands ahead of the one above it: they change places. -/
theorem near_rise {es : List (Ent α)} {i : Nat} {x y : Ent α} (hn : Near es i) (h0 : 0 < i) (hi : es[i]? = some x) (hp : es[(i - 1) / 2]? = some y) (_hlt : Lt x y) :
    Near (swp es i ((i - 1) / 2)) ((i - 1) / 2) := by
  obtain ⟨n1, n2⟩ := hn
  have g := swp_get hi hp
  constructor
  · intro j hj hne hne2 u v hu hv
    rw [g] at hu hv
    by_cases e1 : j = i
    · subst e1; exact absurd rfl hne2
    · rw [if_neg hne, if_neg e1] at hv
      by_cases e2 : (j - 1) / 2 = i
      · rw [if_neg (by omega), if_pos e2] at hu
        cases hu
        exact n2 h0 j hj e2 _ _ hp hv
      · rw [if_neg hne2, if_neg e2] at hu
        exact n1 j hj e1 e2 _ _ hu hv
  · intro hp0 j hj hjp u v hu hv
    rw [g] at hu hv
    rw [if_neg (by omega), if_neg (by omega)] at hu
    have up : Le u y := n1 ((i - 1) / 2) hp0 (by omega) (by omega) _ _ hu hp
    by_cases e1 : j = i
    · subst e1; rw [if_neg (by omega), if_pos rfl] at hv; cases hv; exact up
    · rw [if_neg (by omega), if_neg e1] at hv
      have : Le y v := n1 j hj e1 (by omega) y v (by rw [hjp]; exact hp) hv
      exact up.trans this

theorem near_down {es : List (Ent α)} {i : Nat} (hn : Near es i) (h : i = 0 ∨ At es ((i - 1) / 2) i) : Down es i := by
  obtain ⟨n1, n2⟩ := hn
  refine ⟨fun j hj hne => ?_, n2⟩
  by_cases e : j = i
  · subst e
    rcases h with h | h
    · omega
    · exact h
  · exact n1 j hj e hne

/-- SINKING: the one at i changes places with the one at c below it, which is the first of those below and stands ahead of it. -/
theorem down_sink {es : List (Ent α)} {i c : Nat} {x y : Ent α} (hd : Down es i) (hc0 : 0 < c) (hc : (c - 1) / 2 = i) (hi : es[i]? = some x) (hy : es[c]? = some y) (hlt : Lt y x)
    (hle : ∀ j, 0 < j → (j - 1) / 2 = i → At es c j) : Down (swp es i c) c := by
  obtain ⟨n1, n2⟩ := hd
  have g := swp_get hi hy
  constructor
  · intro j hj hne u v hu hv
    rw [g] at hu hv
    rw [if_neg hne] at hu
    by_cases e1 : (j - 1) / 2 = i
    · rw [if_pos e1] at hu
      cases hu
      by_cases e2 : j = c
      · rw [if_pos e2] at hv; cases hv; exact hlt.le
      · rw [if_neg e2, if_neg (by omega)] at hv
        exact hle j hj e1 _ _ hy hv
    · rw [if_neg e1] at hu
      by_cases e2 : j = i
      · subst e2
        rw [if_neg (by omega), if_pos rfl] at hv
        cases hv
        exact n2 (by omega) c hc0 hc _ _ hu hy
      · rw [if_neg (by omega), if_neg e2] at hv
        exact n1 j hj e1 _ _ hu hv
  · intro _ j hj hjc u v hu hv
    rw [g] at hu hv
    rw [if_neg (by omega), if_pos hc] at hu
    cases hu
    rw [if_neg (by omega), if_neg (by omega)] at hv
    exact n1 j hj (by omega) _ _ (by rw [hjc]; exact hy) hv

theorem down_heap {es : List (Ent α)} {i : Nat} (hd : Down es i) (h : ∀ j, 0 < j → (j - 1) / 2 = i → At es i j) : Heap es := by
  intro j hj
  by_cases e : (j - 1) / 2 = i
  · rw [e]; exact h j hj e
  · exact hd.1 j hj e

/-- The first one stands ahead of all. -/
theorem heap_first {es : List (Ent α)} (h : Heap es) {x : Ent α} (h0 : es[0]? = some x) : ∀ (j : Nat) (y : Ent α), es[j]? = some y → Le x y := by
  intro j
  induction j using Nat.strongRecOn with
  | ind j ih =>
    intro y hy
    by_cases e : j = 0
    · subst e; rw [h0] at hy; cases hy; exact Le.refl _
    · have lj := lt_of_some hy
      have hp : (j - 1) / 2 < es.length := by omega
      have := ih ((j - 1) / 2) (by omega) _ (List.getElem?_eq_getElem hp)
      exact this.trans (h j (by omega) _ _ (List.getElem?_eq_getElem hp) hy)

/-- A key that turned, one that is new at the end: but for it a heap. -/
theorem near_set {es : List (Ent α)} (h : Heap es) (i : Nat) (x : Ent α) : Near (es.set i x) i := by
  constructor
  · intro j hj hne hne2 u v hu hv
    rw [List.getElem?_set_ne (by omega)] at hu hv
    exact h j hj u v hu hv
  · intro hi j hj hji u v hu hv
    rw [List.getElem?_set_ne (by omega)] at hu hv
    have lj := lt_of_some hv
    have hl : i < es.length := by omega
    have a := h i hi _ _ hu (List.getElem?_eq_getElem hl)
    have b := h j hj _ _ (by rw [hji]; exact List.getElem?_eq_getElem hl) hv
    exact a.trans b
theorem near_snoc {es : List (Ent α)} (h : Heap es) (x : Ent α) : Near (es ++ [x]) es.length := by
  constructor
  · intro j hj hne hne2 u v hu hv
    have lj := lt_of_some hv
    simp at lj
    rw [List.getElem?_append_left (by omega)] at hu hv
    exact h j hj u v hu hv
  · intro hi j hj hji u v hu hv
    have lj := lt_of_some hv
    simp at lj
    omega
theorem heap_take {es : List (Ent α)} (h : Heap es) (n : Nat) : Heap (es.take n) := by
  intro j hj u v hu hv
  have lj := lt_of_some hv
  simp at lj
  rw [List.getElem?_take_of_lt (by omega)] at hu hv
  exact h j hj u v hu hv
theorem heap_nil : Heap ([] : List (Ent α)) := by intro j _ u v hu; simp at hu

/-- The first one of many. -/
def IsFirst (l : List (Ent α)) (x : Ent α) : Prop := x ∈ l ∧ ∀ y ∈ l, Le x y
theorem IsFirst.perm {l m : List (Ent α)} {x : Ent α} (h : IsFirst l x) (p : l.Perm m) : IsFirst m x := ⟨p.mem_iff.1 h.1, fun y hy => h.2 y (p.mem_iff.2 hy)⟩
theorem heap_isFirst {es : List (Ent α)} (h : Heap es) {x : Ent α} (h0 : es[0]? = some x) : IsFirst es x :=
  ⟨List.mem_of_getElem? h0, fun y hy => by obtain ⟨j, hj⟩ := List.getElem?_of_mem hy; exact heap_first h h0 j y hj⟩

/-- Things in the order in which they were put, each once, none later than the last put. -/
structure Items (l : List (Ent α)) (puts : Int) : Prop where
  inc : l.Pairwise (fun x y => x.t < y.t)
  dis : l.Pairwise (fun x y => x.v ≠ y.v)
  low : ∀ x ∈ l, x.t ≤ puts

theorem Items.nil (puts : Int) : Items ([] : List (Ent α)) puts := ⟨.nil, .nil, fun x h => by simp at h⟩
theorem pair_eq {l : List (Ent α)} (h : l.Pairwise (fun x y => x.t < y.t)) {x y : Ent α} (hx : x ∈ l) (hy : y ∈ l) (e : x.t = y.t) : x = y := by
  induction l with
  | nil => simp at hx
  | cons z l ih =>
    rw [List.pairwise_cons] at h
    rcases List.mem_cons.1 hx with h1 | h1
    · rcases List.mem_cons.1 hy with h2 | h2
      · rw [h1, h2]
      · subst h1; have := h.1 y h2; omega
    · rcases List.mem_cons.1 hy with h2 | h2
      · subst h2; have := h.1 x h1; omega
      · exact ih h.2 h1 h2
theorem pair_same {l : List (Ent α)} (h : l.Pairwise (fun x y => x.v ≠ y.v)) {x y : Ent α} (hx : x ∈ l) (hy : y ∈ l) (e : x.v = y.v) : x = y := by
  induction l with
  | nil => simp at hx
  | cons z l ih =>
    rw [List.pairwise_cons] at h
    rcases List.mem_cons.1 hx with h1 | h1
    · rcases List.mem_cons.1 hy with h2 | h2
      · rw [h1, h2]
      · subst h1; exact absurd e (h.1 y h2)
    · rcases List.mem_cons.1 hy with h2 | h2
      · subst h2; exact absurd e.symm (h.1 x h1)
      · exact ih h.2 h1 h2
theorem IsFirst.uniq {l : List (Ent α)} {puts : Int} (h : Items l puts) {x y : Ent α} (hx : IsFirst l x) (hy : IsFirst l y) : x = y := by
  have a := hx.2 y hy.1
  have b := hy.2 x hx.1
  exact pair_eq h.inc hx.1 hy.1 (by unfold Le Lt at a b; omega)

variable [DecidableEq α]
/-- All but v. -/
def less (l : List (Ent α)) (v : α) : List (Ent α) := l.filter (fun x => decide (x.v ≠ v))
theorem mem_less {l : List (Ent α)} {v : α} {x : Ent α} : x ∈ less l v ↔ x ∈ l ∧ x.v ≠ v := by unfold less; simp
theorem less_none {l : List (Ent α)} {v : α} (h : ∀ x ∈ l, x.v ≠ v) : less l v = l := by unfold less; rw [List.filter_eq_self]; intro x hx; simpa using h x hx
theorem Items.less {l : List (Ent α)} {puts : Int} (h : Items l puts) (v : α) : Items (less l v) puts :=
  ⟨h.inc.filter _, h.dis.filter _, fun x hx => h.low x (mem_less.1 hx).1⟩
theorem Items.put {l : List (Ent α)} {puts : Int} (h : Items l puts) (v : α) (a b : Int) : Items (Go.Proofs.Ytbfbijfedamgaaa.less l v ++ [⟨v, a, b, puts + 1⟩]) (puts + 1) := by
  refine ⟨?_, ?_, ?_⟩
  · rw [List.pairwise_append]
    refine ⟨(h.less v).inc, by simp, fun x hx y hy => ?_⟩
    simp at hy; subst hy
    have := (h.less v).low x hx
    show x.t < puts + 1
    omega
  · rw [List.pairwise_append]
    refine ⟨(h.less v).dis, by simp, fun x hx y hy => ?_⟩
    simp at hy; subst hy
    exact (mem_less.1 hx).2
  · intro x hx
    rcases List.mem_append.1 hx with hx | hx
    · have := (h.less v).low x hx; omega
    · simp at hx; subst hx; show puts + 1 ≤ puts + 1; omega
/-- Without the one at i: all but what it is. -/
theorem perm_erase {es l : List (Ent α)} {puts : Int} (hp : es.Perm l) (h : Items l puts) {i : Nat} {x : Ent α} (hi : es[i]? = some x) : (es.eraseIdx i).Perm (less l x.v) := by
  have hd : ∀ y ∈ es, ∀ z ∈ es, y.v = z.v → y = z := fun y hy z hz e => pair_same h.dis (hp.mem_iff.1 hy) (hp.mem_iff.1 hz) e
  have p : (less es x.v).Perm (less l x.v) := hp.filter _
  refine List.Perm.trans ?_ p
  have li := lt_of_some hi
  have hx : es[i] = x := by rw [List.getElem?_eq_getElem li] at hi; exact Option.some.inj hi
  have nd : es.Pairwise (fun x y => x.v ≠ y.v) := (hp.pairwise_iff (fun {a b} h => Ne.symm h)).2 h.dis
  have e : less es x.v = es.eraseIdx i := by
    have es_eq : es = es.take i ++ x :: es.drop (i + 1) := by rw [← hx, List.getElem_cons_drop, List.take_append_drop]
    have e2 : es.eraseIdx i = es.take i ++ es.drop (i + 1) := List.eraseIdx_eq_take_drop_succ _ _
    rw [es_eq] at nd
    rw [List.pairwise_append, List.pairwise_cons] at nd
    obtain ⟨n1, ⟨n2, n3⟩, n4⟩ := nd
    rw [e2]
    have f1 : less (es.take i) x.v = es.take i := less_none fun y hy => n4 y hy x (by simp)
    have f2 : less (es.drop (i + 1)) x.v = es.drop (i + 1) := less_none fun y hy => (n2 y hy).symm
    calc less es x.v = less (es.take i ++ x :: es.drop (i + 1)) x.v := by rw [← es_eq]
      _ = es.take i ++ es.drop (i + 1) := by
        unfold less at *
        rw [List.filter_append, List.filter_cons, f1, f2]
        simp
  rw [e]
theorem perm_set {es l : List (Ent α)} {puts : Int} (hp : es.Perm l) (h : Items l puts) {i : Nat} {x : Ent α} (hi : es[i]? = some x) (y : Ent α) : (es.set i y).Perm (less l x.v ++ [y]) := by
  have li := lt_of_some hi
  have e1 : (es.set i y).Perm (y :: es.eraseIdx i) := by
    rw [List.eraseIdx_eq_take_drop_succ, List.set_eq_take_append_cons_drop, if_pos li]
    exact List.perm_middle
  exact e1.trans (((perm_erase hp h hi).cons y).trans (List.perm_append_singleton y _).symm)
theorem perm_snoc {es l : List (Ent α)} (hp : es.Perm l) {v : α} (hn : ∀ x ∈ l, x.v ≠ v) (y : Ent α) : (es ++ [y]).Perm (less l v ++ [y]) := by
  rw [less_none hn]; exact hp.append_right _
/-- The last one, z, fills the place of the one at i. -/
def fill (es : List (Ent α)) (i : Nat) (z : Ent α) : List (Ent α) := (es.take (es.length - 1)).set i z
omit [DecidableEq α] in
theorem fill_length (es : List (Ent α)) (i : Nat) (z : Ent α) : (fill es i z).length = es.length - 1 := by simp [fill]
omit [DecidableEq α] in
theorem fill_perm {es : List (Ent α)} {i : Nat} {z : Ent α} (hi : i < es.length) (hz : es[es.length - 1]? = some z) : (fill es i z).Perm (es.eraseIdx i) := by
  have hl : es.length - 1 < es.length := by omega
  have e : es = es.take (es.length - 1) ++ [z] := by
    have hz' : es[es.length - 1] = z := by rw [List.getElem?_eq_getElem hl] at hz; exact Option.some.inj hz
    have : es.drop (es.length - 1) = [z] := by rw [List.drop_eq_getElem_cons hl, hz', List.drop_eq_nil_of_le (by omega)]
    rw [← this, List.take_append_drop]
  unfold fill
  have hn : (es.take (es.length - 1)).length = es.length - 1 := by simp
  generalize hm : es.take (es.length - 1) = m at *
  rw [e]
  by_cases h : i = m.length
  · rw [List.set_eq_of_length_le (by omega), h, List.eraseIdx_append_of_length_le (by omega)]
    simp
  · have hi' : i < m.length := by rw [e] at hi; simp at hi; omega
    rw [List.eraseIdx_append_of_lt_length hi']
    have : (m.set i z).Perm (z :: m.eraseIdx i) := by
      rw [List.eraseIdx_eq_take_drop_succ, List.set_eq_take_append_cons_drop, if_pos hi']
      exact List.perm_middle
    exact this.trans (List.perm_append_singleton z _).symm
omit [DecidableEq α] in
theorem fill_near {es : List (Ent α)} (h : Heap es) (i : Nat) (z : Ent α) : Near (fill es i z) i := near_set (heap_take h _) i z
omit [DecidableEq α] in
theorem fill_last {es : List (Ent α)} (h : Heap es) (z : Ent α) : Heap (fill es (es.length - 1) z) := by
  unfold fill; rw [List.set_eq_of_length_le (by simp)]; exact heap_take h _
end
end Go.Proofs.Ytbfbijfedamgaaa
