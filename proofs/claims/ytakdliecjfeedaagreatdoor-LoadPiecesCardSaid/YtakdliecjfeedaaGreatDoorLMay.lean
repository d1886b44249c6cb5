/- Plain mathematics of load: shares of a core; pieces; what each core is asked. -/
import Derived.Test.YtakdliecjfeedaaGreatDoorBMath2
import Derived.Test.YtakdliecjfeedaaGreatDoorWLong
import Derived.Test.YtakdliecjfeedaaGreatDoorTBegun
import Derived.Test.YtakdliecjfeedaaGreatDoorTsk12
import Derived.Test.YtakdliecjfeedaaGreatDoorRunsZ
namespace Go.Proofs.YtakdliecjfeedaaGreatDoor
open Go Go.RowKit

-- shares
def shareF (c t : Int) : Int := (c * 10000 + t - 1) / t
def shareL : List Sec → Int
  | [] => 0
  | s :: l => shareF s.res s.len + shareL l
/-- By parts it is the same. -/
theorem share_parts {c t : Int} (ht : 1 ≤ t) : shareF c t = c / t * 10000 + ((c % t) * 10000 / t + if 0 < (c % t) * 10000 % t then 1 else 0) := by
  unfold shareF
  have e := Int.mul_ediv_add_emod c t
  generalize c / t = q at *
  generalize c % t = r at *
  subst e
  have e2 := Int.mul_ediv_add_emod (r * 10000) t
  have h0 := Int.emod_nonneg (r * 10000) (b := t) (by omega)
  have h1 := Int.emod_lt_of_pos (r * 10000) (b := t) (by omega)
  generalize r * 10000 / t = a at *
  generalize r * 10000 % t = b at *
  rw [show (t * q + r) * 10000 + t - 1 = (b + t - 1) + t * (q * 10000 + a) by rw [Int.add_mul, Int.mul_add, ← e2, Int.mul_assoc]; omega, Int.add_mul_ediv_left _ _ (by omega)]
  split
  · have : (b + t - 1) / t = 1 := by
      rw [Int.ediv_eq_iff_of_pos (by omega)]; omega
    omega
  · have : (b + t - 1) / t = 0 := Int.ediv_eq_zero_of_lt (by omega) (by omega)
    omega
theorem share_bd {c t : Int} (h0 : 1 ≤ c) (h1 : c ≤ 20000) (ht : 1 ≤ t) : 0 ≤ shareF c t ∧ shareF c t ≤ 200000000 := by
  unfold shareF
  refine ⟨Int.ediv_nonneg (by omega) (by omega), ?_⟩
  refine Int.ediv_le_of_le_mul (by omega) ?_
  have := Int.mul_le_mul_of_nonneg_left ht (show (0 : Int) ≤ 199999999 by omega)
  omega
theorem shareL_bd {l : List Sec} (h : ∀ s ∈ l, ldB s = true) : 0 ≤ shareL l ∧ shareL l ≤ 200000000 * l.length := by
  induction l with
  | nil => simp [shareL]
  | cons s l ih =>
    have a := ih fun x hx => h x (by simp [hx])
    obtain ⟨⟨b1, b2⟩, ⟨b3, _⟩, _⟩ := ldB_iff.1 (h s (by simp))
    have b := share_bd b1 b2 b3
    simp only [shareL, List.length_cons]
    omega
theorem shareL_take {l : List Sec} {k : Nat} {s : Sec} (h : l[k]? = some s) : shareL (l.take (k + 1)) = shareL (l.take k) + shareF s.res s.len := by
  induction l generalizing k with
  | nil => simp at h
  | cons y l ih =>
    cases k with
    | zero => simp at h; subst h; simp [shareL]
    | succ k =>
      have := ih (k := k) (by simpa using h)
      simp only [List.take_succ_cons, shareL]
      omega
theorem shareL_map (l : List Sec) : T.sumL (l.map fun s => shareF s.res s.len) = shareL l := by
  induction l with
  | nil => rfl
  | cons s l ih => simp only [List.map_cons, shareL, T.sumL] at *; omega
theorem share_one {c t n : Int} (h0 : 1 ≤ c) (ht : 1 ≤ t) (hn : 0 ≤ n) : (shareF c t - 1) * n ≤ 10000 * (c * ceilD n t) := by
  have a : (shareF c t - 1) * t ≤ 10000 * c := by
    unfold shareF
    have := Int.ediv_mul_le (c * 10000 + t - 1) (b := t) (by omega)
    rw [Int.sub_mul]
    omega
  have hs : 0 ≤ shareF c t - 1 := by
    have : 1 ≤ shareF c t := by
      unfold shareF
      rw [Int.le_ediv_iff_mul_le (by omega)]
      omega
    omega
  have b : n ≤ t * ceilD n t := by
    unfold ceilD
    have := Int.ediv_mul_le (-n) (b := t) (by omega)
    rw [Int.mul_neg, Int.mul_comm]
    omega
  have c1 := Int.mul_le_mul_of_nonneg_left b hs
  have c2 := Int.mul_le_mul_of_nonneg_right a (ceil_nonneg ht hn)
  rw [← Int.mul_assoc] at c1
  rw [Int.mul_assoc 10000] at c2
  omega
theorem share_all {l : List Sec} (h : ∀ s ∈ l, ldB s = true) {n : Int} (hn : 0 ≤ n) : (shareL l - l.length) * n ≤ 10000 * askL l n := by
  induction l with
  | nil => simp [shareL, askL]
  | cons s l ih =>
    have a := ih fun x hx => h x (by simp [hx])
    obtain ⟨⟨b1, b2⟩, ⟨b3, _⟩, _⟩ := ldB_iff.1 (h s (by simp))
    have b := share_one b1 b3 hn
    simp only [shareL, askL, List.length_cons]
    rw [show shareF s.res s.len + shareL l - ((l.length + 1 : Nat) : Int) = (shareF s.res s.len - 1) + (shareL l - l.length) by omega, Int.add_mul, Int.mul_add]
    omega
/-- What fits asks no more than all of a core, but for what was rounded. -/
theorem share_fit {l : List Sec} (h : fitB l = true) : shareL l ≤ 10000 + l.length := by
  by_cases hne : l = []
  · subst hne; simp [shareL]
  · obtain ⟨h0, _, h2, _⟩ := time_ok (fit_iff.1 h).1 hne
    have a := share_all (ldsB_all (fit_lds h)) (n := tN l) (by omega)
    rw [h2] at a
    have : shareL l - l.length ≤ 10000 := Int.le_of_mul_le_mul_right a h0
    omega

-- pieces
structure Pc where
  core : Int
  off : Int
  len : Int
  c : Int
/-- A plan as it lies: its pieces behind u. -/
structure PV where
  k : Int
  u : Value
  m : List Pc
def onB (co : Int) (m : List Pc) : Bool := m.all fun p => decide (0 ≤ p.core) && decide (p.core < co)
theorem onB_all {co : Int} {m : List Pc} (h : onB co m = true) : ∀ p ∈ m, 0 ≤ p.core ∧ p.core < co := by
  unfold onB at h
  simp only [List.all_eq_true, Bool.and_eq_true, decide_eq_true_eq] at h
  exact h
/-- A load at the end of one of the rows. -/
def addAt (rows : List (List Sec)) (i : Nat) (s : Sec) : List (List Sec) := rows.modify i (· ++ [s])
theorem addAt_length (rows : List (List Sec)) (i : Nat) (s : Sec) : (addAt rows i s).length = rows.length := by simp [addAt]
/-- What a piece asks of its core. -/
def askOf (x : TV) (W k : Int) (p : Pc) : Sec := if k = 1 then ⟨x.c + W, x.d, x.t⟩ else ⟨p.c, p.len, x.t⟩
def layL (x : TV) (W k : Int) (rows : List (List Sec)) : List Pc → List (List Sec)
  | [] => rows
  | p :: m => layL x W k (addAt rows p.core.toNat (askOf x W k p)) m
theorem layL_length (x : TV) (W k : Int) (m : List Pc) : ∀ rows, (layL x W k rows m).length = rows.length := by
  induction m with
  | nil => intro rows; rfl
  | cons p m ih => intro rows; simp only [layL]; rw [ih, addAt_length]
theorem layL_take (x : TV) (W k : Int) {m : List Pc} {j : Nat} {p : Pc} (h : m[j]? = some p) (rows : List (List Sec)) : layL x W k rows (m.take (j + 1)) = addAt (layL x W k rows (m.take j)) p.core.toNat (askOf x W k p) := by
  induction m generalizing j rows with
  | nil => simp at h
  | cons y m ih =>
    cases j with
    | zero => simp at h; subst h; simp [layL]
    | succ j =>
      have := ih (j := j) (by simpa using h) (addAt rows y.core.toNat (askOf x W k y))
      simpa only [List.take_succ_cons, layL] using this
def zipA (a b : List (List Sec)) : List (List Sec) := List.zipWith (· ++ ·) a b
theorem zip_add (a b : List (List Sec)) (i : Nat) (s : Sec) : addAt (zipA a b) i s = zipA a (addAt b i s) := by
  unfold addAt zipA
  induction i generalizing a b with
  | zero => cases a <;> cases b <;> simp
  | succ i ih =>
    cases a with
    | nil => simp
    | cons x a => cases b with
      | nil => simp
      | cons y b => simpa using ih a b
theorem zip_none (a : List (List Sec)) : zipA a (List.replicate a.length []) = a := by
  unfold zipA
  induction a with
  | nil => rfl
  | cons x a ih => simp [List.replicate_succ, ih]
theorem zip_lay (x : TV) (W k : Int) (m : List Pc) : ∀ a b, layL x W k (zipA a b) m = zipA a (layL x W k b m) := by
  induction m with
  | nil => intro a b; rfl
  | cons p m ih => intro a b; simp only [layL]; rw [zip_add, ih]
/-- What is laid behind some is behind them what is laid alone. -/
theorem lay_zip (x : TV) (W k : Int) (m : List Pc) (a : List (List Sec)) : layL x W k a m = zipA a (layL x W k (List.replicate a.length []) m) := by
  rw [← zip_lay, zip_none]
/-- What all tasks ask, by their plans. -/
def allL (la : Int) (res : List Int) (l : List TV) (ps : List PV) (rows : List (List Sec)) : Nat → List (List Sec)
  | 0 => rows
  | n + 1 => match l[n]?, ps[n]? with
    | some x, some p => layL x (waitV la res l n) p.k (allL la res l ps rows n) p.m
    | _, _ => allL la res l ps rows n
theorem allL_length (la : Int) (res : List Int) (l : List TV) (ps : List PV) (rows : List (List Sec)) (n : Nat) : (allL la res l ps rows n).length = rows.length := by
  induction n with
  | zero => rfl
  | succ n ih =>
    simp only [allL]
    split
    · rw [layL_length, ih]
    · exact ih
theorem allL_succ {la : Int} {res : List Int} {l : List TV} {ps : List PV} {n : Nat} {x : TV} {p : PV} (hx : l[n]? = some x) (hp : ps[n]? = some p) (rows : List (List Sec)) : allL la res l ps rows (n + 1) = layL x (waitV la res l n) p.k (allL la res l ps rows n) p.m := by
  simp only [allL, hx, hp]
end Go.Proofs.YtakdliecjfeedaaGreatDoor

/- Rows of loads behind one slice, of the program's own making. -/
namespace Go.Proofs.YtakdliecjfeedaaGreatDoor
open Go Go.RowKit

structure OwnR (w : World) (base : Nat) (v : Value) (us : List Value) (rows : List (List Sec)) : Prop where
  own : w.ownsRow base 51 1 v us.length us
  len : us.length = rows.length
  row : ∀ (i : Nat) (u : Value) (l : List Sec), us[i]? = some u → rows[i]? = some l → OwnL w base u l
  dis : ∀ (i j : Nat) (u u' : Value), us[i]? = some u → us[j]? = some u' → i ≠ j → ∀ k, u.ownBlock = some k → u'.ownBlock ≠ some k
variable {w w' : World} {base : Nat} {v : Value} {us : List Value} {rows : List (List Sec)}
theorem OwnR.below (h : OwnR w base v us rows) (g : Below w.heap.size w w') : OwnR w' base v us rows := ⟨own_below h.own g, h.len, fun i u l hu hl => (h.row i u l hu hl).below g, h.dis⟩
theorem OwnR.drew (h : OwnR w base v us rows) : OwnR w.drew base v us rows := h.below (bdrew _)
theorem OwnR.mono {base' : Nat} (h : OwnR w base v us rows) (hb : base' ≤ base) : OwnR w base' v us rows := ⟨ownT_mono h.own hb, h.len, fun i u l hu hl => (h.row i u l hu hl).mono hb, h.dis⟩
theorem ld_ty : (51 : Nat) ≠ 55 := by decide
theorem OwnR.off (h : OwnR w base v us rows) {i : Nat} {u : Value} {l : List Sec} (hu : us[i]? = some u) (hl : rows[i]? = some l) : ∀ k, u.ownBlock = some k → v.ownBlock ≠ some k :=
  own_ne (h.row i u l hu hl) h.own (Ne.symm ld_ty)
/-- The block of the outer slice. -/
theorem OwnR.at {a : Option Addr} {n cap : Nat} (h : OwnR w base (.slice a n cap) us rows) (hn : 0 < n) : us.length = n ∧ ∃ g cur, a = some ⟨g, 0, none⟩ ∧ base ≤ g ∧ w.heap[g]? = some (.cells cur 51 (0, 0)) ∧ n ≤ cap ∧ cap ≤ 9223372036854775807 ∧ cur.size = cap ∧ cur.toList.take n = us := by
  rcases h.own.2 with ⟨e, hz⟩ | ⟨g, c, cur, e, hb, hh, h1, h2, h3, h4⟩
  · simp only [Value.slice.injEq] at e; omega
  · simp only [Value.slice.injEq] at e
    obtain ⟨rfl, rfl, rfl⟩ := e
    exact ⟨rfl, g, cur, rfl, hb, hh, h1, by unfold maxLen at h2; exact h2, by simpa using h3, by simpa using h4⟩
theorem OwnR.cell {g n cap i : Nat} {u : Value} (h : OwnR w base (.slice (some ⟨g, 0, none⟩) n cap) us rows) (hu : us[i]? = some u) : w.cell? ⟨g, i, none⟩ = some u ∧ w.frozen? ⟨g, i, none⟩ = false ∧ g < w.heap.size := by
  have hl := (List.getElem?_eq_some_iff.1 hu).1
  obtain ⟨e, g', cur, e2, hb, hh, h1, h2, h3, h4⟩ := h.at (by
    obtain ⟨a, c, e⟩ := own_form h.own
    simp only [Value.slice.injEq] at e; omega)
  simp only [Option.some.injEq, Addr.mk.injEq, and_true] at e2
  subst e2
  rw [← h4, List.getElem?_take_of_lt (by omega)] at hu
  refine ⟨?_, ?_, (Array.getElem?_eq_some_iff.1 hh).1⟩
  · simp only [World.cell?, hh]; simpa using hu
  · simp [World.frozen?, hh]
theorem gr_alloc {W w' : World} {o : Obj} {row : Option Nat} (gr : (W.alloc o).grownBy w' row) : W.grownBy w' row :=
  ⟨gr.os, gr.tape, gr.output, by have := gr.size; simp at this; omega, fun k hk hr => (gr.block k (by simp; omega) hr).trans (Below.heap_alloc _ _ _ hk)⟩
/-- One of the rows grows; the slice is stored. -/
theorem OwnR.putW {W : World} {g n cap i : Nat} {u u' : Value} {l l' : List Sec} (h : OwnR W base (.slice (some ⟨g, 0, none⟩) n cap) us rows) (hu : us[i]? = some u) (hl : rows[i]? = some l)
    (hown : OwnL w' base u' l') (gr : W.grownBy w' u.ownBlock) (at' : u'.ownBlock = u.ownBlock ∨ ∃ k, u'.ownBlock = some k ∧ W.heap.size ≤ k) :
    OwnR (w'.setCell ⟨g, i, none⟩ u') base (.slice (some ⟨g, 0, none⟩) n cap) (us.set i u') (rows.set i l') ∧ Below base W (w'.setCell ⟨g, i, none⟩ u') := by
  have hil := (List.getElem?_eq_some_iff.1 hu).1
  have h1 := h.own
  have hg : base ≤ g ∧ g < W.heap.size := by
    have := h.own.lt g rfl
    exact this
  have hune : ∀ k, u.ownBlock = some k → k ≠ g := fun k hk e => h.off hu hl k hk (by rw [e]; rfl)
  have h2 : w'.ownsRow base 51 1 (.slice (some ⟨g, 0, none⟩) n cap) us.length us := own_keep h1 gr (fun k hk hk' => by
    simp [Value.ownBlock] at hk
    exact hune k hk' hk.symm)
  have hun' : ∀ k, u'.ownBlock = some k → k ≠ g := fun k hk e => by
    rcases at' with e2 | ⟨k', e2, hk'⟩
    · exact hune k (by rw [← e2]; exact hk) e
    · rw [e2] at hk; simp at hk; omega
  have on := (Only.refl [g] w').setCell (p := ⟨g, i, none⟩) (by simp) u'
  have bel1 : Below base W w' := ⟨gr.os, gr.tape, gr.output, gr.size, fun k hk => gr.block k (by omega) (fun e => by have := ((h.row i u l hu hl).lt k e.symm).1; omega)⟩
  refine ⟨⟨?_, by rw [List.length_set, List.length_set]; exact h.len, ?_, ?_⟩, ?_⟩
  · rw [List.length_set]
    obtain ⟨f1, f2⟩ := h2
    refine ⟨?_, ?_⟩
    · simp
    · rcases f2 with ⟨e, _⟩ | ⟨g', c, cur, e, hb, hh, k1, k2, k3, k4⟩
      · simp at e
      · simp only [Value.slice.injEq, Option.some.injEq, Addr.mk.injEq] at e
        obtain ⟨⟨rfl, -, -⟩, e3, rfl⟩ := e
        refine .inr ⟨g, cap, cur.setIfInBounds i u', by rw [e3], hb, heap_setCell_same w' g i _ _ u' hh, k1, k2, by simpa using k3, ?_⟩
        have k5 : cur.toList.take us.length = us := by simpa using k4
        simp only [Array.toList_setIfInBounds, Nat.mul_one]
        rw [List.take_set, k5]
  · intro j u2 l2 hj hj2
    by_cases e : i = j
    · subst e
      rw [List.getElem?_set_self hil] at hj
      simp only [Option.some.injEq] at hj
      subst hj
      rw [List.getElem?_set_self (by rw [← h.len]; exact hil)] at hj2
      simp only [Option.some.injEq] at hj2
      subst hj2
      exact own_off hown on (fun k hk => by simp; exact hun' k hk)
    · rw [List.getElem?_set_ne e] at hj
      rw [List.getElem?_set_ne e] at hj2
      have r := h.row j u2 l2 hj hj2
      have r1 : OwnL w' base u2 l2 := own_keep r gr (fun k hk hk' => h.dis i j u u2 hu hj e k hk' hk)
      exact own_off r1 on (fun k hk => by simp; rintro rfl; exact h.off hj hj2 k hk rfl)
  · intro a b u2 u3 ha hb hab k hk
    by_cases ea : i = a
    · subst ea
      rw [List.getElem?_set_self hil] at ha
      simp only [Option.some.injEq] at ha
      subst ha
      rw [List.getElem?_set_ne hab] at hb
      rcases at' with e2 | ⟨k', e2, hk'⟩
      · exact h.dis i b u u3 hu hb hab k (by rw [← e2]; exact hk)
      · intro hk3
        rw [e2] at hk
        simp at hk
        subst hk
        obtain ⟨l3, hl3⟩ : ∃ l3, rows[b]? = some l3 := ⟨_, List.getElem?_eq_getElem (by rw [← h.len]; exact (List.getElem?_eq_some_iff.1 hb).1)⟩
        have := (h.row b u3 l3 hb hl3).lt k' hk3
        omega
    · rw [List.getElem?_set_ne ea] at ha
      by_cases eb : i = b
      · subst eb
        rw [List.getElem?_set_self hil] at hb
        simp only [Option.some.injEq] at hb
        subst hb
        rcases at' with e2 | ⟨k', e2, hk'⟩
        · rw [e2]; exact h.dis a i u2 u ha hu hab k hk
        · intro hk3
          rw [e2] at hk3
          simp at hk3
          subst hk3
          obtain ⟨l3, hl3⟩ : ∃ l3, rows[a]? = some l3 := ⟨_, List.getElem?_eq_getElem (by rw [← h.len]; exact (List.getElem?_eq_some_iff.1 ha).1)⟩
          have := (h.row a u2 l3 ha hl3).lt k' hk
          omega
      · rw [List.getElem?_set_ne eb] at hb
        exact h.dis a b u2 u3 ha hb hab k hk
  · exact bel1.setCell (p := ⟨g, i, none⟩) hg.1 u'
theorem addAt_set {rows : List (List Sec)} {i : Nat} {l : List Sec} (h : rows[i]? = some l) (s : Sec) : addAt rows i s = rows.set i (l ++ [s]) := by
  unfold addAt
  refine List.ext_getElem? fun j => ?_
  by_cases e : i = j
  · subst e
    rw [List.getElem?_modify_eq, h, List.getElem?_set_self (List.getElem?_eq_some_iff.1 h).1]
    rfl
  · rw [List.getElem?_modify, List.getElem?_set_ne e]
    simp [e]
/-- .. of nothing. -/
theorem ownR_made {W : World} (hb : base ≤ W.heap.size) (n : Nat) (hn : n ≤ 1000) : OwnR (W.alloc (.cells (Array.replicate n (.slice none 0 0)) 51)) base (.slice (some ⟨W.heap.size, 0, none⟩) n n) (List.replicate n (.slice none 0 0)) (List.replicate n []) := by
  refine ⟨⟨by simp, .inr ⟨W.heap.size, n, Array.replicate n (.slice none 0 0), by simp, hb, heap_alloc_new _ _, by simp, by unfold maxLen; omega, by simp, by simp⟩⟩, by simp, ?_, ?_⟩
  · intro i u l hu hl
    rw [List.getElem?_replicate] at hu hl
    split at hu
    · rename_i hi
      rw [if_pos hi] at hl
      simp at hu hl
      subst hu hl
      exact World.ownsRow_nil _ _ _ _
    · cases hu
  · intro i j u u' hu hu' _ k hk
    rw [List.getElem?_replicate] at hu
    split at hu
    · simp at hu; subst hu; simp [Value.ownBlock] at hk
    · cases hu
/-- A block that is none of theirs. -/
def Far (v : Value) (us : List Value) (x : Nat) : Prop := v.ownBlock ≠ some x ∧ ∀ u ∈ us, u.ownBlock ≠ some x
theorem OwnR.far (h : OwnR w base v us rows) {x : Nat} (hx : w.heap.size ≤ x) : Far v us x := by
  refine ⟨fun e => by have := (h.own.lt x e).2; omega, fun u hu e => ?_⟩
  obtain ⟨i, hi⟩ := List.mem_iff_getElem?.1 hu
  obtain ⟨l, hl⟩ : ∃ l, rows[i]? = some l := ⟨_, List.getElem?_eq_getElem (by rw [← h.len]; exact (List.getElem?_eq_some_iff.1 hi).1)⟩
  have := ((h.row i u l hi hl).lt x e).2
  omega
/-- Blocks in boxes, rows of one's own; the rest as it was. -/
structure Ly (w0 : World) (bs : List (Nat × Array Value × TypeId)) (v : Value) (us : List Value) (rows : List (List Sec)) (w : World) : Prop where
  blk : ∀ q ∈ bs, Blk w q.1 q.2.1 q.2.2 ∧ Far v us q.1
  own : OwnR w w0.heap.size v us rows
  bel : Below w0.heap.size w0 w
variable {w0 : World} {bs : List (Nat × Array Value × TypeId)}
theorem Ly.below (h : Ly w0 bs v us rows w) (g : Below w.heap.size w w') : Ly w0 bs v us rows w' := ⟨fun q hq => ⟨(h.blk q hq).1.below g, (h.blk q hq).2⟩, h.own.below g, btrans h.bel g⟩
theorem Ly.drew (h : Ly w0 bs v us rows w) : Ly w0 bs v us rows w.drew := h.below (bdrew _)
theorem Ly.alloc (h : Ly w0 bs v us rows w) (cs : Array Value) (t : TypeId) {g : Nat} (hg : w.heap.size = g) : Ly w0 ((g, cs, t) :: bs) v us rows (w.alloc (.cells cs t)) := by
  subst hg
  have g := h.below (balloc w (.cells cs t))
  refine ⟨fun q hq => ?_, g.own, g.bel⟩
  rcases List.mem_cons.1 hq with rfl | hq
  · exact ⟨heap_alloc_new _ _, h.own.far (Nat.le_refl _)⟩
  · exact g.blk q hq
theorem Ly.sub {bs' : List (Nat × Array Value × TypeId)} (h : Ly w0 bs v us rows w) (hs : ∀ q ∈ bs', q ∈ bs) : Ly w0 bs' v us rows w := ⟨fun q hq => h.blk q (hs q hq), h.own, h.bel⟩
theorem Ly.at {g : Nat} {cs : Array Value} {t : TypeId} (h : Ly w0 bs v us rows w) (hq : (g, cs, t) ∈ bs) : Blk w g cs t := (h.blk _ hq).1
/-- A store into one of the boxes. -/
theorem Ly.store {g i : Nat} {cs : Array Value} {t : TypeId} (h : Ly w0 ((g, cs, t) :: bs) v us rows w) (hg : w0.heap.size ≤ g) (hne : ∀ q ∈ bs, q.1 ≠ g) (u : Value) : Ly w0 ((g, cs.setIfInBounds i u, t) :: bs) v us rows (w.setCell ⟨g, i, none⟩ u) := by
  obtain ⟨h1, h2⟩ := h.blk (g, cs, t) (by simp)
  have h1 : Blk w g cs t := h1
  have h2 : Far v us g := h2
  obtain ⟨s1, s2⟩ := Blk.set h1 i u
  refine ⟨fun q hq => ?_, ⟨own_off h.own.own s2 (fun k hk => by simp; rintro rfl; exact h2.1 hk), h.own.len, fun j x l hj hl => own_off (h.own.row j x l hj hl) s2 (fun k hk => by simp; rintro rfl; exact h2.2 x (List.mem_of_getElem? hj) hk), h.own.dis⟩, h.bel.setCell (p := ⟨g, i, none⟩) hg u⟩
  rcases List.mem_cons.1 hq with rfl | hq
  · exact ⟨s1, h2⟩
  · have := h.blk q (by simp [hq])
    exact ⟨this.1.only s2 (by simp; exact hne q hq), this.2⟩
theorem Ly.store3 {g : Nat} {x y z : Value} {t : TypeId} (h : Ly w0 ((g, #[x, y, z], t) :: bs) v us rows w) (hg : w0.heap.size ≤ g) (hne : ∀ q ∈ bs, q.1 ≠ g) (a b c : Value) : Ly w0 ((g, #[a, b, c], t) :: bs) v us rows (((w.setCell ⟨g, 0, none⟩ a).setCell ⟨g, 1, none⟩ b).setCell ⟨g, 2, none⟩ c) := by
  have := ((h.store (i := 0) hg hne a).store (i := 1) hg hne b).store (i := 2) hg hne c
  simpa using this
/-- A row grows, its slice is stored. -/
theorem Ly.putW {W : World} {g n cap i : Nat} {u u' : Value} {l l' : List Sec} (h : Ly w0 bs (.slice (some ⟨g, 0, none⟩) n cap) us rows W) (hu : us[i]? = some u) (hl : rows[i]? = some l)
    (hown : OwnL w' w0.heap.size u' l') (gr : W.grownBy w' u.ownBlock) (at' : u'.ownBlock = u.ownBlock ∨ ∃ k, u'.ownBlock = some k ∧ W.heap.size ≤ k) :
    Ly w0 bs (.slice (some ⟨g, 0, none⟩) n cap) (us.set i u') (rows.set i l') (w'.setCell ⟨g, i, none⟩ u') := by
  obtain ⟨p1, p2⟩ := h.own.putW hu hl hown gr at'
  refine ⟨fun q hq => ?_, p1, h.bel.trans p2⟩
  obtain ⟨b1, f1, f2⟩ := h.blk q hq
  have hq1 := b1.lt
  have hug := f2 u (List.mem_of_getElem? hu)
  have hgq : g ≠ q.1 := fun e => f1 (by rw [e]; rfl)
  refine ⟨?_, f1, fun x hx => ?_⟩
  · unfold Blk at *
    rw [Below.heap_setCell _ _ _ q.1 (by show q.1 ≠ g; exact fun e => hgq e.symm), gr.block q.1 hq1 (fun e => hug e.symm)]
    exact b1
  · rcases List.mem_or_eq_of_mem_set hx with hx | rfl
    · exact f2 x hx
    · rcases at' with e | ⟨k, e, hk⟩
      · rw [e]; exact hug
      · rw [e]; simp; omega
theorem Ly.put {W : World} {o : Obj} {g n cap i : Nat} {u u' : Value} {l l' : List Sec} (h : Ly w0 bs (.slice (some ⟨g, 0, none⟩) n cap) us rows W) (hu : us[i]? = some u) (hl : rows[i]? = some l)
    (hown : OwnL w' w0.heap.size u' l') (gr : (W.alloc o).grownBy w' u.ownBlock) (at' : u'.ownBlock = u.ownBlock ∨ ∃ k, u'.ownBlock = some k ∧ W.heap.size ≤ k) :
    Ly w0 bs (.slice (some ⟨g, 0, none⟩) n cap) (us.set i u') (rows.set i l') (w'.setCell ⟨g, i, none⟩ u') := h.putW hu hl hown (gr_alloc gr) at'
/-- What the outer slice reads behind an append to a row. -/
theorem Ly.kept {W : World} {o : Obj} {g n cap i : Nat} {u : Value} {l : List Sec} (h : Ly w0 bs (.slice (some ⟨g, 0, none⟩) n cap) us rows W) (hu : us[i]? = some u) (hl : rows[i]? = some l) (gr : (W.alloc o).grownBy w' u.ownBlock) :
    w'.cell? ⟨g, i, none⟩ = some u ∧ w'.frozen? ⟨g, i, none⟩ = false ∧ g < w'.heap.size := by
  have h1 : (W.alloc o).ownsRow w0.heap.size 51 1 (.slice (some ⟨g, 0, none⟩) n cap) us.length us := own_below h.own.own (balloc W o)
  have h2 : w'.ownsRow w0.heap.size 51 1 (.slice (some ⟨g, 0, none⟩) n cap) us.length us := own_keep h1 gr (fun k hk hk' => by
    simp [Value.ownBlock] at hk
    exact h.own.off hu hl k hk' (by rw [← hk]; rfl))
  have hil := (List.getElem?_eq_some_iff.1 hu).1
  rcases h2.2 with ⟨e, _⟩ | ⟨g', c, cur, e, hb, hh, k1, k2, k3, k4⟩
  · simp at e
  · simp only [Value.slice.injEq, Option.some.injEq, Addr.mk.injEq] at e
    obtain ⟨⟨rfl, -, -⟩, e3, rfl⟩ := e
    have k5 : cur.toList.take us.length = us := by simpa using k4
    rw [← k5, List.getElem?_take_of_lt hil] at hu
    refine ⟨?_, ?_, (Array.getElem?_eq_some_iff.1 hh).1⟩
    · simp only [World.cell?, hh]; simpa using hu
    · simp [World.frozen?, hh]
/-- .. and the boxes. -/
theorem Ly.keptB {W : World} {o : Obj} {i : Nat} {u : Value} {x : Nat} {cs : Array Value} {t : TypeId} (h : Ly w0 bs v us rows W) (hu : us[i]? = some u) (gr : (W.alloc o).grownBy w' u.ownBlock) (hq : (x, cs, t) ∈ bs) : Blk w' x cs t := by
  obtain ⟨b1, f1, f2⟩ := h.blk _ hq
  have hx := b1.lt
  unfold Blk at *
  rw [gr.block x (by simp; omega) (fun e => f2 u (List.mem_of_getElem? hu) e.symm)]
  exact (Below.heap_alloc _ _ _ hx).trans b1
/-! The same where nothing was laid ahead of the append. -/
theorem own_cap {w : World} {base e z n cap : Nat} {a : Option Addr} {xs : List Value} (h : w.ownsRow base e z (.slice a n cap) n xs) : n ≤ cap := by
  rcases h.2 with ⟨e, _⟩ | ⟨g, c, cur, e, _, _, h1, _⟩
  · simp only [Value.slice.injEq] at e; omega
  · simp only [Value.slice.injEq] at e; omega
theorem Ly.keptBW {W : World} {i : Nat} {u : Value} {q : Nat × Array Value × TypeId} (h : Ly w0 bs v us rows W) (hu : us[i]? = some u) (gr : W.grownBy w' u.ownBlock) (hq : q ∈ bs) : Blk w' q.1 q.2.1 q.2.2 := by
  obtain ⟨b1, f1, f2⟩ := h.blk _ hq
  have hx := b1.lt
  unfold Blk at *
  rw [gr.block q.1 hx (fun e => f2 u (List.mem_of_getElem? hu) e.symm)]
  exact b1
theorem Ly.keptW {W : World} {g n cap i : Nat} {u : Value} {l : List Sec} (h : Ly w0 bs (.slice (some ⟨g, 0, none⟩) n cap) us rows W) (hu : us[i]? = some u) (hl : rows[i]? = some l) (gr : W.grownBy w' u.ownBlock) :
    w'.cell? ⟨g, i, none⟩ = some u ∧ w'.frozen? ⟨g, i, none⟩ = false ∧ g < w'.heap.size := by
  have h2 : w'.ownsRow w0.heap.size 51 1 (.slice (some ⟨g, 0, none⟩) n cap) us.length us := own_keep h.own.own gr (fun k hk hk' => by
    simp [Value.ownBlock] at hk
    exact h.own.off hu hl k hk' (by rw [← hk]; rfl))
  have hil := (List.getElem?_eq_some_iff.1 hu).1
  rcases h2.2 with ⟨e, _⟩ | ⟨g', c, cur, e, hb, hh, k1, k2, k3, k4⟩
  · simp at e
  · simp only [Value.slice.injEq, Option.some.injEq, Addr.mk.injEq] at e
    obtain ⟨⟨rfl, -, -⟩, e3, rfl⟩ := e
    have k5 : cur.toList.take us.length = us := by simpa using k4
    rw [← k5, List.getElem?_take_of_lt hil] at hu
    refine ⟨?_, ?_, (Array.getElem?_eq_some_iff.1 hh).1⟩
    · simp only [World.cell?, hh]; simpa using hu
    · simp [World.frozen?, hh]
/-- One of two may come up. -/
theorem RunsZ.two {P : Program} {md : Region.Mode} {ops : Array Oper} {Q : Exit → Act → World → Prop} {S : World → Prop} {Z : List Nat} {i j : Nat} {oi oj : Oper} {n : Nat} {l : Array Bool} {a : Act} {w : World} (hr : Region.ready md ops l = [i, j]) (hi : ops[i]? = some oi) (hj : ops[j]? = some oj) (wi : Region.wanted oi (yielded ops a.tmps) = true) (wj : Region.wanted oj (yielded ops a.tmps) = true)
    (h1 : ∀ K : Act → World → Prop, Hid (∀ a' w', (i ∉ Z → S w') → RunsZ P md ops Q S Z n (l.setIfInBounds i true) a' w' → K a' w') → oi.wp P a w K Q)
    (h2 : ∀ K : Act → World → Prop, Hid (∀ a' w', (j ∉ Z → S w') → RunsZ P md ops Q S Z n (l.setIfInBounds j true) a' w' → K a' w') → oj.wp P a w K Q) : RunsZ P md ops Q S Z (n + 1) l a w := by
  refine ⟨fun e => (by rw [e] at hr; cases hr), fun k hk => ?_⟩
  rw [hr] at hk
  simp at hk
  rcases hk with rfl | rfl
  · unfold wpOp
    simp only [hi, wi, if_true]
    exact .inl (h1 _ (fun a' w' h1 h2 => ⟨h1, h2⟩))
  · unfold wpOp
    simp only [hj, wj, if_true]
    exact .inl (h2 _ (fun a' w' h1 h2 => ⟨h1, h2⟩))
theorem nth_z {l : List Oper} {i : Nat} {o : Oper} (h : l[i]? = some o) : l.toArray[i]? = some o := by simpa using h
/-- append as a step of its own. -/
theorem wp_append_at {P : Program} (w : World) {o : Oper} {a : Act} {K : Act → World → Prop} {Q : Exit → Act → World → Prop} (s x : Operand) (t : TypeId)
    (ho : o.op = .call { callee := .builtin .append, args := #[s, x], argTypes := #[t, t] })
    (base : Nat) (e : TypeId) (i : TypeInfo) (z : Value) (size bytes : Nat) (ht : P.underlying t = some (.slice e)) (hi : P.info? e = some i) (hz : i.zero = some z)
    (hsize : i.size = size) (hby : i.bytes = bytes) (hzs : z.cells.size = size) (hsz : 0 < size)
    (v : Value) (n : Nat) (xs : List Value) (hs : a.eval s = v) (hown : w.ownsRow base e size v n xs)
    (ad : Addr) (m c : Nat) (news : List Value) (hx : a.eval x = .slice (some ad) m c) (hl : news.length = m * size) (hnews : ∀ j u, news[j]? = some u → w.cell? (ad.add j) = some u) (h1 : ∀ u ∈ news, u.oneCell' = true)
    (h63 : n + m ≤ maxLen) (hbytes : (n + m) * bytes ≤ 140737488355328) (hbase : base ≤ w.heap.size)
    (h : ∀ v' w', w'.ownsRow base e size v' (n + m) (xs ++ news) → w.grownBy w' v.ownBlock → (v'.ownBlock = v.ownBlock ∨ v'.ownBlock = some w.heap.size) → K (a.put o.dst v') w') : o.wp P a w K Q := by
  obtain ⟨v', w', hr, h2, h3, _, h5⟩ := run_append_own_at (P := P) w base t o.type e i z size bytes ht hi hz hsize hby hzs hsz v n xs hown ad m c news hl hnews h1 h63 hbytes hbase
  unfold Oper.wp execOp
  simp only [ho, resolve, invoke, builtin, Sem.run_bind, Sem.run_pure, Result.andThen_ok, List.map_toArray, List.map_cons, List.map_nil, hs, hx, hr]
  exact h v' w' h2 h3 h5
end Go.Proofs.YtakdliecjfeedaaGreatDoor

/- Plans and their pieces in rows of memory. -/
namespace Go.Proofs.YtakdliecjfeedaaGreatDoor
open Go Go.RowKit

def Pcs (w : World) (v : Value) (l : List Pc) : Prop :=
  (l = [] ∧ ∃ a cap, v = .slice a 0 cap) ∨ ∃ b o cap, v = .slice (some ⟨b, o, none⟩) l.length cap ∧ b < w.heap.size ∧ ∀ j x, l[j]? = some x → w.cell? ⟨b, o + j * 4, none⟩ = some (.int .i64 x.core) ∧ w.cell? ⟨b, o + j * 4 + 1, none⟩ = some (.int .i64 x.off) ∧ w.cell? ⟨b, o + j * 4 + 2, none⟩ = some (.int .i64 x.len) ∧ w.cell? ⟨b, o + j * 4 + 3, none⟩ = some (.int .i64 x.c)
variable {w w' : World}
theorem Pcs.below {v : Value} {l : List Pc} (h : Pcs w v l) (g : Below w.heap.size w w') : Pcs w' v l := by
  rcases h with h | ⟨b, o, cap, e, hb, hc⟩
  · exact .inl h
  · refine .inr ⟨b, o, cap, e, Nat.lt_of_lt_of_le hb g.size, fun j x hj => ?_⟩
    obtain ⟨h1, h2, h3, h4⟩ := hc j x hj
    exact ⟨(g.cell (p := ⟨b, _, none⟩) hb).trans h1, (g.cell (p := ⟨b, _, none⟩) hb).trans h2, (g.cell (p := ⟨b, _, none⟩) hb).trans h3, (g.cell (p := ⟨b, _, none⟩) hb).trans h4⟩
/-- .. behind anything that leaves what is elder than B. -/
theorem Pcs.belowB {v : Value} {l : List Pc} {B : Nat} (h : Pcs w v l) (hv : ∀ k, v.ownBlock = some k → k < B) (g : Below B w w') : Pcs w' v l := by
  rcases h with h | ⟨b, o, cap, e, hb, hc⟩
  · exact .inl h
  · refine .inr ⟨b, o, cap, e, Nat.lt_of_lt_of_le hb g.size, fun j x hj => ?_⟩
    have hB : b < B := hv b (by rw [e]; rfl)
    obtain ⟨h1, h2, h3, h4⟩ := hc j x hj
    exact ⟨(g.cell (p := ⟨b, _, none⟩) hB).trans h1, (g.cell (p := ⟨b, _, none⟩) hB).trans h2, (g.cell (p := ⟨b, _, none⟩) hB).trans h3, (g.cell (p := ⟨b, _, none⟩) hB).trans h4⟩
theorem Pcs.form {v : Value} {l : List Pc} (h : Pcs w v l) : ∃ a cap, v = .slice a l.length cap := by
  rcases h with ⟨rfl, a, cap, e⟩ | ⟨b, o, cap, e, _⟩
  · exact ⟨a, cap, e⟩
  · exact ⟨_, _, e⟩
theorem Pcs.at {a : Option Addr} {n cap j : Nat} {l : List Pc} {x : Pc} (h : Pcs w (.slice a n cap) l) (hj : l[j]? = some x) :
    ∃ b o, a = some ⟨b, o, none⟩ ∧ b < w.heap.size ∧ w.cell? ⟨b, o + j * 4, none⟩ = some (.int .i64 x.core) ∧ w.cell? ⟨b, o + j * 4 + 1, none⟩ = some (.int .i64 x.off) ∧ w.cell? ⟨b, o + j * 4 + 2, none⟩ = some (.int .i64 x.len) ∧ w.cell? ⟨b, o + j * 4 + 3, none⟩ = some (.int .i64 x.c) := by
  rcases h with ⟨rfl, _⟩ | ⟨b, o, cap', e, hb, hc⟩
  · simp at hj
  · simp only [Value.slice.injEq] at e
    exact ⟨b, o, e.1, hb, hc j x hj⟩
def Plns (w : World) (v : Value) (l : List PV) : Prop :=
  (l = [] ∧ ∃ a cap, v = .slice a 0 cap) ∨ ∃ b o cap, v = .slice (some ⟨b, o, none⟩) l.length cap ∧ b < w.heap.size ∧ ∀ j x, l[j]? = some x → (w.cell? ⟨b, o + j * 2, none⟩ = some (.int .i64 x.k) ∧ w.cell? ⟨b, o + j * 2 + 1, none⟩ = some x.u) ∧ Pcs w x.u x.m
theorem Plns.below {v : Value} {l : List PV} (h : Plns w v l) (g : Below w.heap.size w w') : Plns w' v l := by
  rcases h with h | ⟨b, o, cap, e, hb, hc⟩
  · exact .inl h
  · refine .inr ⟨b, o, cap, e, Nat.lt_of_lt_of_le hb g.size, fun j x hj => ?_⟩
    obtain ⟨⟨h1, h2⟩, h5⟩ := hc j x hj
    exact ⟨⟨(g.cell (p := ⟨b, _, none⟩) hb).trans h1, (g.cell (p := ⟨b, _, none⟩) hb).trans h2⟩, h5.below g⟩
theorem Plns.form {v : Value} {l : List PV} (h : Plns w v l) : ∃ a cap, v = .slice a l.length cap := by
  rcases h with ⟨rfl, a, cap, e⟩ | ⟨b, o, cap, e, _⟩
  · exact ⟨a, cap, e⟩
  · exact ⟨_, _, e⟩
theorem Plns.at {a : Option Addr} {n cap j : Nat} {l : List PV} {x : PV} (h : Plns w (.slice a n cap) l) (hj : l[j]? = some x) :
    ∃ b o, a = some ⟨b, o, none⟩ ∧ b < w.heap.size ∧ w.cell? ⟨b, o + j * 2, none⟩ = some (.int .i64 x.k) ∧ w.cell? ⟨b, o + j * 2 + 1, none⟩ = some x.u ∧ Pcs w x.u x.m := by
  rcases h with ⟨rfl, _⟩ | ⟨b, o, cap', e, hb, hc⟩
  · simp at hj
  · simp only [Value.slice.injEq] at e
    obtain ⟨⟨h1, h2⟩, h5⟩ := hc j x hj
    exact ⟨b, o, e.1, hb, h1, h2, h5⟩
end Go.Proofs.YtakdliecjfeedaaGreatDoor

/- The contracts of load.mayBe and load.onCores. -/
namespace Go.Proofs.YtakdliecjfeedaaGreatDoor
open Go Go.RowKit

set_option maxHeartbeats 8000000 in
theorem lmay_any (co sy la mo : Int) (v : Value) (res : List Int) (a : Option Addr) (n cap : Nat) (l : List TV) (w : World) (hv : Ints w v res) (hr : res.length ≤ 1000000) (hc : cfgB ⟨co, sy, la, mo, res⟩ = true) (hl : Tks w (.slice a n cap) l) (hn : l.length = n) (n6 : n ≤ 1000000) (hm : ∀ x ∈ l, x.m.length ≤ 1000000) :
    Calls Tryz.prog 42 #[.agg #[.int .i64 co, .int .i64 sy, .int .i64 la, .int .i64 mo, v], .slice a n cap] w fun e w' => e = .returned (.bool (mayV res.length l)) ∧ Below w.heap.size w w' := by
  obtain ⟨av, cv, rfl⟩ := hv.form
  have HV : Hid (Ints w (.slice av res.length cv) res) := hv
  have HL : Hid (Tks w (.slice a n cap) l) := hl
  have HC : Hid (cfgB ⟨co, sy, la, mo, res⟩ = true) := hc
  have HN : Hid (l.length = n) := hn
  have HM : Hid (∀ x ∈ l, x.m.length ≤ 1000000) := hm
  clear hv hl hc hn hm
  by_cases h12 : n ≤ 12
  · go_enter Tryz.func42, Tryz.ntmps42
    have BW : Hid (Below w.heap.size w (w.alloc (.cells #[.int .i64 co, .int .i64 sy, .int .i64 la, .int .i64 mo, .slice av res.length cv] 24))) := balloc _ _
    have cC : Blk (w.alloc (.cells #[.int .i64 co, .int .i64 sy, .int .i64 la, .int .i64 mo, .slice av res.length cv] 24)) w.heap.size #[.int .i64 co, .int .i64 sy, .int .i64 la, .int .i64 mo, .slice av res.length cv] 24 := heap_alloc_new _ _
    go_wp2_with fail
    generalize hW : w.alloc _ = W at BW cC
    have KW : Hid (Blk W w.heap.size #[.int .i64 co, .int .i64 sy, .int .i64 la, .int .i64 mo, .slice av res.length cv] 24) := cC
    have sW : w.heap.size < W.heap.size := cC.lt
    clear hW
    have c0 := cC.cell 0
    have c1 := cC.cell 1
    have c2 := cC.cell 2
    have c3 := cC.cell 3
    have c4 := cC.cell 4
    simp at c0 c1 c2 c3 c4
    clear cC
    refine (rconfig_any co sy la mo _ res W (HV.out.below BW.out) hr).mono ?_
    rintro e W2 ⟨rfl, g2⟩
    rw [HC.out]
    have BW2 : Hid (Below w.heap.size w W2) := btrans BW.out g2
    have KW2 : Hid (Blk W2 w.heap.size #[.int .i64 co, .int .i64 sy, .int .i64 la, .int .i64 mo, .slice av res.length cv] 24) := KW.out.below g2
    have sW2 : w.heap.size < W2.heap.size := KW2.out.lt
    clear g2 BW KW sW
    go_wp2_with fail
    go_loopw [17] (fun i wr => ∃ k : Nat, k ≤ n ∧ i = .int .i64 k ∧ Below W2.heap.size W2 wr ∧ Hid (∀ j x, j < k → l[j]? = some x → tskB res.length x.tsk = true)) (fun i _ => n - (intOf i).toNat)
    case atStart => exact ⟨0, Nat.zero_le _, rfl, Below.refl _ _, fun j x hj => by omega⟩
    case round =>
      obtain ⟨k, hk, rfl, hB, hA⟩ := hrel
      have B : Hid (Below W2.heap.size W2 wr) := hB
      have K := KW2.out.below hB
      have BB : Hid (Below w.heap.size w wr) := BW2.out.trans (hB.mono (by omega))
      have n2 : w.heap.size < wr.heap.size := K.lt
      clear hB
      by_cases hlt : k < n
      · obtain ⟨⟨c, d, t, u, m⟩, hx⟩ : ∃ x, l[k]? = some x := ⟨_, List.getElem?_eq_getElem (by rw [HN.out]; exact hlt)⟩
        obtain ⟨b, o, e, hb, y1, y2, y3, y4, ys⟩ := (HL.out.below BB.out).at hx
        subst e
        simp only at y1 y2 y3 y4 ys
        obtain ⟨a2, cap2, rfl⟩ := ys.form
        have HX : Hid (l[k]? = some ⟨c, d, t, .slice a2 m.length cap2, m⟩) := hx
        have HS : Hid (Secs wr (.slice a2 m.length cap2) m) := ys
        have c0 := K.cell 0
        have c1 := K.cell 1
        have c2 := K.cell 2
        have c3 := K.cell 3
        have c4 := K.cell 4
        simp at c0 c1 c2 c3 c4
        clear hx ys K
        go_wp2_with fail
        refine (rtask_any co sy la mo _ res c d t _ m _ (HV.out.below (btrans BB.out (balloc _ _))) hr (HS.out.below (balloc _ _)) (HM.out _ (List.mem_of_getElem? HX.out))).mono ?_
        rintro e w1 ⟨rfl, g1⟩
        rw [HC.out, Bool.true_and]
        have B1 : Hid (Below W2.heap.size W2 w1) := btrans B.out (btrans (balloc _ _) g1)
        have BB1 : Hid (Below w.heap.size w w1) := btrans BB.out (btrans (balloc _ _) g1)
        clear g1 c0 c1 c2 c3 c4 y1 y2 y3 y4
        cases hb : tskB res.length ⟨c, d, t, m⟩
        · have HR : Hid (mayV res.length l = false) := mayV_bad HX.out hb
          clear hb
          go_wp2_with fail
          go_ret
          exact ⟨ret_bool HR.out.symm, BB1.out⟩
        · have HA2 : Hid (∀ j x, j < k + 1 → l[j]? = some x → tskB res.length x.tsk = true) := fun j x hj hx => by
            by_cases hjk : j = k
            · subst hjk; rw [HX.out] at hx; cases hx; exact hb
            · exact hA.out j x (by omega) hx
          clear hb
          go_wp2_with fail
          go_round
          case rel => exact ⟨k + 1, by omega, by go_num, B1.out, HA2.out⟩
          case measure => simp [intOf]; omega
      · have HR : Hid (mayV res.length l = true) := mayV_done (by rw [HN.out]; exact h12) (by rw [HN.out]; exact hlt) hA.out
        go_wp2_with fail
        go_ret
        exact ⟨ret_bool HR.out.symm, BB.out⟩
  · have HR : Hid (mayV res.length l = false) := by
      unfold Hid mayV
      rw [Bool.and_eq_false_iff]
      exact .inl (by rw [decide_eq_false_iff_not, HN.out]; exact h12)
    go_enter Tryz.func42, Tryz.ntmps42
    go_wp2_with fail
    go_ret
    exact ⟨ret_bool HR.out.symm, balloc _ _⟩
set_option maxHeartbeats 8000000 in
theorem onc_any (co sy la mo : Int) (v : Value) (k : Int) (u : Value) (m : List Pc) (w : World) (hm : m.length ≤ 1000000) (hp : Pcs w u m) :
    Calls Tryz.prog 43 #[.agg #[.int .i64 co, .int .i64 sy, .int .i64 la, .int .i64 mo, v], .agg #[.int .i64 k, u]] w fun e w' => e = .returned (.bool (onB co m)) ∧ Below w.heap.size w w' := by
  obtain ⟨a, cap, rfl⟩ := hp.form
  have HP : Hid (Pcs w (.slice a m.length cap) m) := hp
  obtain ⟨n, hn⟩ : ∃ n, m.length = n := ⟨_, rfl⟩
  have HN : Hid (m.length = n) := hn
  rw [hn] at HP hm ⊢
  have KW0 : Hid (Blk ((w.alloc (.cells #[.int .i64 co, .int .i64 sy, .int .i64 la, .int .i64 mo, v] 24)).alloc (.cells #[.int .i64 k, .slice a n cap] 49)) w.heap.size #[.int .i64 co, .int .i64 sy, .int .i64 la, .int .i64 mo, v] 24) := (show Blk (w.alloc (.cells #[.int .i64 co, .int .i64 sy, .int .i64 la, .int .i64 mo, v] 24)) w.heap.size #[.int .i64 co, .int .i64 sy, .int .i64 la, .int .i64 mo, v] 24 from heap_alloc_new _ _).below (balloc _ _)
  have BW0 : Hid (Below w.heap.size w ((w.alloc (.cells #[.int .i64 co, .int .i64 sy, .int .i64 la, .int .i64 mo, v] 24)).alloc (.cells #[.int .i64 k, .slice a n cap] 49))) := btrans (balloc _ _) (balloc _ _)
  clear hp hn
  go_enter Tryz.func43, Tryz.ntmps43
  go_wp2_with fail
  generalize hW : (w.alloc _).alloc _ = W at KW0 BW0
  clear hW
  go_loopw [10] (fun i wr => ∃ k : Nat, k ≤ n ∧ i = .int .i64 k ∧ Hid (Below W.heap.size W wr) ∧ Hid (∀ j x, j < k → m[j]? = some x → 0 ≤ x.core ∧ x.core < co)) (fun i _ => n - (intOf i).toNat)
  case atStart => exact ⟨0, Nat.zero_le _, rfl, Below.refl _ _, fun j x hj => by omega⟩
  case round =>
    obtain ⟨k, hk, rfl, hB, hA⟩ := hrel
    have B : Hid (Below W.heap.size W wr) := hB
    have K := KW0.out.below hB.out
    have sW := KW0.out.lt
    have BB : Hid (Below w.heap.size w wr) := BW0.out.trans (hB.out.mono (by omega))
    have n2 : w.heap.size < wr.heap.size := K.lt
    clear hB
    have c0 := K.cell 0
    simp at c0
    by_cases hlt : k < n
    · obtain ⟨⟨c, o, ln, cc⟩, hx⟩ : ∃ x, m[k]? = some x := ⟨_, List.getElem?_eq_getElem (by rw [HN.out]; exact hlt)⟩
      obtain ⟨b, ob, e, hb, y1, y2, y3, y4⟩ := (HP.out.below BB.out).at hx
      subst e
      simp only at y1 y2 y3 y4
      have HX : Hid (m[k]? = some ⟨c, o, ln, cc⟩) := hx
      clear hx K
      by_cases h1 : c < 0
      · have HR : Hid (onB co m = false) := by
          unfold Hid onB
          rw [List.all_eq_false]
          exact ⟨_, List.mem_of_getElem? HX.out, by simp; omega⟩
        go_wp2_with fail
        go_ret
        exact ⟨ret_bool HR.out.symm, btrans BB.out (balloc _ _)⟩
      · by_cases h2 : co ≤ c
        · have HR : Hid (onB co m = false) := by
            unfold Hid onB
            rw [List.all_eq_false]
            exact ⟨_, List.mem_of_getElem? HX.out, by simp; omega⟩
          go_wp2_with fail
          go_ret
          exact ⟨ret_bool HR.out.symm, btrans BB.out (balloc _ _)⟩
        · have HA2 : Hid (∀ j x, j < k + 1 → m[j]? = some x → 0 ≤ x.core ∧ x.core < co) := fun j x hj hx => by
            by_cases hjk : j = k
            · subst hjk; rw [HX.out] at hx; cases hx; exact ⟨by show 0 ≤ c; omega, by show c < co; omega⟩
            · exact hA.out j x (by omega) hx
          go_wp2_with fail
          go_round
          case rel => exact ⟨k + 1, by omega, by go_num, btrans B.out (balloc _ _), HA2.out⟩
          case measure => simp [intOf]; omega
    · have HR : Hid (onB co m = true) := by
        unfold Hid onB
        rw [List.all_eq_true]
        intro x hx
        obtain ⟨j, hj, e⟩ := List.getElem_of_mem hx
        have := hA.out j x (by have := HN.out; omega) (by rw [List.getElem?_eq_getElem hj, e])
        simp [this.1, this.2]
      go_wp2_with fail
      go_ret
      exact ⟨ret_bool HR.out.symm, BB.out⟩
end Go.Proofs.YtakdliecjfeedaaGreatDoor
