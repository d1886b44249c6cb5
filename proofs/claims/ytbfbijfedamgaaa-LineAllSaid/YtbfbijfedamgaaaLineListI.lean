/- The line of int by the plain list of its things: what each call makes of that list; its blocks are one list F. -/
import Derived.Test.YtbfbijfedamgaaaLineMoreI
import Derived.Test.YtbfbijfedamgaaaLists
namespace Go.Proofs.Ytbfbijfedamgaaa.LI
open Go.RowKit
variable {w w' : World} {lb hb : Nat} {room puts : Int} {hv av : Value} {A : List (Nat × Int)} {Z : List (Ent (Nat × Int))}
theorem Lines.disZ (h : Lines w lb hb room puts hv av A Z) : Z.Pairwise (fun x y => x.v.2 ≠ y.v.2) := by
  have h1 : (Z.map (·.v)).Pairwise (fun x y => x.2 ≠ y.2) := (h.perm.pairwise_iff (fun e => Ne.symm e)).1 h.dis
  rw [List.pairwise_map] at h1
  exact h1
theorem Lines.itemsHi (h : Lines w lb hb room puts hv av A Z) : Items (Z.map hi) puts := by
  have it := h.items
  refine ⟨?_, ?_, ?_⟩
  · rw [List.pairwise_map]
    have := it.inc
    rw [List.pairwise_map] at this
    exact this
  · rw [List.pairwise_map]
    exact h.disZ
  · intro x hx
    obtain ⟨z, hz, rfl⟩ := List.mem_map.1 hx
    exact it.low (lo z) (List.mem_map.2 ⟨z, hz, rfl⟩)
theorem less_hi {Z : List (Ent (Nat × Int))} (h : Z.Pairwise (fun x y => x.v.2 ≠ y.v.2)) {z : Ent (Nat × Int)} (hz : z ∈ Z) : (less Z z.v).map hi = less (Z.map hi) z.v.2 := by
  unfold less
  rw [List.filter_map]
  congr 1
  apply List.filter_congr
  intro y hy
  rw [Bool.eq_iff_iff]
  simp only [Function.comp, hi, decide_eq_true_eq]
  show y.v ≠ z.v ↔ decide (y.v.2 ≠ z.v.2) = true
  rw [decide_eq_true_eq]
  constructor
  · intro hne e
    obtain ⟨i, hi, rfl⟩ := List.getElem_of_mem hy
    obtain ⟨j, hj, rfl⟩ := List.getElem_of_mem hz
    have key := List.pairwise_iff_getElem.1 h
    rcases Nat.lt_trichotomy i j with q | q | q
    · exact key i j hi hj q e
    · subst q; exact hne rfl
    · exact key j i hj hi q e.symm
  · intro hne e
    exact hne (by rw [e])
theorem Lines.lessHi (h : Lines w lb hb room puts hv av A Z) {p : Nat × Int} (hp : p ∈ A) : (less Z p).map hi = less (Z.map hi) p.2 := by
  obtain ⟨z, hz, rfl⟩ := List.mem_map.1 (h.perm.mem_iff.1 hp)
  exact less_hi h.disZ hz
theorem Lines.has (h : Lines w lb hb room puts hv av A Z) {x : Int} (hx : ∃ y ∈ Z.map hi, y.v = x) : ∃ (i : Nat) (p : Nat × Int), A[i]? = some p ∧ p.2 = x := by
  obtain ⟨y, hy, rfl⟩ := hx
  obtain ⟨z, hz, rfl⟩ := List.mem_map.1 hy
  have hA : z.v ∈ A := h.perm.mem_iff.2 (List.mem_map.2 ⟨z, hz, rfl⟩)
  obtain ⟨i, hi⟩ := List.getElem?_of_mem hA
  exact ⟨i, z.v, hi, rfl⟩
theorem Lines.hasNot (h : Lines w lb hb room puts hv av A Z) {x : Int} (hx : ∀ y ∈ Z.map hi, y.v ≠ x) : ∀ p ∈ A, p.2 ≠ x := by
  intro p hp e
  obtain ⟨z, hz, rfl⟩ := List.mem_map.1 (h.perm.mem_iff.1 hp)
  exact hx (hi z) (List.mem_map.2 ⟨z, hz, rfl⟩) e
/-- One after the other the first one goes, as long as it is due. -/
inductive Steps (now : Int) : List (Ent Int) → List Int → List (Ent Int) → Prop
  | nil (l : List (Ent Int)) : Steps now l [] l
  | cons {l l' : List (Ent Int)} {gs : List Int} {x : Ent Int} : IsFirst l x → x.a ≤ now → Steps now (less l x.v) gs l' → Steps now l (x.v :: gs) l'
theorem Steps.snoc {now : Int} {l l' : List (Ent Int)} {gs : List Int} (h : Steps now l gs l') {x : Ent Int} (hx : IsFirst l' x) (hn : x.a ≤ now) : Steps now l (gs ++ [x.v]) (less l' x.v) := by
  induction h with
  | nil l => exact .cons hx hn (.nil _)
  | cons h1 h2 _ ih => exact .cons h1 h2 (ih hx)
theorem pops_in {now : Int} {Z Z' : List (Ent (Nat × Int))} {gs : List Int} (h : Pops now Z gs Z') (hd : Z.Pairwise (fun x y => x.v.2 ≠ y.v.2)) : Z'.Pairwise (fun x y => x.v.2 ≠ y.v.2) ∧ Steps now (Z.map hi) gs (Z'.map hi) := by
  induction h with
  | nil => exact ⟨hd, .nil _⟩
  | snoc h hz hf hn ih =>
    obtain ⟨i1, i2⟩ := ih
    refine ⟨List.Pairwise.sublist List.filter_sublist i1, ?_⟩
    rw [less_hi i1 hz]
    exact i2.snoc (firstHi hf hz) hn
/-- The line with the plain list l, on the blocks F. -/
def LinesF (F : List Nat) (lb : Nat) (room puts : Int) (l : List (Ent Int)) (w : World) : Prop := ∃ hb hv av A Z, F = footL lb hb hv av A ∧ Lines w lb hb room puts hv av A Z ∧ Z.map hi = l
variable {F : List Nat} {l : List (Ent Int)}
theorem LinesF.keeps : Stays F (LinesF F lb room puts l) := by
  intro w w' S ⟨hb, hv, av, A, Z, hF, h, hl⟩ g hS
  exact ⟨hb, hv, av, A, Z, hF, h.only g (hF ▸ hS), hl⟩
theorem LinesF.below (h : LinesF F lb room puts l w) (g : Below w.heap.size w w') : LinesF F lb room puts l w' := LinesF.keeps w w' [] h (Below.only g []) (by simp)
theorem LinesF.lt (h : LinesF F lb room puts l w) : ∀ k ∈ F, k < w.heap.size := by
  obtain ⟨hb, hv, av, A, Z, rfl, h, _⟩ := h
  exact h.foot_lt
theorem LinesF.items (h : LinesF F lb room puts l w) : Items l puts := by
  obtain ⟨hb, hv, av, A, Z, rfl, h, rfl⟩ := h
  exact h.itemsHi
theorem LinesF.few (h : LinesF F lb room puts l w) : (l.length : Int) ≤ room ∧ 0 ≤ room ∧ room ≤ 1000 := by
  obtain ⟨hb, hv, av, A, Z, rfl, h, rfl⟩ := h
  have := h.few
  rw [h.len] at this
  simpa using this
theorem l_new (n : Int) (w : World) (h1 : -9223372036854775808 ≤ n) (h2 : n ≤ 9223372036854775807) :
    Calls Try.prog 29 #[.int .i64 n] w fun e w' => ∃ lb F, e = .returned (.pointer (some ⟨lb, 0, none⟩)) ∧ LinesF F lb (HP.roomV n) 0 [] w' ∧ (∀ k ∈ F, w.heap.size ≤ k) ∧ Below w.heap.size w w' :=
  (new_any n w h1 h2).mono fun e w' ⟨lb, he, hlt, h, g⟩ => ⟨lb, _, he, ⟨_, _, _, _, _, rfl, h, rfl⟩, fun k hk => by
    simp [footL, foot, Value.ownBlock] at hk
    omega, g⟩
theorem l_len (w : World) (h : LinesF F lb room puts l w) :
    Calls Try.prog 34 #[.pointer (some ⟨lb, 0, none⟩)] w fun e w' => e = .returned (.int .i64 l.length) ∧ w' = w := by
  obtain ⟨hb, hv, av, A, Z, rfl, h, rfl⟩ := h
  have := len_any h
  rw [h.len] at this
  simpa using this
theorem l_next_none (w : World) (h : LinesF F lb room puts [] w) :
    Calls Try.prog 33 #[.pointer (some ⟨lb, 0, none⟩)] w fun e w' => e = .returned (.tuple #[.int .i64 0, .bool false]) ∧ Below w.heap.size w w' := by
  obtain ⟨hb, hv, av, A, Z, rfl, h, hl⟩ := h
  have : Z = [] := List.map_eq_nil_iff.1 hl
  subst this
  exact next_none w h
theorem l_next (w : World) (h : LinesF F lb room puts l w) (hl : l ≠ []) :
    Calls Try.prog 33 #[.pointer (some ⟨lb, 0, none⟩)] w fun e w' => ∃ x, IsFirst l x ∧ e = .returned (.tuple #[.int .i64 x.a, .bool true]) ∧ Below w.heap.size w w' := by
  obtain ⟨hb, hv, av, A, Z, rfl, h, rfl⟩ := h
  exact (next_some w h (by simpa using hl)).mono fun e w' ⟨z, _, hf, he, g⟩ => ⟨hi z, hf, he, g⟩
theorem l_put_in (x : Int) (d : Int) (w : World) (h : LinesF F lb room puts l w) (hin : ∃ y ∈ l, y.v = x) (hp0 : 0 ≤ puts) (hp1 : puts ≤ 1000000000) :
    Calls Try.prog 30 #[.pointer (some ⟨lb, 0, none⟩), mkI x, .int .i64 d] w fun e w' => ∃ F', e = .returned (.bool true) ∧ LinesF F' lb room (puts + 1) (less l x ++ [⟨x, d, 0, puts + 1⟩]) w' ∧ Only F w w' ∧ ∀ k ∈ F', k ∈ F ∨ w.heap.size ≤ k := by
  obtain ⟨hb, hv, av, A, Z, rfl, h, rfl⟩ := h
  obtain ⟨i, p, hp, rfl⟩ := h.has hin
  exact (put_there d w h hp hp0 hp1).mono fun e w' ⟨he, h', o⟩ => ⟨_, he, ⟨_, _, _, _, _, rfl, h', by rw [List.map_append, h.lessHi (List.mem_of_getElem? hp)]; rfl⟩, o.mono foot_in, fun k hk => .inl hk⟩
theorem l_put_full (x : Int) (d : Int) (w : World) (h : LinesF F lb room puts l w) (hno : ∀ y ∈ l, y.v ≠ x) (hfull : room ≤ l.length) :
    Calls Try.prog 30 #[.pointer (some ⟨lb, 0, none⟩), mkI x, .int .i64 d] w fun e w' => e = .returned (.bool false) ∧ Below w.heap.size w w' := by
  obtain ⟨hb, hv, av, A, Z, rfl, h, rfl⟩ := h
  exact put_full x d w h (h.hasNot hno) (by rw [h.len]; simpa using hfull)
theorem l_put_new (x : Int) (d : Int) (w : World) (h : LinesF F lb room puts l w) (hno : ∀ y ∈ l, y.v ≠ x) (hroom : (l.length : Int) < room) (hp0 : 0 ≤ puts) (hp1 : puts ≤ 1000000000) :
    Calls Try.prog 30 #[.pointer (some ⟨lb, 0, none⟩), mkI x, .int .i64 d] w fun e w' => ∃ F', e = .returned (.bool true) ∧ LinesF F' lb room (puts + 1) (l ++ [⟨x, d, 0, puts + 1⟩]) w' ∧ Only F w w' ∧ ∀ k ∈ F', k ∈ F ∨ w.heap.size ≤ k := by
  obtain ⟨hb, hv, av, A, Z, rfl, h, rfl⟩ := h
  exact (put_new x d w h (h.hasNot hno) (by rw [h.len]; simpa using hroom) hp0 hp1).mono fun e w' ⟨t, hv', av', he, ht, h', o, f1, f2⟩ => ⟨_, he, ⟨_, _, _, _, _, rfl, h', by rw [List.map_append]; rfl⟩, o, foot_put f1 f2 ht⟩
theorem l_drop_none (x : Int) (w : World) (h : LinesF F lb room puts l w) (hno : ∀ y ∈ l, y.v ≠ x) :
    Calls Try.prog 31 #[.pointer (some ⟨lb, 0, none⟩), mkI x] w fun e w' => e = .returned (.bool false) ∧ Below w.heap.size w w' := by
  obtain ⟨hb, hv, av, A, Z, rfl, h, rfl⟩ := h
  exact drop_none x w h (h.hasNot hno)
theorem l_drop_in (x : Int) (w : World) (h : LinesF F lb room puts l w) (hin : ∃ y ∈ l, y.v = x) :
    Calls Try.prog 31 #[.pointer (some ⟨lb, 0, none⟩), mkI x] w fun e w' => ∃ F', e = .returned (.bool true) ∧ LinesF F' lb room puts (less l x) w' ∧ Only F w w' ∧ ∀ k ∈ F', k ∈ F ∨ w.heap.size ≤ k := by
  obtain ⟨hb, hv, av, A, Z, rfl, h, rfl⟩ := h
  obtain ⟨i, p, hp, rfl⟩ := h.has hin
  exact (drop_some w h hp).mono fun e w' ⟨hv', av', he, h', f1, f2, o⟩ => ⟨_, he, ⟨_, _, _, _, _, rfl, h', h.lessHi (List.mem_of_getElem? hp)⟩, o, fun k hk => .inl (foot_same f1 f2 (fun q hq => List.mem_of_mem_eraseIdx hq) k hk)⟩
theorem l_due (now : Int) (w : World) (h : LinesF F lb room puts l w) :
    Calls Try.prog 32 #[.pointer (some ⟨lb, 0, none⟩), .int .i64 now] w fun e w' => ∃ v F' l' gs, e = .returned v ∧ w'.ownsRow w.heap.size 3 1 v gs.length (gs.map mkI) ∧ LinesF F' lb room puts l' w' ∧ Steps now l gs l' ∧ (∀ x, IsFirst l' x → now < x.a) ∧ Only F w w' ∧ ∀ k ∈ F', k ∈ F := by
  obtain ⟨hb, hv, av, A, Z, rfl, h, rfl⟩ := h
  exact (due_any now w h).mono fun e w' ⟨v, hv', av', A', Z', gs, he, own, h', hp, hend, f1, f2, hA, o⟩ => ⟨v, _, _, gs, he, own, ⟨_, _, _, _, _, rfl, h', rfl⟩, (pops_in hp h.disZ).2, fun x hx => by
    obtain ⟨z, hz, rfl⟩ := List.mem_map.1 hx.1
    exact hend z hz (hi_first hz hx), o, foot_same f1 f2 hA⟩
theorem few_line {W w w' : World} {F F' : List Nat} {lb : Nat} {room puts puts' : Int} {l l' : List (Ent Int)} {fs : List Thing} (m : Few W fs w) (i : Nat) (hi : fs[i]? = some (F, LinesF F lb room puts l)) (h : LinesF F' lb room puts' l' w') (o : Only F w w') (f : ∀ k ∈ F', k ∈ F ∨ w.heap.size ≤ k) : Few W (fs.set i (F', LinesF F' lb room puts' l')) w' := by
  have e : (fs.getD i nothing).1 = F := by simp [List.getD, hi]
  exact m.turn i (List.getElem?_eq_some_iff.1 hi).1 (by rw [e]; exact o) h h.lt (by rw [e]; exact f) LinesF.keeps
theorem rowForm {w : World} {base n : Nat} {e : TypeId} {v : Value} {xs : List Value} (h : w.ownsRow base e 1 v n xs) : ∃ a cap, v = .slice a n cap ∧ n ≤ 9223372036854775807 := by
  rcases h.2 with ⟨rfl, rfl⟩ | ⟨g, cap, cur, rfl, _, _, h1, h2, _⟩
  · exact ⟨none, 0, rfl, by omega⟩
  · exact ⟨_, _, rfl, by unfold maxLen at h2; omega⟩
theorem rowCell {w : World} {base n j cap : Nat} {a : Option Addr} {e : TypeId} {xs : List Value} {u : Value} (h : w.ownsRow base e 1 (.slice a n cap) n xs) (hj : xs[j]? = some u) (hn : xs.length = n) : ∃ g, a = some ⟨g, 0, none⟩ ∧ w.cell? ⟨g, j, none⟩ = some u := by
  have hl := (List.getElem?_eq_some_iff.1 hj).1
  rcases h.2 with ⟨_, hn'⟩ | ⟨g, cap', cur, hv, _⟩
  · omega
  · simp only [Value.slice.injEq] at hv
    obtain ⟨rfl, _, rfl⟩ := hv
    exact ⟨g, rfl, by rw [h.cellAt _ (by omega), hj]⟩
/-- Behind Due: the line has turned, and there is a list more. -/
theorem few_dues {W w w' : World} {F F' : List Nat} {lb : Nat} {room puts : Int} {l l' : List (Ent Int)} {dv : Value} {n : Nat} {xs : List Value} {fs : List Thing} (m : Few W fs w) (i : Nat) (hi : fs[i]? = some (F, LinesF F lb room puts l)) (h : LinesF F' lb room puts l' w') (o : Only F w w') (f : ∀ k ∈ F', k ∈ F) (own : w'.ownsRow w.heap.size 3 1 dv n xs) : Few W (fs.set i (F', LinesF F' lb room puts l') ++ [(dv.ownBlock.toList, fun u => u.ownsRow w.heap.size 3 1 dv n xs)]) w' := by
  have e : (fs.getD i nothing).1 = F := by simp [List.getD, hi]
  exact m.both i (List.getElem?_eq_some_iff.1 hi).1 (by rw [e]; exact o) h (by rw [e]; exact f) LinesF.keeps own (fun k hk => own.lt k (by simpa using hk)) rows_keep
theorem Steps.next {now : Int} {l l' : List (Ent Int)} {gs : List Int} {j : Nat} {y : Int} (h : Steps now l (gs.drop j) l') (hj : gs[j]? = some y) : ∃ x, IsFirst l x ∧ x.v = y ∧ x.a ≤ now ∧ Steps now (less l x.v) (gs.drop (j + 1)) l' := by
  obtain ⟨hl, rfl⟩ := List.getElem?_eq_some_iff.1 hj
  rw [List.drop_eq_getElem_cons hl] at h
  generalize hd : gs[j] :: gs.drop (j + 1) = ds at h
  cases h with
  | nil => cases hd
  | cons h1 h2 h3 =>
    simp only [List.cons.injEq] at hd
    obtain ⟨e1, e2⟩ := hd
    exact ⟨_, h1, e1.symm, h2, by rw [e2]; exact h3⟩
theorem Steps.done {now : Int} {l l' : List (Ent Int)} (h : Steps now l [] l') : l' = l := by
  cases h
  rfl
end Go.Proofs.Ytbfbijfedamgaaa.LI
