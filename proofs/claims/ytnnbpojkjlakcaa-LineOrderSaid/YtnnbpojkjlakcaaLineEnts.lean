/- What comes of a line: things that were put one behind another. -/
import Derived.Test.YtnnbpojkjlakcaaEnts
import Derived.Test.YtnnbpojkjlakcaaLineMoreI
import Derived.Laws.Bits128
namespace Go.Proofs.Ytnnbpojkjlakcaa.LI
open Go.RowKit
theorem items_of {Z : List (Ent (Nat × Int))} {puts : Int} (h : Items (Z.map lo) puts) : Items Z puts :=
  ⟨(List.pairwise_map (f := lo)).1 h.inc, ((List.pairwise_map (f := lo)).1 h.dis).imp (fun hne e => hne (congrArg Prod.fst e)), fun x hx => h.low (lo x) (List.mem_map.2 ⟨x, hx, rfl⟩)⟩
theorem less_len {Z : List (Ent (Nat × Int))} {puts : Int} (h : Items Z puts) {z : Ent (Nat × Int)} (hz : z ∈ Z) : (less Z z.v).length + 1 = Z.length := by
  obtain ⟨i, hi⟩ := List.getElem?_of_mem hz
  have p := perm_erase (List.Perm.refl Z) h hi
  have := p.length_eq
  have il := (List.getElem?_eq_some_iff.1 hi).1
  rw [List.length_eraseIdx_of_lt il] at this
  omega
theorem pops_ents {A C : Nat → Int} {n : Nat} {now puts : Int} {Z Z' : List (Ent (Nat × Int))} {gs : List Int} (h : Pops now Z gs Z') (it : Items Z puts) (hZ : ∀ z ∈ Z, hi z ∈ ents A C n) :
    Items Z' puts ∧ (∀ z ∈ Z', z ∈ Z) ∧ ∃ is : List Nat, gs = is.map (fun i : Nat => (i : Int)) ∧ (∀ i ∈ is, i < n ∧ A i ≤ now ∧ ∃ z ∈ Z, hi z = ent A C i) ∧ is.Pairwise (fun i j => Le (ent A C i) (ent A C j)) ∧ (∀ i ∈ is, ∀ z ∈ Z', Le (ent A C i) (hi z)) ∧ Z'.length + is.length = Z.length := by
  induction h with
  | nil => exact ⟨it, fun z hz => hz, [], rfl, by simp, .nil, by simp, by simp⟩
  | snoc h hz hf hn ih =>
    rename_i gs0 Z1 z
    obtain ⟨it1, hsub, is, rfl, h1, h2, h3, h4⟩ := ih
    obtain ⟨i, hi1, hi2⟩ := ent_mem (hZ z (hsub z hz))
    have ha : A i = z.a := by have := congrArg (Ent.a (α := Int)) hi2; exact this.symm
    have hv : (i : Int) = z.v.2 := by have := congrArg (Ent.v (α := Int)) hi2; exact this.symm
    refine ⟨it1.less _, fun y hy => hsub y (mem_less.1 hy).1, is ++ [i], ?_, ?_, ?_, ?_, ?_⟩
    · rw [List.map_append, ← hv]; rfl
    · intro j hj
      rcases List.mem_append.1 hj with hj | hj
      · exact h1 j hj
      · simp at hj; subst hj
        exact ⟨hi1, by omega, z, hsub z hz, hi2⟩
    · rw [List.pairwise_append]
      refine ⟨h2, by simp, fun j hj k hk => ?_⟩
      simp at hk; subst hk
      have := h3 j hj z hz
      rw [hi2] at this
      exact this
    · intro j hj y hy
      have hy1 := (mem_less.1 hy).1
      rcases List.mem_append.1 hj with hj | hj
      · exact h3 j hj y hy1
      · simp at hj; subst hj
        rw [← hi2]
        have := hf.2 (lo y) (List.mem_map.2 ⟨y, hy1, rfl⟩)
        unfold Le Lt lo at this
        unfold Le Lt hi
        exact this
    · have := less_len it1 hz
      simp
      omega
theorem i64_and15 (n : Int) : bits .and .i64 n 15 = n % 16 := by
  have h15 : (BitVec.ofInt 64 15).toNat = 2 ^ 4 - 1 := by decide
  have key : (BitVec.ofInt 64 n &&& BitVec.ofInt 64 15).toNat = (n % ((2 ^ 64 : Nat) : Int)).toNat % 2 ^ 4 := by
    rw [BitVec.toNat_and, BitVec.toNat_ofInt, h15, Nat.and_two_pow_sub_one_eq_mod]
  show IntKind.i64.wrap ((BitVec.ofInt 64 n &&& BitVec.ofInt 64 15).toNat : Nat) = n % 16
  rw [key, IntKind.wrap_i64]
  omega
theorem few_turn {W w w' : World} {lb hb : Nat} {room puts puts' : Int} {hv av hv' av' : Value} {A A' : List (Nat × Int)} {Z Z' : List (Ent (Nat × Int))} {l : List Thing} (m : Few W l w) (i : Nat) (hi : l[i]? = some (footL lb hb hv av A, fun u => Lines u lb hb room puts hv av A Z)) (h : Lines w' lb hb room puts' hv' av' A' Z') (o : Only (footL lb hb hv av A) w w') (f : ∀ k ∈ footL lb hb hv' av' A', k ∈ footL lb hb hv av A ∨ w.heap.size ≤ k) : Few W (l.set i (footL lb hb hv' av' A', fun u => Lines u lb hb room puts' hv' av' A' Z')) w' := by
  have e : (l.getD i nothing).1 = footL lb hb hv av A := by simp [List.getD, hi]
  exact m.turn i (List.getElem?_eq_some_iff.1 hi).1 (by rw [e]; exact o) h h.foot_lt (by rw [e]; exact f) (fun w w' S h g hS => keeps w w' S h g hS)
theorem few_due {W w w' : World} {lb hb : Nat} {room puts : Int} {hv av hv' av' dv : Value} {A A' : List (Nat × Int)} {Z Z' : List (Ent (Nat × Int))} {xs : List Value} {l : List Thing} (m : Few W l w) (i : Nat) (hi : l[i]? = some (footL lb hb hv av A, fun u => Lines u lb hb room puts hv av A Z)) (h : Lines w' lb hb room puts hv' av' A' Z') (o : Only (footL lb hb hv av A) w w') (f : ∀ k ∈ footL lb hb hv' av' A', k ∈ footL lb hb hv av A) (own : w'.ownsRow w.heap.size 3 1 dv xs.length xs) : Few W (l.set i (footL lb hb hv' av' A', fun u => Lines u lb hb room puts hv' av' A' Z') ++ [(dv.ownBlock.toList, fun u => u.ownsRow w.heap.size 3 1 dv xs.length xs)]) w' := by
  have e : (l.getD i nothing).1 = footL lb hb hv av A := by simp [List.getD, hi]
  exact m.both i (List.getElem?_eq_some_iff.1 hi).1 (by rw [e]; exact o) h (by rw [e]; exact f) (fun w w' S h g hS => keeps w w' S h g hS) own (fun k hk => own.lt k (by simpa using hk)) rows_keep
theorem due_all {w : World} {lb hb : Nat} {room puts now : Int} {hv av : Value} {P : List (Nat × Int)} {Z : List (Ent (Nat × Int))} (h : Lines w lb hb room puts hv av P Z) (he : ∀ z ∈ Z, IsFirst (Z.map lo) (lo z) → now < z.a) (hn : ∀ z ∈ Z, z.a ≤ now) : Z = [] := by
  apply Classical.byContradiction
  intro hne
  obtain ⟨es, x, _, _, _, _, _, _, _, _, hx⟩ := h.heap.top (fun e => hne (List.map_eq_nil_iff.1 e))
  obtain ⟨z, hz, rfl⟩ := List.mem_map.1 hx.1
  have := he z hz hx
  have := hn z hz
  omega
theorem put_ent {w : World} {lb hb k : Nat} {room : Int} {hv av : Value} {P : List (Nat × Int)} {Z : List (Ent (Nat × Int))} {A : Nat → Int} (h : Lines w lb hb room k hv av P Z) (hZ : Z.map hi = ents A (fun _ => 0) k) (hk : (k : Int) < room) (hk1 : k ≤ 1000) :
    Calls Try.prog 32 #[.pointer (some ⟨lb, 0, none⟩), .int .i64 k, .int .i64 (A k)] w fun e w' => ∃ hv' av' P' Z', e = .returned (.bool true) ∧ Lines w' lb hb room ((k + 1 : Nat) : Int) hv' av' P' Z' ∧ Z'.map hi = ents A (fun _ => 0) (k + 1) ∧ Only (footL lb hb hv av P) w w' ∧ ∀ j ∈ footL lb hb hv' av' P', j ∈ footL lb hb hv av P ∨ w.heap.size ≤ j := by
  have hlen : P.length = k := by
    have e1 := h.perm.length_eq
    have e2 := congrArg List.length hZ
    rw [ents_length] at e2
    simp at e1 e2
    omega
  have hno : ∀ p ∈ P, p.2 ≠ (k : Int) := by
    intro p hp
    obtain ⟨z, hz, rfl⟩ := List.mem_map.1 (h.perm.mem_iff.1 hp)
    have hm : hi z ∈ ents A (fun _ => 0) k := by rw [← hZ]; exact List.mem_map.2 ⟨z, hz, rfl⟩
    exact ents_not (Nat.le_refl k) (hi z) hm
  refine (put_new (k : Int) (A k) w h hno (by omega) (by omega) (by omega)).mono ?_
  rintro e w' ⟨t, hv', av', rfl, ht, h', o, f, f'⟩
  refine ⟨hv', av', _, _, rfl, h', ?_, o, foot_put f f' ht⟩
  rw [List.map_append, hZ, ents_succ]
  rfl
theorem due_ents {w : World} {lb hb n : Nat} {room puts : Int} {hv av : Value} {P : List (Nat × Int)} {Z : List (Ent (Nat × Int))} {A C : Nat → Int} (now : Int) (h : Lines w lb hb room puts hv av P Z) (hZ : ∀ z ∈ Z, hi z ∈ ents A C n) :
    Calls Try.prog 34 #[.pointer (some ⟨lb, 0, none⟩), .int .i64 now] w fun e w' => ∃ (dv hv' av' : Value) (P' : List (Nat × Int)) (Z' : List (Ent (Nat × Int))) (is : List Nat), e = .returned dv ∧ w'.ownsRow w.heap.size 3 1 dv is.length (is.map fun i : Nat => .int .i64 (i : Int)) ∧ Lines w' lb hb room puts hv' av' P' Z' ∧
      ((∀ z ∈ Z', z ∈ Z) ∧ (∀ i ∈ is, i < n ∧ A i ≤ now ∧ ∃ z ∈ Z, hi z = ent A C i) ∧ is.Pairwise (fun i j => Le (ent A C i) (ent A C j)) ∧ (∀ i ∈ is, ∀ z ∈ Z', Le (ent A C i) (hi z)) ∧ Z'.length + is.length = Z.length ∧ ((∀ i, i < n → A i ≤ now) → Z' = [])) ∧
      (∀ k ∈ footL lb hb hv' av' P', k ∈ footL lb hb hv av P) ∧ Only (footL lb hb hv av P) w w' := by
  refine (due_any now w h).mono ?_
  rintro e w' ⟨dv, hv', av', P', Z', gs, rfl, own, h', hp, he, f, f', hA, o⟩
  obtain ⟨_, hsub, is, rfl, h1, h2, h3, h4⟩ := pops_ents hp (items_of h.items) hZ
  refine ⟨dv, hv', av', P', Z', is, rfl, ?_, h', ⟨hsub, h1, h2, h3, h4, fun hall => due_all h' he fun z hz => ?_⟩, foot_same f f' hA, o⟩
  · have e1 : (is.map fun i : Nat => (i : Int)).map mkI = is.map fun i : Nat => (Value.int .i64 (i : Int)) := by simp [Function.comp_def, mkI]
    rw [e1] at own
    simpa using own
  · obtain ⟨i, hi1, hi2⟩ := ent_mem (hZ z (hsub z hz))
    have := hall i hi1
    have ha : A i = z.a := (congrArg (Ent.a (α := Int)) hi2).symm
    omega
/-- Last is none, or a number that is not behind any of those that are left. -/
def Last (A : Nat → Int) (k : Nat) (s : Value) (S : List (Ent Int)) : Prop := s = .int .i64 (-1) ∨ ∃ l : Nat, l < k ∧ s = .int .i64 l ∧ ∀ x ∈ S, Le (ent A (fun _ => 0) l) x
theorem Last.sub {A : Nat → Int} {k : Nat} {s : Value} {S T : List (Ent Int)} (h : Last A k s S) (hs : ∀ x ∈ T, x ∈ S) : Last A k s T := by
  rcases h with h | ⟨l, h1, h2, h3⟩
  · exact .inl h
  · exact .inr ⟨l, h1, h2, fun x hx => h3 x (hs x hx)⟩
/-- Those that are left while what is due is gone through. -/
def left (A : Nat → Int) (is : List Nat) (j : Nat) (Z : List (Ent (Nat × Int))) : List (Ent Int) := (is.drop j).map (ent A (fun _ => 0)) ++ Z.map hi
theorem left_start {A : Nat → Int} {k n : Nat} {now : Int} {s : Value} {is : List Nat} {Z Z' : List (Ent (Nat × Int))} (h : Last A k s (Z.map hi)) (h1 : ∀ z ∈ Z', z ∈ Z) (h2 : ∀ i ∈ is, i < n ∧ A i ≤ now ∧ ∃ z ∈ Z, hi z = ent A (fun _ => 0) i) : Last A k s (left A is 0 Z') := by
  refine h.sub fun x hx => ?_
  unfold left at hx
  simp only [List.drop_zero, List.mem_append, List.mem_map] at hx
  rcases hx with ⟨i, hi1, rfl⟩ | ⟨z, hz, rfl⟩
  · obtain ⟨_, _, z, hz, e⟩ := h2 i hi1
    rw [← e]
    exact List.mem_map.2 ⟨z, hz, rfl⟩
  · exact List.mem_map.2 ⟨z, h1 z hz, rfl⟩
theorem left_next {A : Nat → Int} {k j x : Nat} {is : List Nat} {Z : List (Ent (Nat × Int))} (hj : is[j]? = some x) (hx : x < k) (hp : is.Pairwise (fun i j => Le (ent A (fun _ => 0) i) (ent A (fun _ => 0) j))) (h3 : ∀ i ∈ is, ∀ z ∈ Z, Le (ent A (fun _ => 0) i) (hi z)) : Last A k (.int .i64 x) (left A is (j + 1) Z) := by
  refine .inr ⟨x, hx, rfl, fun y hy => ?_⟩
  obtain ⟨hl, he⟩ := List.getElem?_eq_some_iff.1 hj
  unfold left at hy
  simp only [List.mem_append, List.mem_map] at hy
  rcases hy with ⟨i, hi1, rfl⟩ | ⟨z, hz, rfl⟩
  · have hd : (is.drop j).Pairwise (fun i j => Le (ent A (fun _ => 0) i) (ent A (fun _ => 0) j)) := hp.sublist (List.drop_sublist _ _)
    rw [List.drop_eq_getElem_cons hl, he] at hd
    exact (List.pairwise_cons.1 hd).1 i hi1
  · exact h3 x (List.mem_of_getElem? hj) z hz
theorem left_head {A : Nat → Int} {j x l : Nat} {is : List Nat} {Z : List (Ent (Nat × Int))} (hj : is[j]? = some x) (h : ∀ y ∈ left A is j Z, Le (ent A (fun _ => 0) l) y) : A l < A x ∨ (A l = A x ∧ l ≤ x) := by
  obtain ⟨hl, he⟩ := List.getElem?_eq_some_iff.1 hj
  have := ent_le (h (ent A (fun _ => 0) x) (by unfold left; rw [List.drop_eq_getElem_cons hl, he]; simp))
  omega
theorem left_end {A : Nat → Int} {k j : Nat} {s : Value} {is : List Nat} {Z : List (Ent (Nat × Int))} (h : Last A k s (left A is j Z)) : Last A k s (Z.map hi) := h.sub fun x hx => by unfold left; exact List.mem_append.2 (.inr hx)
theorem row_form {w : World} {base n : Nat} {e : TypeId} {v : Value} {xs : List Value} (h : w.ownsRow base e 1 v n xs) : ∃ a cap, v = .slice a n cap ∧ n ≤ maxLen := by
  rcases h.2 with ⟨rfl, rfl⟩ | ⟨g, cap, cur, rfl, _, _, h1, h2, _⟩
  · exact ⟨none, 0, rfl, by unfold maxLen; omega⟩
  · exact ⟨_, _, rfl, Nat.le_trans h1 h2⟩
theorem row_cell {w : World} {base n j cap : Nat} {a : Option Addr} {e : TypeId} {xs : List Value} {u : Value} (h : w.ownsRow base e 1 (.slice a n cap) n xs) (hj : xs[j]? = some u) (hn : xs.length = n) : ∃ g, a = some ⟨g, 0, none⟩ ∧ w.cell? ⟨g, j, none⟩ = some u := by
  have hl := (List.getElem?_eq_some_iff.1 hj).1
  rcases h.2 with ⟨e1, rfl⟩ | ⟨g, cap', cur, e1, hx⟩
  · omega
  · simp only [Value.slice.injEq] at e1
    obtain ⟨rfl, _, rfl⟩ := e1
    have := h.cellAt j (by omega)
    exact ⟨g, rfl, by rw [this, hj]⟩
end Go.Proofs.Ytnnbpojkjlakcaa.LI
