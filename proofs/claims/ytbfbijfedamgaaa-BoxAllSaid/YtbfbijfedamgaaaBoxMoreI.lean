/- A box of int among a few things. -/
import Derived.Test.YtbfbijfedamgaaaBoxOpsI
import Derived.Test.YtbfbijfedamgaaaLists
namespace Go.Proofs.Ytbfbijfedamgaaa.BI
open Go.RowKit
theorem keeps {b c cap : Nat} {q : List (Nat × Int)} : Stays (footB b c q) (fun u => Boxes u b c cap q) := fun _ _ _ h g hS => h.only g hS
theorem foots_lt {w : World} {b c cap : Nat} {q : List (Nat × Int)} (h : Boxes w b c cap q) : ∀ k ∈ footB b c q, k < w.heap.size := by
  intro k hk
  simp only [footB, List.mem_cons, List.mem_map] at hk
  rcases hk with rfl | rfl | ⟨p, hp, rfl⟩
  · exact h.lt
  · exact h.clt
  · exact (Array.getElem?_eq_some_iff.1 (h.things p hp)).1
theorem foot_new {n : Nat} : ∀ k ∈ footB (n + 1) n ([] : List (Nat × Int)), n ≤ k := by intro k hk; simp [footB] at hk; omega
theorem foot_c {b c : Nat} {q : List (Nat × Int)} : ∀ k ∈ [c], k ∈ footB b c q := by intro k hk; simp at hk; subst hk; simp [footB]
theorem foot_put {b c n : Nat} {q : List (Nat × Int)} {x : Int} : ∀ k ∈ footB b c (q ++ [(n, x)]), k ∈ footB b c q ∨ n ≤ k := by
  intro k hk
  simp only [footB, List.map_append, List.map_cons, List.map_nil, List.mem_cons, List.mem_append, List.not_mem_nil, or_false] at hk ⊢
  rcases hk with h | h | h | h
  · exact .inl (.inl h)
  · exact .inl (.inr (.inl h))
  · exact .inl (.inr (.inr h))
  · exact .inr (by omega)
theorem foot_take {b c : Nat} {p : Nat × Int} {q : List (Nat × Int)} : ∀ k ∈ footB b c q, k ∈ footB b c (p :: q) := by
  intro k hk
  simp only [footB, List.map_cons, List.mem_cons] at hk ⊢
  rcases hk with h | h | h
  · exact .inl h
  · exact .inr (.inl h)
  · exact .inr (.inr (.inr h))
/-- What becomes of the box among the few. -/
theorem few_put {W w w' : World} {b c cap : Nat} {q : List (Nat × Int)} {x : Int} {l : List Thing} (m : Few W l w) (i : Nat) (hi : l[i]? = some (footB b c q, fun u => Boxes u b c cap q)) (h : Boxes w' b c cap (q ++ [(w.heap.size, x)])) (o : Only [c] w w') : Few W (l.set i (footB b c (q ++ [(w.heap.size, x)]), fun u => Boxes u b c cap (q ++ [(w.heap.size, x)]))) w' := by
  have e : (l.getD i nothing).1 = footB b c q := by simp [List.getD, hi]
  exact m.turn i (List.getElem?_eq_some_iff.1 hi).1 (by rw [e]; exact o.mono foot_c) h (foots_lt h) (by rw [e]; exact foot_put) keeps
theorem few_take {W w w' : World} {b c cap : Nat} {p : Nat × Int} {q : List (Nat × Int)} {l : List Thing} (m : Few W l w) (i : Nat) (hi : l[i]? = some (footB b c (p :: q), fun u => Boxes u b c cap (p :: q))) (h : Boxes w' b c cap q) (o : Only [c] w w') : Few W (l.set i (footB b c q, fun u => Boxes u b c cap q)) w' := by
  have e : (l.getD i nothing).1 = footB b c (p :: q) := by simp [List.getD, hi]
  exact m.turn i (List.getElem?_eq_some_iff.1 hi).1 (by rw [e]; exact o.mono foot_c) h (foots_lt h) (by rw [e]; exact fun k hk => .inl (foot_take k hk)) keeps
theorem take_nil (w : World) : Calls Try.prog 42 #[.pointer none] w fun e w' => e = .returned (.tuple #[.int .i64 0, .bool false]) ∧ Below w.heap.size w w' := by
  go_enter Try.func42, Try.ntmps42
  go_wp2
  go_ret2
  exact ⟨rfl, (Below.refl _ _).alloc (Nat.le_refl _) _⟩
set_option maxHeartbeats 400000 in
theorem either_nil {d e cap2 : Nat} (w : World) (h2 : Boxes w d e cap2 ([] : List (Nat × Int))) :
    Calls Try.prog 43 #[.pointer none, .pointer (some ⟨d, 0, none⟩)] w fun r w' => r = .returned (.tuple #[.int .i64 0, .int .i64 0]) ∧ Below w.heap.size w w' := by
  go_enter Try.func43, Try.ntmps43
  go_wp2_with fail
  refine (take_nil w).mono ?_
  rintro e w1 ⟨rfl, g1⟩
  have h3 := h2.below g1
  go_wp2_with fail
  refine (take_none w1 h3).mono ?_
  rintro e w2 ⟨rfl, g2⟩
  go_wp2
  go_ret2
  exact ⟨rfl, (g1.trans (g2.mono g1.size)).alloc (Nat.le_trans g1.size g2.size) _⟩
end Go.Proofs.Ytbfbijfedamgaaa.BI
