/- A ring of []string among a few things. -/
import Derived.Test.YtbfbijfedamgaaaRingTakeR
import Derived.Test.YtbfbijfedamgaaaLists
namespace Go.Proofs.Ytbfbijfedamgaaa.RR
open Go.RowKit
theorem keeps {b : Nat} {room : Int} {v : Value} {q : List Nat} : Stays (foot b v) (fun u => Rings u b room v q) := fun _ _ _ h g hS => h.only g hS
theorem few_put {W w w' : World} {b : Nat} {room : Int} {v v' : Value} {q q' : List Nat} {l : List Thing} (m : Few W l w) (i : Nat) (hi : l[i]? = some (foot b v, fun u => Rings u b room v q)) (h : Rings w' b room v' q') (o : Only (foot b v) w w') (f : ∀ k ∈ foot b v', k ∈ foot b v ∨ w.heap.size ≤ k) : Few W (l.set i (foot b v', fun u => Rings u b room v' q')) w' := by
  have e : (l.getD i nothing).1 = foot b v := by simp [List.getD, hi]
  exact m.turn i (List.getElem?_eq_some_iff.1 hi).1 (by rw [e]; exact o) h h.foot_lt (by rw [e]; exact f) keeps
theorem few_take {W w w' : World} {b : Nat} {room : Int} {v : Value} {q q' : List Nat} {l : List Thing} (m : Few W l w) (i : Nat) (hi : l[i]? = some (foot b v, fun u => Rings u b room v q)) (h : Rings w' b room v q') (o : Only (foot b v) w w') : Few W (l.set i (foot b v, fun u => Rings u b room v q')) w' :=
  few_put m i hi h o (fun _ hk => .inl hk)
end Go.Proofs.Ytbfbijfedamgaaa.RR
