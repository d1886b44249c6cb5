/- A heap of int among a few things; the order in which things come. -/
import Derived.Test.YtbfbijfedamgaaaHeapTake2I
import Derived.Test.YtbfbijfedamgaaaLists
namespace Go.Proofs.Ytbfbijfedamgaaa.HI
open Go.RowKit
theorem keeps {b : Nat} {room puts : Int} {v : Value} {l : List (Ent Int)} : Stays (foot b v) (fun u => Heaps u b room puts v l) := by
  intro w w' S h g hS
  obtain ⟨es, r, x⟩ := h
  exact ⟨es, r.only g hS (fun _ _ => trivial), x⟩
theorem few_put {W w w' : World} {b : Nat} {room puts puts' : Int} {v v' : Value} {l l' : List (Ent Int)} {fs : List Thing} (m : Few W fs w) (i : Nat) (hi : fs[i]? = some (foot b v, fun u => Heaps u b room puts v l)) (h : Heaps w' b room puts' v' l') (o : Only (foot b v) w w') (f : ∀ k ∈ foot b v', k ∈ foot b v ∨ w.heap.size ≤ k) : Few W (fs.set i (foot b v', fun u => Heaps u b room puts' v' l')) w' := by
  have e : (fs.getD i nothing).1 = foot b v := by simp [List.getD, hi]
  exact m.turn i (List.getElem?_eq_some_iff.1 hi).1 (by rw [e]; exact o) h h.foot_lt (by rw [e]; exact f) keeps
theorem few_set {W w w' : World} {b : Nat} {room puts puts' : Int} {v v' : Value} {l l' : List (Ent Int)} {fs : List Thing} (m : Few W fs w) (i : Nat) (hi : fs[i]? = some (foot b v, fun u => Heaps u b room puts v l)) (h : Heaps w' b room puts' v' l') (o : Only (foot b v) w w') (f : foot b v' = foot b v) : Few W (fs.set i (foot b v', fun u => Heaps u b room puts' v' l')) w' :=
  few_put m i hi h o (fun _ hk => .inl (f ▸ hk))
theorem Heaps.items {w : World} {b : Nat} {room puts : Int} {v : Value} {l : List (Ent Int)} (h : Heaps w b room puts v l) : Items l puts := by
  obtain ⟨es, _, _, _, hi, _⟩ := h
  exact hi
end Go.Proofs.Ytbfbijfedamgaaa.HI
