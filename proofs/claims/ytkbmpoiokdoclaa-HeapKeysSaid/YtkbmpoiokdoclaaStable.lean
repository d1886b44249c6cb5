/- What stays as it is while other blocks turn, for the heap of numbers. -/
import Derived.Test.YtkbmpoiokdoclaaBegun
import Derived.Test.YtkbmpoiokdoclaaHeapTake2I
namespace Go.Proofs.Ytkbmpoiokdoclaa
open Go.RowKit
theorem HI.stable {b : Nat} {room puts : Int} {v : Value} {l : List (Ent Int)} (w w' : World) (S : List Nat) (h : HI.Heaps w b room puts v l) (g : Only S w w') (hS : ∀ k ∈ foot b v, k ∉ S) : HI.Heaps w' b room puts v l := by
  obtain ⟨es, r, x⟩ := h
  exact ⟨es, r.only g hS (fun _ _ => trivial), x⟩
end Go.Proofs.Ytkbmpoiokdoclaa
