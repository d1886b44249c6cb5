/- What stays as it is while other blocks turn, for the heap and the seats of numbers. -/
import Derived.Test.YtkbmpoiokdoclaaBegun
import Derived.Test.YtkbmpoiokdoclaaHeapTake2I
import Derived.Test.YtkbmpoiokdoclaaSeatMoreI
namespace Go.Proofs.Ytkbmpoiokdoclaa
open Go.RowKit
theorem HI.stable {b : Nat} {room puts : Int} {v : Value} {l : List (Ent Int)} (w w' : World) (S : List Nat) (h : HI.Heaps w b room puts v l) (g : Only S w w') (hS : ∀ k ∈ foot b v, k ∉ S) : HI.Heaps w' b room puts v l := by
  obtain ⟨es, r, x⟩ := h
  exact ⟨es, r.only g hS (fun _ _ => trivial), x⟩
theorem SI.stable {b : Nat} {room : Int} {v : Value} {ps : List (Int × Bool)} (w w' : World) (S : List Nat) (h : SI.Seats w b room v ps) (g : Only S w w') (hS : ∀ k ∈ foot b v, k ∉ S) : SI.Seats w' b room v ps := h.only g hS
end Go.Proofs.Ytkbmpoiokdoclaa
