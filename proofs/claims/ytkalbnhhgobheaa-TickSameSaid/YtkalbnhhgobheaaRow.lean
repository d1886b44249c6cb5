/- What a slice that came in leads to, and that it stays so behind what only makes memory. -/
import Derived.Test.YtkalbnhhgobheaaRefSum
import Derived.Test.YtkalbnhhgobheaaBegun
import Derived.OpenShut
namespace Go.Proofs.Ytkalbnhhgobheaa
open Go.RowKit
theorem RowAt.below {w w' : World} {a : Option Addr} {zs : List Int} (h : RowAt w a zs) (g : Below w.heap.size w w') : RowAt w' a zs := by
  rcases h with h | ⟨b, off, ha, hc⟩
  · exact .inl h
  · refine .inr ⟨b, off, ha, fun i hi => ?_⟩
    have c := hc i hi
    rw [g.cell (p := ⟨b, off + i, none⟩) (World.block_lt_of_cell? _ _ c)]
    exact c
theorem getD_take (zs : List Int) (n i : Nat) (h : i < n) : (zs.take n).getD i 0 = zs.getD i 0 := by
  simp [List.getD_eq_getElem?_getD, h]
theorem row_of {w : World} {x : Addr} {zs : List Int} (hcell : ∀ i, i < zs.length → w.cell? (x.add i) = some (.int .i64 (zs.getD i 0))) (n : Nat) (hn : n ≤ zs.length) : RowAt w (some x) (zs.take n) := by
  by_cases h0 : n = 0
  · subst h0; exact .inl rfl
  · obtain ⟨b, off, spot⟩ := x
    have hspot : spot = none := by simpa [Addr.add] using World.cell?_spot (hcell 0 (by omega))
    subst hspot
    refine .inr ⟨b, off, rfl, fun i hi => ?_⟩
    have hi' : i < n := by simp at hi; omega
    rw [getD_take _ _ _ hi']
    have c := hcell i (by omega)
    by_cases h1 : i = 0
    · subst h1; simpa [Addr.add] using c
    · simpa [Addr.add, h1] using c
theorem allIn_of {zs : List Int} (h : ∀ n ∈ zs, (Lit.int .i64 n).wf = true) (n : Nat) : AllIn (zs.take n) := by
  intro i
  by_cases hi : i < (zs.take n).length
  · have e : (zs.take n).getD i 0 = (zs.take n)[i] := by rw [List.getD_eq_getElem?_getD, List.getElem?_eq_getElem hi]; rfl
    rw [e]
    exact bounds_i64 (h _ (List.mem_of_mem_take (List.getElem_mem hi)))
  · have e : (zs.take n).getD i 0 = 0 := by rw [List.getD_eq_getElem?_getD, List.getElem?_eq_none (by omega)]; rfl
    rw [e]; omega
end Go.Proofs.Ytkalbnhhgobheaa
