/- The contract of the heap's swap at string. -/
import Derived.Test.YtbfbijfedamgaaaHeapFindS
namespace Go.Proofs.Ytbfbijfedamgaaa.HS
open Go.RowKit

set_option maxHeartbeats 1000000 in
theorem swap_any {b : Nat} {room puts : Int} {v : Value} {es : List (Ent ByteArray)} (i j : Nat) (w : World) (h : Raw w b room puts v es) (hi : i < es.length) (hj : j < es.length) (hij : i ≠ j) :
    Calls Try.prog 108 #[.pointer (some ⟨b, 0, none⟩), .int .i64 i, .int .i64 j] w fun e w' => e = .returned (.tuple #[]) ∧ Raw w' b room puts v (swp es i j) ∧ Only (foot b v) w w' := by
  have c2 := h.c2
  have hl := h.few
  rcases h.own.2 with ⟨rfl, hn⟩ | ⟨g, cap, cur, rfl, hg⟩
  · omega
  obtain ⟨x, hx⟩ : ∃ x, es[i]? = some x := ⟨_, List.getElem?_eq_getElem hi⟩
  obtain ⟨y, hy⟩ : ∃ y, es[j]? = some y := ⟨_, List.getElem?_eq_getElem hj⟩
  obtain ⟨a0, a1, a2, a3⟩ := cellsOf_get mkS hx
  obtain ⟨b0, b1, b2, b3⟩ := cellsOf_get mkS hy
  have p0 := (h.own.cellAt (i * 4) (by omega)).trans a0
  have p1 := (h.own.cellAt (i * 4 + 1) (by omega)).trans a1
  have p2 := (h.own.cellAt (i * 4 + 2) (by omega)).trans a2
  have p3 := (h.own.cellAt (i * 4 + 3) (by omega)).trans a3
  have q0 := (h.own.cellAt (j * 4) (by omega)).trans b0
  have q1 := (h.own.cellAt (j * 4 + 1) (by omega)).trans b1
  have q2 := (h.own.cellAt (j * 4 + 2) (by omega)).trans b2
  have q3 := (h.own.cellAt (j * 4 + 3) (by omega)).trans b3
  have fz := h.own.frozenAt
  clear a0 a1 a2 a3 b0 b1 b2 b3 hg
  unfold mkS at p0 q0
  go_enter Try.func108, Try.ntmps108
  go_region
  go_end0
  obtain ⟨r1, o1⟩ := h.put4 i y (h.ok y (List.mem_of_getElem? hy))
  obtain ⟨r2, o2⟩ := r1.put4 j x ((h.ok x (List.mem_of_getElem? hx)).only o1 (fun k hk => .inl hk))
  rw [← swp_eq hx hy] at r2
  exact ⟨rfl, r2.drew, (o1.trans o2 (fun k hk => .inl hk)).drew⟩
end Go.Proofs.Ytbfbijfedamgaaa.HS
