/- A slice that the law itself made, as a row of times; a list turned round. -/
import Derived.Test.YtkalbnhhgobheaaRow
namespace Go.Proofs.Ytkalbnhhgobheaa
open Go.RowKit
theorem info2 : (Try.prog.info? 2).map (fun i => (i.zero, i.size, i.bytes)) = some (some (.int .i64 0), 1, 8) := by kernel_rfl

theorem own_row {w : World} {B n : Nat} {v : Value} {ys : List Int} (h : w.ownsRow B 2 1 v n (ys.map (Value.int .i64))) : ∃ a cap, v = .slice a n cap ∧ RowAt w a ys ∧ ys.length = n := by
  have hl : ys.length = n := by have := h.1; simpa using this
  rcases h.2 with ⟨hv, hn⟩ | ⟨g, cap, cur, hv, _⟩
  · exact ⟨none, 0, by rw [hv, hn], .inl (List.eq_nil_of_length_eq_zero (by omega)), hl⟩
  · refine ⟨_, cap, hv, .inr ⟨g, 0, rfl, fun i hi => ?_⟩, hl⟩
    have c := h.cells (g := g) (by rw [hv]; rfl) i (.int .i64 (ys.getD i 0)) (by simp [List.getD_eq_getElem?_getD, hi])
    by_cases h1 : i = 0
    · subst h1; simpa [Addr.add] using c
    · simpa [Addr.add, h1] using c

/-- What the round lays behind what was there. -/
theorem own_step {B k : Nat} {w wr w1 : World} {v v' : Value} {o : Obj} {ys : List Int} (hk : k < ys.length) (hB : B ≤ wr.heap.size)
    (hown : wr.ownsRow B 2 1 v k ((ys.map (Value.int .i64)).take k)) (hnx : Below B w wr)
    (hown' : w1.ownsRow B 2 1 v' (k + 1) ((ys.map (Value.int .i64)).take k ++ [.int .i64 (ys.getD k 0)])) (hgrow : (wr.alloc o).grownBy w1 v.ownBlock) :
    w1.ownsRow B 2 1 v' (k + 1) ((ys.map (Value.int .i64)).take (k + 1)) ∧ Below B w w1 := by
  refine ⟨?_, (hnx.alloc hB o).grown hgrow (by simp; omega) (fun j hj => (hown.lt j hj).1)⟩
  have e : ys.take (k + 1) = ys.take k ++ [ys.getD k 0] := by rw [List.take_succ_eq_append_getElem hk]; simp [List.getD_eq_getElem?_getD, hk]
  rw [← List.map_take, e, List.map_append, List.map_take]; exact hown'

theorem turned (zs : List Int) (R k : Nat) (hR : R < zs.length) (hk : k < zs.length) : ((zs ++ zs).drop R).getD k 0 = zs.getD ((k + R) % zs.length) 0 := by
  rw [List.getD_eq_getElem?_getD, List.getElem?_drop, List.getD_eq_getElem?_getD]
  by_cases h : R + k < zs.length
  · rw [List.getElem?_append_left h, Nat.mod_eq_of_lt (by omega), Nat.add_comm]
  · rw [List.getElem?_append_right (by omega), Nat.add_comm k R, Nat.mod_eq_sub_mod (by omega), Nat.mod_eq_of_lt (by omega)]
theorem turned_sum (zs : List Int) (R : Nat) (hR : R ≤ zs.length) : sumL (((zs ++ zs).drop R).take zs.length) = sumL zs := by
  have e : ((zs ++ zs).drop R).take zs.length = zs.drop R ++ zs.take R := by
    rw [List.drop_append_of_le_length hR, List.take_append, List.take_of_length_le (by simp)]
    simp; omega
  rw [e, sumL_rot]
theorem turned_in (zs : List Int) (R n : Nat) (h : AllIn zs) : AllIn (((zs ++ zs).drop R).take n) := by
  have h0 : ∀ x ∈ zs, -9223372036854775808 ≤ x ∧ x ≤ 9223372036854775807 := by
    intro x hx
    obtain ⟨i, hi, rfl⟩ := List.getElem_of_mem hx
    have := h i
    rwa [List.getD_eq_getElem?_getD, List.getElem?_eq_getElem hi] at this
  intro i
  rw [List.getD_eq_getElem?_getD]
  cases e : (((zs ++ zs).drop R).take n)[i]? with
  | none => simp
  | some x =>
    have m := List.mem_of_mem_drop (List.mem_of_mem_take (List.mem_of_getElem? e))
    simp only [List.mem_append, or_self] at m
    exact h0 x m
theorem turn_bd (t : Int) (n : Nat) (hn : 1 ≤ n) : -(n : Int) < t.tmod n ∧ t.tmod n < n := t_lt t n (by omega)
end Go.Proofs.Ytkalbnhhgobheaa
