/- A row of cells in a block of its own, told by a function of the place. -/
import Derived.Test.YtnnbpojkjlakcaaLists
import Derived.Test.YtnnbpojkjlakcaaCells
import Derived.Laws.MakeOwn
import Derived.OwnWalk
namespace Go.Proofs.Ytnnbpojkjlakcaa
open Go.RowKit
def RowF (g : Nat) (e : TypeId) (n : Nat) (f : Nat → Value) (w : World) : Prop := w.heap[g]? = some (.cells ((List.range n).map f).toArray e (0, 0))
variable {g n j : Nat} {e : TypeId} {f : Nat → Value} {w : World}
theorem RowF.keeps : Stays [g] (RowF g e n f) := by
  intro w w' S h o hS
  have hl := (Array.getElem?_eq_some_iff.1 h).1
  unfold RowF at h ⊢
  rw [o.block g hl (hS g (by simp))]
  exact h
theorem RowF.cell (h : RowF g e n f w) (hj : j < n) : w.cell? ⟨g, j, none⟩ = some (f j) := by
  unfold RowF at h
  simp [World.cell?, h, hj]
theorem RowF.fz (h : RowF g e n f w) : w.frozen? ⟨g, j, none⟩ = false := by
  unfold RowF at h
  simp [World.frozen?, h]
def upd {α : Type} (f : Nat → α) (k : Nat) (x : α) : Nat → α := fun j => if j = k then x else f j
theorem upd_same {α : Type} (f : Nat → α) (k : Nat) (x : α) : upd f k x k = x := by simp [upd]
theorem upd_ne {α : Type} (f : Nat → α) {k j : Nat} (x : α) (h : j ≠ k) : upd f k x j = f j := by simp [upd, h]
theorem RowF.set {α : Type} {c : α → Value} {f : Nat → α} (h : RowF g e n (fun j => c (f j)) w) (k : Nat) (x : α) : RowF g e n (fun j => c (upd f k x j)) (w.setCell ⟨g, k, none⟩ (c x)) := by
  unfold RowF at h ⊢
  have := heap_setCell_same w g k _ e (c x) h
  rw [this]
  congr 2
  apply Array.ext
  · simp
  · intro i h1 h2
    simp [upd] at h1 h2 ⊢
    by_cases e : i = k
    · subst e; simp
    · simp [e, Ne.symm e]
theorem few_upd {α : Type} (c : α → Value) (f : Nat → α) {W w : World} {l : List Thing} (m : Few W l w) (i : Nat) (hi : l[i]? = some ([g], RowF g e n (fun j => c (f j)))) (k : Nat) (x : α) : Few W (l.set i ([g], RowF g e n (fun j => c (upd f k x j)))) (w.setCell ⟨g, k, none⟩ (c x)) := by
  have e1 : (l.getD i nothing).1 = [g] := by simp [List.getD, hi]
  have h0 : RowF g e n (fun j => c (f j)) w := by
    have := m.holds i
    simpa [List.getD, hi] using this
  have h := h0.set k x
  exact m.turn i (List.getElem?_eq_some_iff.1 hi).1 (by rw [e1]; exact (Only.refl _ w).setCell (p := ⟨g, k, none⟩) (by simp) _) h (fun j hj => by simp at hj; subst hj; exact (Array.getElem?_eq_some_iff.1 h).1) (by rw [e1]; exact fun _ hj => .inl hj) RowF.keeps
theorem RowF.made (w : World) (e : TypeId) (n : Nat) (z : Value) : RowF w.heap.size e n (fun _ => z) (w.alloc (.cells (Array.replicate n z) e)) := by
  have := heap_alloc_new w (.cells (Array.replicate n z) e)
  unfold RowF
  rw [this]
  congr 2
  apply Array.ext
  · simp
  · intro i h1 h2; simp
theorem infoB : (Try.prog.info? 4).map (fun i => (i.zero, i.size, i.bytes)) = some (some (.bool false), 1, 1) := by kernel_rfl
theorem madeB (N : Nat) (hN : N ≤ 1000) (w : World) : (Instr.makeSlice 59 (.int .i64 (N : Int)) (.int .i64 (N : Int))).run Try.prog w = .ok (.slice (some ⟨w.heap.size, 0, none⟩) N N) (w.alloc (.cells (Array.replicate N (.bool false)) 4)) := by
  obtain ⟨i0, hi0, hz0, hz1, hz2⟩ := info_parts infoB
  have h := run_makeSlice (P := Try.prog) w 59 4 i0 (.bool false) Try.underlying59 hi0 hz0 .i64 .i64 (N : Int) (N : Int) (by omega) (by omega) (by rw [hz1]; simp; omega) (by rw [hz2]; omega) (by omega)
  rw [hz1] at h
  have e : madeCells (Value.cells (.bool false)) (N * 1) = Array.replicate N (.bool false) := by
    have := toList_madeCells_one (.bool false) N
    apply Array.toList_inj.1
    rw [Nat.mul_one]
    show (madeCells #[.bool false] N).toList = _
    rw [this]
    simp
  simp only [Int.toNat_natCast] at h
  rw [e] at h
  exact h
end Go.Proofs.Ytnnbpojkjlakcaa
