/- A row of cells in a block of its own, told by a function of the place. -/
import Derived.Test.YtkbmpoiokdoclaaLists
import Derived.Test.YtkbmpoiokdoclaaCells
import Derived.Laws.MakeOwn
import Derived.OwnWalk
namespace Go.Proofs.Ytkbmpoiokdoclaa
open Go.RowKit
def RowF (g : Nat) (e : TypeId) (n : Nat) (f : Nat → Value) (w : World) : Prop := w.heap[g]? = some (.cells ((List.range n).map f).toArray e (0, 0))
variable {g n j : Nat} {e : TypeId} {f : Nat → Value} {w : World}
theorem RowF.keeps : Stays [g] (RowF g e n f) := by
  intro w w' S h o hS
  have hl := (Array.getElem?_eq_some_iff.1 h).1
  unfold RowF at h ⊢
  rw [o.block g hl (hS g (by simp))]
  exact h
theorem RowF.cell (h : RowF g e n f w) (hj : j < n) : w.cell? ⟨g, j, none⟩ = some (f j) := by
  unfold RowF at h
  simp [World.cell?, h, hj]
theorem RowF.fz (h : RowF g e n f w) : w.frozen? ⟨g, j, none⟩ = false := by
  unfold RowF at h
  simp [World.frozen?, h]
def upd {α : Type} (f : Nat → α) (k : Nat) (x : α) : Nat → α := fun j => if j = k then x else f j
theorem upd_same {α : Type} (f : Nat → α) (k : Nat) (x : α) : upd f k x k = x := by simp [upd]
theorem upd_ne {α : Type} (f : Nat → α) {k j : Nat} (x : α) (h : j ≠ k) : upd f k x j = f j := by simp [upd, h]
theorem RowF.set {α : Type} {c : α → Value} {f : Nat → α} (h : RowF g e n (fun j => c (f j)) w) (k : Nat) (x : α) : RowF g e n (fun j => c (upd f k x j)) (w.setCell ⟨g, k, none⟩ (c x)) := by
  unfold RowF at h ⊢
  have := heap_setCell_same w g k _ e (c x) h
  rw [this]
  congr 2
  apply Array.ext
  · simp
  · intro i h1 h2
    simp [upd] at h1 h2 ⊢
    by_cases e : i = k
    · subst e; simp
    · simp [e, Ne.symm e]
theorem few_upd {α : Type} (c : α → Value) (f : Nat → α) {W w : World} {l : List Thing} (m : Few W l w) (i : Nat) (hi : l[i]? = some ([g], RowF g e n (fun j => c (f j)))) (k : Nat) (x : α) : Few W (l.set i ([g], RowF g e n (fun j => c (upd f k x j)))) (w.setCell ⟨g, k, none⟩ (c x)) := by
  have e1 : (l.getD i nothing).1 = [g] := by simp [List.getD, hi]
  have h0 : RowF g e n (fun j => c (f j)) w := by
    have := m.holds i
    simpa [List.getD, hi] using this
  have h := h0.set k x
  exact m.turn i (List.getElem?_eq_some_iff.1 hi).1 (by rw [e1]; exact (Only.refl _ w).setCell (p := ⟨g, k, none⟩) (by simp) _) h (fun j hj => by simp at hj; subst hj; exact (Array.getElem?_eq_some_iff.1 h).1) (by rw [e1]; exact fun _ hj => .inl hj) RowF.keeps
theorem RowF.made (w : World) (e : TypeId) (n : Nat) (z : Value) : RowF w.heap.size e n (fun _ => z) (w.alloc (.cells (Array.replicate n z) e)) := by
  have := heap_alloc_new w (.cells (Array.replicate n z) e)
  unfold RowF
  rw [this]
  congr 2
  apply Array.ext
  · simp
  · intro i h1 h2; simp
def swapAt (i : Nat) : Nat := if i = 1 then 2 else if i = 2 then 1 else i
/-- The second and the third of three change places. -/
theorem Few.swap {W w : World} {a b c : Thing} (m : Few W [a, b, c] w) : Few W [a, c, b] w := by
  have key : ∀ i, ([a, c, b] : List Thing).getD i nothing = ([a, b, c] : List Thing).getD (swapAt i) nothing := by
    intro i
    match i with
    | 0 => rfl
    | 1 => rfl
    | 2 => rfl
    | n + 3 => simp [swapAt, List.getD]
  refine ⟨m.bel, fun i k hk => m.low (swapAt i) k (by simp only [key] at hk; exact hk), fun i => ?_, fun i k hk => m.lt (swapAt i) k (by simp only [key] at hk; exact hk), fun i j hne k hk hl => ?_, fun i => ?_⟩
  · show (([a, c, b] : List Thing).getD i nothing).2 w
    rw [key]; exact m.holds (swapAt i)
  · simp only [key] at hk hl
    exact m.dis (swapAt i) (swapAt j) (by unfold swapAt; split <;> split <;> (try split) <;> (try split) <;> omega) k hk hl
  · have := m.stable (swapAt i)
    simp only [key]
    exact this
theorem infoB : (Try.prog.info? 4).map (fun i => (i.zero, i.size, i.bytes)) = some (some (.bool false), 1, 1) := by kernel_rfl
theorem madeB (N : Nat) (hN : N ≤ 1000) (w : World) : (Instr.makeSlice 68 (.int .i64 (N : Int)) (.int .i64 (N : Int))).run Try.prog w = .ok (.slice (some ⟨w.heap.size, 0, none⟩) N N) (w.alloc (.cells (Array.replicate N (.bool false)) 4)) := by
  obtain ⟨i0, hi0, hz0, hz1, hz2⟩ := info_parts infoB
  have h := run_makeSlice (P := Try.prog) w 68 4 i0 (.bool false) Try.underlying68 hi0 hz0 .i64 .i64 (N : Int) (N : Int) (by omega) (by omega) (by rw [hz1]; simp; omega) (by rw [hz2]; omega) (by omega)
  rw [hz1] at h
  have e : madeCells (Value.cells (.bool false)) (N * 1) = Array.replicate N (.bool false) := by
    have := toList_madeCells_one (.bool false) N
    apply Array.toList_inj.1
    rw [Nat.mul_one]
    show (madeCells #[.bool false] N).toList = _
    rw [this]
    simp
  simp only [Int.toNat_natCast] at h
  rw [e] at h
  exact h
theorem row_form {w : World} {base n : Nat} {e : TypeId} {v : Value} {xs : List Value} (h : w.ownsRow base e 1 v n xs) : ∃ a cap, v = .slice a n cap ∧ n ≤ maxLen := by
  rcases h.2 with ⟨rfl, rfl⟩ | ⟨g, cap, cur, rfl, _, _, h1, h2, _⟩
  · exact ⟨none, 0, rfl, by unfold maxLen; omega⟩
  · exact ⟨_, _, rfl, Nat.le_trans h1 h2⟩
theorem row_cell {w : World} {base n j cap : Nat} {a : Option Addr} {e : TypeId} {xs : List Value} {u : Value} (h : w.ownsRow base e 1 (.slice a n cap) n xs) (hj : xs[j]? = some u) (hn : xs.length = n) : ∃ g, a = some ⟨g, 0, none⟩ ∧ w.cell? ⟨g, j, none⟩ = some u := by
  have hl := (List.getElem?_eq_some_iff.1 hj).1
  rcases h.2 with ⟨e1, rfl⟩ | ⟨g, cap', cur, e1, hx⟩
  · omega
  · simp only [Value.slice.injEq] at e1
    obtain ⟨rfl, _, rfl⟩ := e1
    have := h.cellAt j (by omega)
    exact ⟨g, rfl, by rw [this, hj]⟩
end Go.Proofs.Ytkbmpoiokdoclaa
