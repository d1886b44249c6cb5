/- Seats of numbers, and two rows beside them: who is there, and what. -/
import Derived.Test.YtkbmpoiokdoclaaSeatAmongI
import Derived.Test.YtkbmpoiokdoclaaRowF
import Derived.Test.YtkbmpoiokdoclaaArgsMore
namespace Go.Proofs.Ytkbmpoiokdoclaa.SI
open Go.RowKit
structure Sync (m : Nat) (ps : List (Int × Bool)) (H : Nat → Bool) (V : Nat → Int) : Prop where
  le : ps.length ≤ m
  has : ∀ i, i < m → (H (i + 1) = true ↔ ∃ x, ps[i]? = some (x, true))
  val : ∀ i x, ps[i]? = some (x, true) → V (i + 1) = x
variable {m : Nat} {ps : List (Int × Bool)} {H : Nat → Bool} {V : Nat → Int}
theorem Sync.start : Sync m [] (fun _ => false) (fun _ => 0) := ⟨by simp, fun i _ => by simp, fun i x h => by simp at h⟩
theorem Sync.free (h : Sync m ps H V) {k : Nat} (hk : k ≤ m) (hb : ∀ j, j < k → H (j + 1) = true) (he : k < m → H (k + 1) = false) : IsFree ps k := by
  refine ⟨?_, fun j p hj hp => ?_, fun p hp => ?_⟩
  · cases k with
    | zero => omega
    | succ k =>
      obtain ⟨x, hx⟩ := (h.has k (by omega)).1 (hb k (by omega))
      have := (List.getElem?_eq_some_iff.1 hx).1
      omega
  · obtain ⟨x, hx⟩ := (h.has j (by omega)).1 (hb j hj)
    rw [hp] at hx
    simp at hx
    rw [hx]
  · have hl := (List.getElem?_eq_some_iff.1 hp).1
    have hm : k < m := Nat.lt_of_lt_of_le hl h.le
    obtain ⟨x, b⟩ := p
    cases b with
    | false => rfl
    | true =>
      have := (h.has k hm).2 ⟨x, hp⟩
      rw [he hm] at this
      cases this
theorem upd_succ {α : Type} (f : Nat → α) (k i : Nat) (x : α) : upd f (k + 1) x (i + 1) = if i = k then x else f (i + 1) := by simp [upd]
theorem Sync.there (h : Sync m ps H V) {k : Nat} (hk : k < ps.length) (x : Int) : Sync m (ps.set k (x, true)) (upd H (k + 1) true) (upd V (k + 1) x) := by
  have hl := h.le
  refine ⟨by simpa using hl, fun i hi => ?_, fun i y hy => ?_⟩
  · rw [upd_succ, List.getElem?_set]
    by_cases e : i = k
    · subst e; simp [hk]
    · simp only [e, Ne.symm e, if_false]
      exact h.has i hi
  · rw [upd_succ]
    rw [List.getElem?_set] at hy
    by_cases e : i = k
    · subst e; simp [hk] at hy; simp [hy]
    · simp only [e, Ne.symm e, if_false] at hy ⊢
      exact h.val i y hy
theorem Sync.new (h : Sync m ps H V) (hk : ps.length < m) (x : Int) : Sync m (ps ++ [(x, true)]) (upd H (ps.length + 1) true) (upd V (ps.length + 1) x) := by
  refine ⟨by simp; omega, fun i hi => ?_, fun i y hy => ?_⟩
  · rw [upd_succ]
    by_cases e : i = ps.length
    · subst e; simp
    · simp only [e, if_false]
      rw [h.has i hi, List.getElem?_append]
      split
      · exact Iff.rfl
      · have : ps[i]? = none := List.getElem?_eq_none (by omega)
        have e2 : ([(x, true)] : List (Int × Bool))[i - ps.length]? = none := List.getElem?_eq_none (by simp; omega)
        rw [this, e2]
  · rw [upd_succ]
    by_cases e : i = ps.length
    · subst e; simp at hy; simp [hy]
    · simp only [e, if_false]
      rw [List.getElem?_append] at hy
      split at hy
      · exact h.val i y hy
      · have e2 : ([(x, true)] : List (Int × Bool))[i - ps.length]? = none := List.getElem?_eq_none (by simp; omega)
        rw [e2] at hy; cases hy
theorem Sync.drop (h : Sync m ps H V) (k : Nat) : Sync m (ps.set k (0, false)) (upd H (k + 1) false) V := by
  refine ⟨by simpa using h.le, fun i hi => ?_, fun i y hy => ?_⟩
  · rw [upd_succ, List.getElem?_set]
    by_cases e : i = k
    · subst e; simp
    · simp only [e, Ne.symm e, if_false]
      exact h.has i hi
  · rw [List.getElem?_set] at hy
    by_cases e : k = i
    · subst e; simp at hy
    · simp only [e, if_false] at hy
      exact h.val i y hy
theorem Sync.set (h : Sync m ps H V) {k : Nat} {y : Int} (hp : ps[k]? = some (y, true)) (x : Int) : Sync m (ps.set k (x, true)) H (upd V (k + 1) x) := by
  have hk := (List.getElem?_eq_some_iff.1 hp).1
  refine ⟨by simpa using h.le, fun i hi => ?_, fun i y hy => ?_⟩
  · rw [List.getElem?_set, h.has i hi]
    by_cases e : i = k
    · subst e
      rw [if_pos rfl, if_pos hk, hp]
      exact ⟨fun _ => ⟨x, rfl⟩, fun _ => ⟨y, rfl⟩⟩
    · simp only [Ne.symm e, if_false]
  · rw [upd_succ]
    rw [List.getElem?_set] at hy
    by_cases e : i = k
    · subst e; simp [hk] at hy; simp [hy]
    · simp only [e, Ne.symm e, if_false] at hy ⊢
      exact h.val i y hy
/-- Who is in. -/
def In (m : Nat) (H : Nat → Bool) (id : Int) : Prop := 1 ≤ id ∧ id ≤ m ∧ H id.toNat = true
theorem Sync.in (h : Sync m ps H V) {id : Int} (hin : In m H id) : ∃ k : Nat, id = (k : Int) + 1 ∧ k < m ∧ ps[k]? = some (V (k + 1), true) := by
  obtain ⟨h1, h2, h3⟩ := hin
  have e : id.toNat = (id.toNat - 1) + 1 := by omega
  rw [e] at h3
  obtain ⟨x, hx⟩ := (h.has (id.toNat - 1) (by omega)).1 h3
  exact ⟨id.toNat - 1, by omega, by omega, by rw [h.val _ _ hx]; exact hx⟩
theorem Sync.out (h : Sync m ps H V) {w : World} {b : Nat} {room : Int} {v : Value} (hs : Seats w b room v ps) {id : Int} (hno : ¬ In m H id) :
    Calls Try.prog 65 #[.pointer (some ⟨b, 0, none⟩), .int .i64 id] w fun e w' => e = .returned (.bool false) ∧ w' = w := by
  by_cases hid : id < 1 ∨ (ps.length : Int) < id
  · exact has_out id w hs hid
  · have hl := h.le
    have hk : id.toNat - 1 < ps.length := by omega
    obtain ⟨⟨x, b⟩, hp⟩ : ∃ p, ps[id.toNat - 1]? = some p := ⟨_, List.getElem?_eq_getElem hk⟩
    cases b with
    | false => exact has_gap _ id w hs hp (by omega)
    | true =>
      refine absurd ⟨by omega, by omega, ?_⟩ hno
      have := (h.has (id.toNat - 1) (by omega)).2 ⟨x, hp⟩
      rw [show id.toNat - 1 + 1 = id.toNat by omega] at this
      exact this
/-- The numbers of those that are there, as the row has them. -/
def idsH (H : Nat → Bool) : Nat → List Int
  | 0 => []
  | k + 1 => idsH H k ++ (if H (k + 1) then [(k : Int) + 1] else [])
theorem Sync.ids (h : Sync m ps H V) : ∀ k, k ≤ ps.length → idsTo ps k = idsH H k := by
  intro k
  induction k with
  | zero => intro _; rfl
  | succ k ih =>
    intro hk
    rw [idsTo, idsH, ih (by omega)]
    congr 1
    have hl := h.le
    have key := h.has k (by omega)
    split
    · rename_i x e
      rw [if_pos (key.2 ⟨x, e⟩)]
    · rename_i e
      rw [if_neg]
      intro ht
      obtain ⟨x, hx⟩ := key.1 ht
      exact e x hx
theorem Sync.more (h : Sync m ps H V) : ∀ k, ps.length ≤ k → k ≤ m → idsH H k = idsH H ps.length := by
  intro k
  induction k with
  | zero => intro h0 _; rw [show ps.length = 0 by omega]
  | succ k ih =>
    intro h0 h1
    by_cases e : ps.length = k + 1
    · rw [e]
    · rw [idsH, ih (by omega) (by omega), if_neg, List.append_nil]
      intro ht
      obtain ⟨x, hx⟩ := (h.has k (by omega)).1 ht
      have := (List.getElem?_eq_some_iff.1 hx).1
      omega
theorem Sync.all (h : Sync m ps H V) : idsTo ps ps.length = idsH H m := by rw [h.ids _ (Nat.le_refl _), h.more m h.le (Nat.le_refl _)]
theorem idsH_le (H : Nat → Bool) (k : Nat) : (idsH H k).length ≤ k := by
  induction k with
  | zero => simp [idsH]
  | succ k ih => rw [idsH]; split <;> simp <;> omega
theorem idsH_pre (H : Nat → Bool) {j k : Nat} (h : j ≤ k) : ∃ r, idsH H k = idsH H j ++ r := by
  induction k with
  | zero => exact ⟨[], by rw [show j = 0 by omega]; simp⟩
  | succ k ih =>
    by_cases e : j = k + 1
    · subst e; exact ⟨[], by simp⟩
    · obtain ⟨r, hr⟩ := ih (by omega)
      exact ⟨_, by rw [idsH, hr, List.append_assoc]⟩
theorem idsH_at (H : Nat → Bool) {j k : Nat} (h : j < k) (ht : H (j + 1) = true) : (idsH H k)[(idsH H j).length]? = some ((j : Int) + 1) := by
  obtain ⟨r, hr⟩ := idsH_pre H (show j + 1 ≤ k from h)
  rw [hr, idsH, if_pos ht, List.append_assoc]
  simp
theorem idsH_step (H : Nat → Bool) (j : Nat) : (idsH H (j + 1)).length = (idsH H j).length + if H (j + 1) then 1 else 0 := by
  rw [idsH]; split <;> simp
theorem cell_other {w : World} {g i P j : Nat} (h : ¬ P = g) (u : Value) : (w.setCell ⟨g, i, none⟩ u).cell? ⟨P, j, none⟩ = w.cell? ⟨P, j, none⟩ := by
  unfold World.cell?
  rw [Below.heap_setCell _ _ _ _ h]
theorem madeI (N : Nat) (hN : N ≤ 1000) (w : World) : (Instr.makeSlice 42 (.int .i64 (N : Int)) (.int .i64 (N : Int))).run Try.prog w = .ok (.slice (some ⟨w.heap.size, 0, none⟩) N N) (w.alloc (.cells (Array.replicate N (.int .i64 0)) 3)) := by
  obtain ⟨i0, hi0, hz0, hz1, hz2⟩ := info_parts infoI
  have h := run_makeSlice (P := Try.prog) w 42 3 i0 (.int .i64 0) Try.underlying42 hi0 hz0 .i64 .i64 (N : Int) (N : Int) (by omega) (by omega) (by rw [hz1]; simp; omega) (by rw [hz2]; omega) (by omega)
  rw [hz1] at h
  have e : madeCells (Value.cells (.int .i64 0)) (N * 1) = Array.replicate N (.int .i64 0) := by
    have := toList_madeCells_one (.int .i64 0) N
    apply Array.toList_inj.1
    rw [Nat.mul_one]
    show (madeCells #[.int .i64 0] N).toList = _
    rw [this]
    simp
  simp only [Int.toNat_natCast] at h
  rw [e] at h
  exact h
end Go.Proofs.Ytkbmpoiokdoclaa.SI
