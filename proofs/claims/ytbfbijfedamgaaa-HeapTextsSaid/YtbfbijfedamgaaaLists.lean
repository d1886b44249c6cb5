/- Small facts about plain lists. -/
import Derived.Test.YtbfbijfedamgaaaFew
import Derived.Deep.DeepCutAuto
namespace Go.Proofs.Ytbfbijfedamgaaa
open Go.RowKit
/-- The numbers from nought on, so many. -/
def upTo (n : Nat) : List Int := (List.range n).map (fun i : Nat => (i : Int))
theorem upTo_length (n : Nat) : (upTo n).length = n := by simp [upTo]
theorem upTo_succ (n : Nat) : upTo (n + 1) = upTo n ++ [(n : Int)] := by simp [upTo, List.range_succ]
theorem upTo_get {n i : Nat} (h : i < n) : (upTo n)[i]? = some (i : Int) := by simp [upTo, h]
theorem upTo_drop {n i : Nat} (h : i < n) : (upTo n).drop i = (i : Int) :: (upTo n).drop (i + 1) := by
  have hl : i < (upTo n).length := by rw [upTo_length]; exact h
  rw [List.drop_eq_getElem_cons hl]
  congr 1
  have := upTo_get h
  rw [List.getElem?_eq_getElem hl] at this
  exact Option.some.inj this
/-- The numbers from F on, L of them. -/
def run (F L : Nat) : List Int := (List.range L).map (fun i : Nat => ((F + i : Nat) : Int))
theorem run_length (F L : Nat) : (run F L).length = L := by simp [run]
theorem run_snoc (F L : Nat) : run F (L + 1) = run F L ++ [((F + L : Nat) : Int)] := by simp [run, List.range_succ]
theorem run_cons (F L : Nat) : run F (L + 1) = (F : Int) :: run (F + 1) L := by
  unfold run
  rw [List.range_succ_eq_map, List.map_cons, List.map_map]
  congr 1
  apply List.map_congr_left
  intro i _
  show ((F + (i + 1) : Nat) : Int) = _
  congr 1
  omega
theorem cons_of_map {α β : Type} {f : α → β} {q : List α} {x : β} {r : List β} (h : q.map f = x :: r) : ∃ p q', q = p :: q' ∧ f p = x ∧ q'.map f = r := by
  cases q with
  | nil => simp at h
  | cons p q' => simp at h; exact ⟨p, q', rfl, h.1, h.2⟩
end Go.Proofs.Ytbfbijfedamgaaa
