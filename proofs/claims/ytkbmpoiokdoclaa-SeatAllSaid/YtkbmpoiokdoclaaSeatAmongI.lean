/- The seats of int among a few things. -/
import Derived.Test.YtkbmpoiokdoclaaSeatMoreI
import Derived.Test.YtkbmpoiokdoclaaLists
namespace Go.Proofs.Ytkbmpoiokdoclaa.SI
open Go.RowKit
theorem keeps {b : Nat} {room : Int} {v : Value} {ps : List (Int × Bool)} : Stays (foot b v) (fun u => Seats u b room v ps) := fun _ _ _ h g hS => h.only g hS
theorem few_put {W w w' : World} {b : Nat} {room : Int} {v v' : Value} {ps qs : List (Int × Bool)} {l : List Thing} (m : Few W l w) (i : Nat) (hi : l[i]? = some (foot b v, fun u => Seats u b room v ps)) (h : Seats w' b room v' qs) (o : Only (foot b v) w w') (f : ∀ k ∈ foot b v', k ∈ foot b v ∨ w.heap.size ≤ k) : Few W (l.set i (foot b v', fun u => Seats u b room v' qs)) w' := by
  have e : (l.getD i nothing).1 = foot b v := by simp [List.getD, hi]
  exact m.turn i (List.getElem?_eq_some_iff.1 hi).1 (by rw [e]; exact o) h h.foot_lt (by rw [e]; exact f) keeps
theorem few_set {W w w' : World} {b : Nat} {room : Int} {v : Value} {ps qs : List (Int × Bool)} {l : List Thing} (m : Few W l w) (i : Nat) (hi : l[i]? = some (foot b v, fun u => Seats u b room v ps)) (h : Seats w' b room v qs) (o : Only (foot b v) w w') : Few W (l.set i (foot b v, fun u => Seats u b room v qs)) w' :=
  few_put m i hi h o (fun _ hk => .inl hk)
/-- All taken. -/
def Full (ps : List (Int × Bool)) : Prop := ∀ p ∈ ps, p.2 = true
theorem Full.free {ps : List (Int × Bool)} (h : Full ps) : IsFree ps ps.length := ⟨Nat.le_refl _, fun _ p _ hp => h p (List.mem_of_getElem? hp), fun p hp => by have := (List.getElem?_eq_some_iff.1 hp).1; omega⟩
theorem Full.at {ps : List (Int × Bool)} (h : Full ps) {i : Nat} (hi : i < ps.length) : ∃ x, ps[i]? = some (x, true) := by
  have := h _ (List.getElem_mem hi)
  refine ⟨ps[i].1, ?_⟩
  rw [List.getElem?_eq_getElem hi]
  congr 1
  exact Prod.ext rfl this
theorem Full.snoc {ps : List (Int × Bool)} (h : Full ps) (x : Int) : Full (ps ++ [(x, true)]) := by
  intro p hp
  rcases List.mem_append.1 hp with q | q
  · exact h p q
  · simp at q; subst q; rfl
theorem Full.set {ps : List (Int × Bool)} (h : Full ps) (i : Nat) (x : Int) : Full (ps.set i (x, true)) := by
  intro p hp
  rcases List.mem_or_eq_of_mem_set hp with q | q
  · exact h p q
  · subst q; rfl
/-- One place is free alone. -/
theorem Full.gap {ps : List (Int × Bool)} (h : Full ps) {i : Nat} (hi : i < ps.length) (x : Int) : IsFree (ps.set i (x, false)) i := by
  refine ⟨by simp; omega, fun j p hj hp => ?_, fun p hp => ?_⟩
  · rw [List.getElem?_set_ne (by omega)] at hp
    exact h p (List.mem_of_getElem? hp)
  · rw [List.getElem?_set_self hi] at hp
    cases hp; rfl
theorem Full.ids {ps : List (Int × Bool)} (h : Full ps) : ∀ k, k ≤ ps.length → (idsTo ps k).length = k := by
  intro k
  induction k with
  | zero => intro _; simp [idsTo]
  | succ k ih =>
    intro hk
    obtain ⟨x, hx⟩ := h.at (show k < ps.length by omega)
    rw [idsTo, hx]
    simp [ih (by omega)]
/-- What stands free is not there. -/
theorem has_gap {b : Nat} {room : Int} {v : Value} {ps : List (Int × Bool)} {x : Int} (i : Nat) (id : Int) (w : World) (h : Seats w b room v ps) (hp : ps[i]? = some (x, false)) (hid : id = i + 1) :
    Calls Try.prog 65 #[.pointer (some ⟨b, 0, none⟩), .int .i64 id] w fun e w' => e = .returned (.bool false) ∧ w' = w := has_in i id w h hp hid
end Go.Proofs.Ytkbmpoiokdoclaa.SI
