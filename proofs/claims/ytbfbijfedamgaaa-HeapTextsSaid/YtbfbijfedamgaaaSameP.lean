/- The contract of alike.Same at *hortator/line.thing[int]: it holds two pointers against each other; the deferred call finds no panic. -/
import Derived.Test.YtbfbijfedamgaaaOwn
import Derived.Defers
import Derived.Recover
import Derived.Laws.Pointers
import Derived.LaidEqlPtr
namespace Go.Proofs.Ytbfbijfedamgaaa
open Go.RowKit

def mkP (x : Nat) : Value := .pointer (some ⟨x, 0, none⟩)
def okP (w : World) (F : List Nat) (x : Nat) : Prop := Fits w F x
theorem okP.only {w w' : World} {F F' : List Nat} {x : Nat} (h : okP w F x) (g : Only F w w') (hF : ∀ k ∈ F', k ∈ F ∨ w.heap.size ≤ k) : okP w' F' x := Fits.only h g hF
theorem mkP_one (x : Nat) : (mkP x).oneCell' = true := rfl

theorem sameP_idle (p : Addr) (w : World) :
    CallsD Try.prog 121 #[.pointer (some p)] .returning w fun e u' w' => e = .returned (.tuple #[]) ∧ u' = .returning ∧ w' = w := by
  refine callsD_of_wpS Try.func121 rfl fun c₀ cs hu => ?_
  apply wpS_seq
  apply wpS_region
  simp [wpOpsS, go_sem, recoverD, hu, Try.ntmps121, Exit.thenS]
  refine wpS_cond (t := false) (by simp [Act.eval, Array.replicate]) ?_
  simp only [Bool.false_eq_true, if_false]
  refine wpS_of_wp (wp_skip ?_)
  cases c₀
  simp_all [bodyPostS, results, Try.results121]

theorem infoP : (Try.prog.info? 113).map (fun i => i.size) = some 1 := by kernel_rfl

set_option maxHeartbeats 400000 in
theorem sameP_any (x y : Nat) (w : World) {F G : List Nat} (hx : okP w F x) (hy : okP w G y) :
    Calls Try.prog 111 #[.pointer (some ⟨x, 0, none⟩), .pointer (some ⟨y, 0, none⟩)] w fun e w' => e = .returned (.bool (decide (x = y))) ∧ Below w.heap.size w w' := by
  replace hx : IsCells w x := hx.1
  replace hy : IsCells w y := hy.1
  have hmf : ∀ (fn : Fn) (first cap : Array Value) (w : World), (Instr.makeFunc fn first cap).run Try.prog w = .ok (.func fn first cap) w := fun _ _ _ _ => rfl
  obtain ⟨j, hj, hsz⟩ : ∃ j, Try.prog.info? 113 = some j ∧ j.size = 1 := by
    have h := infoP
    cases e : Try.prog.info? 113 with
    | none => rw [e] at h; simp at h
    | some j => rw [e] at h; exact ⟨j, rfl, by simpa using h⟩
  by_cases hxy : x = y
  · subst hxy
    have law := fun w : World => run_eql_ptr_same (P := Try.prog) w (⟨x, 0, none⟩ : Addr) Try.underlying107 hj
    clear hx hy hj hsz
    go_enter_defers Try.func111, Try.ntmps111
    go_wp2
    refine leaves_cons (f := 121) (args := #[.pointer (some ⟨w.heap.size, 0, none⟩)]) (by simp) (by simp [go_sem]) ?_
    refine (sameP_idle ⟨w.heap.size, 0, none⟩ _).mono ?_
    rintro e u' w'' ⟨rfl, rfl, rfl⟩
    simp [Leaves, settle, results, Try.results111, go_sem]
    exact (Below.refl _ _).alloc (Nat.le_refl _) _
  · have K : Hid (decide (x = y) = false) := decide_eq_false hxy
    obtain ⟨cx, tx, hx⟩ := (hx.alloc (.cells #[.bool false] 4))
    obtain ⟨cy, ty, hy⟩ := (hy.alloc (.cells #[.bool false] 4))
    have law := run_eql_ptr_other (P := Try.prog) (w.alloc (.cells #[.bool false] 4)) (a := ⟨x, 0, none⟩) (b := ⟨y, 0, none⟩) Try.underlying107 hj (by omega) (fun h => by cases h; exact hxy rfl) hx hy
    clear hx hy hj hsz hxy
    go_enter_defers Try.func111, Try.ntmps111
    go_wp2
    refine leaves_cons (f := 121) (args := #[.pointer (some ⟨w.heap.size, 0, none⟩)]) (by simp) (by simp [go_sem]) ?_
    refine (sameP_idle ⟨w.heap.size, 0, none⟩ _).mono ?_
    rintro e u' w'' ⟨rfl, rfl, rfl⟩
    simp [Leaves, settle, results, Try.results111, go_sem, K.out]
    exact (Below.refl _ _).alloc (Nat.le_refl _) _
end Go.Proofs.Ytbfbijfedamgaaa
