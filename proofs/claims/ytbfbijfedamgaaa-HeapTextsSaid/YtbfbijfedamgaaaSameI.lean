/- The contract of alike.Same at int: it holds two against each other; the deferred call finds no panic. -/
import Derived.Test.YtbfbijfedamgaaaOwn
import Derived.Defers
import Derived.Recover
import Derived.Laws.Pointers
namespace Go.Proofs.Ytbfbijfedamgaaa
open Go.RowKit

def mkI (x : Int) : Value := .int .i64 x
def okI (_ : World) (_ : List Nat) (_ : Int) : Prop := True
theorem okI.only {w w' : World} {F F' : List Nat} {x : Int} (_ : okI w F x) (_ : Only F w w') (_ : ∀ k ∈ F', k ∈ F ∨ w.heap.size ≤ k) : okI w' F' x := trivial
theorem mkI_one (x : Int) : (mkI x).oneCell' = true := rfl

theorem sameI_idle (p : Addr) (w : World) :
    CallsD Try.prog 104 #[.pointer (some p)] .returning w fun e u' w' => e = .returned (.tuple #[]) ∧ u' = .returning ∧ w' = w := by
  refine callsD_of_wpS Try.func104 rfl fun c₀ cs hu => ?_
  apply wpS_seq
  apply wpS_region
  simp [wpOpsS, go_sem, recoverD, hu, Try.ntmps104, Exit.thenS]
  refine wpS_cond (t := false) (by simp [Act.eval, Array.replicate]) ?_
  simp only [Bool.false_eq_true, if_false]
  refine wpS_of_wp (wp_skip ?_)
  cases c₀
  simp_all [bodyPostS, results, Try.results104]

set_option maxHeartbeats 400000 in
theorem sameI_any (x y : Int) (w : World) {F G : List Nat} (_ : okI w F x) (_ : okI w G y) :
    Calls Try.prog 82 #[.int .i64 x, .int .i64 y] w fun e w' => e = .returned (.bool (decide (x = y))) ∧ Below w.heap.size w w' := by
  have hmf : ∀ (fn : Fn) (first cap : Array Value) (w : World), (Instr.makeFunc fn first cap).run Try.prog w = .ok (.func fn first cap) w := fun _ _ _ _ => rfl
  go_enter_defers Try.func82, Try.ntmps82
  go_wp2
  refine leaves_cons (f := 104) (args := #[.pointer (some ⟨w.heap.size, 0, none⟩)]) (by simp) (by simp [go_sem]) ?_
  refine (sameI_idle ⟨w.heap.size, 0, none⟩ _).mono ?_
  rintro e u' w'' ⟨rfl, rfl, rfl⟩
  simp [Leaves, settle, results, Try.results82, go_sem]
  exact ⟨rfl, (Below.refl _ _).alloc (Nat.le_refl _) _⟩
end Go.Proofs.Ytbfbijfedamgaaa
