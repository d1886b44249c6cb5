/- The contract of alike.Same at string: it holds two against each other; the deferred call finds no panic. -/
import Derived.Test.YtbfbijfedamgaaaOwn
import Derived.Defers
import Derived.Recover
import Derived.Laws.Pointers
namespace Go.Proofs.Ytbfbijfedamgaaa
open Go.RowKit

def mkS (x : ByteArray) : Value := .string x
def okS (_ : World) (_ : List Nat) (_ : ByteArray) : Prop := True
theorem okS.only {w w' : World} {F F' : List Nat} {x : ByteArray} (_ : okS w F x) (_ : Only F w w') (_ : ∀ k ∈ F', k ∈ F ∨ w.heap.size ≤ k) : okS w' F' x := trivial
theorem mkS_one (x : ByteArray) : (mkS x).oneCell' = true := rfl

theorem sameS_idle (p : Addr) (w : World) :
    CallsD Try.prog 107 #[.pointer (some p)] .returning w fun e u' w' => e = .returned (.tuple #[]) ∧ u' = .returning ∧ w' = w := by
  refine callsD_of_wpS Try.func107 rfl fun c₀ cs hu => ?_
  apply wpS_seq
  apply wpS_region
  simp [wpOpsS, go_sem, recoverD, hu, Try.ntmps107, Exit.thenS]
  refine wpS_cond (t := false) (by simp [Act.eval, Array.replicate]) ?_
  simp only [Bool.false_eq_true, if_false]
  refine wpS_of_wp (wp_skip ?_)
  cases c₀
  simp_all [bodyPostS, results, Try.results107]

set_option maxHeartbeats 400000 in
theorem sameS_any (x y : ByteArray) (w : World) {F G : List Nat} (_ : okS w F x) (_ : okS w G y) :
    Calls Try.prog 85 #[.string x, .string y] w fun e w' => e = .returned (.bool (decide (x = y))) ∧ Below w.heap.size w w' := by
  have hmf : ∀ (fn : Fn) (first cap : Array Value) (w : World), (Instr.makeFunc fn first cap).run Try.prog w = .ok (.func fn first cap) w := fun _ _ _ _ => rfl
  go_enter_defers Try.func85, Try.ntmps85
  go_wp2
  refine leaves_cons (f := 107) (args := #[.pointer (some ⟨w.heap.size, 0, none⟩)]) (by simp) (by simp [go_sem]) ?_
  refine (sameS_idle ⟨w.heap.size, 0, none⟩ _).mono ?_
  rintro e u' w'' ⟨rfl, rfl, rfl⟩
  simp [Leaves, settle, results, Try.results85, go_sem]
  exact ⟨by rw [Bool.eq_iff_iff]; simp only [beq_iff_eq, decide_eq_true_eq, ByteArray.toList_eq, ByteArray.ext_iff]; exact Array.toList_inj, (Below.refl _ _).alloc (Nat.le_refl _) _⟩
end Go.Proofs.Ytbfbijfedamgaaa
