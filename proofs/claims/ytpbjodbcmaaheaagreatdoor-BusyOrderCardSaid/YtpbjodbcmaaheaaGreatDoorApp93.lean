/- Lists that a law builds load by load; a load in a box. -/
import Derived.Test.YtpbjodbcmaaheaaGreatDoorApp9
import Derived.Test.YtpbjodbcmaaheaaGreatDoorBMath6
import Derived.Test.YtpbjodbcmaaheaaGreatDoorBegun9
namespace Go.Proofs.YtpbjodbcmaaheaaGreatDoor
open Go Go.RowKit

theorem app_own {W w' : World} {B n c : Nat} {o : Obj} {b : Option Addr} {l : List Sec} {x : Sec} {v' : Value} (D : OwnL W B (.slice b n c) l) (hn : l.length = n) (hB : B ≤ W.heap.size)
    (own' : w'.ownsRow B 31 3 v' (n + 1) (secC l ++ secC [x])) (gr : (W.alloc o).grownBy w' (Value.slice b n c).ownBlock) :
    ∃ a' cap', v' = .slice a' (n + 1) cap' ∧ OwnL w' B (.slice a' (n + 1) cap') (l ++ [x]) ∧ Below B W w' := by
  have ou : OwnL w' B v' (l ++ [x]) := by
    unfold OwnL
    rw [secC_append, List.length_append, hn]
    exact own'
  obtain ⟨a', cap', rfl⟩ := ou.form
  rw [show (l ++ [x]).length = n + 1 by rw [List.length_append, hn]; rfl] at ou ⊢
  exact ⟨a', cap', rfl, ou, ((balloc W o).mono hB).trans (gr_bel gr (fun k hk => (D.lt k hk).1) (by simp; omega))⟩
theorem OwnL.nil (w : World) (B : Nat) : OwnL w B (.slice none 0 0) [] := World.ownsRow_nil _ _ _ _
theorem OwnL.belowB {w w' : World} {base : Nat} {u : Value} {l : List Sec} (h : OwnL w base u l) (g : Below w.heap.size w w') : OwnL w' base u l := h.below g
theorem one_bad {c d t : Int} (h : loadB c d t = false) : ldsB [⟨c, d, t⟩] = false := lds_no (k := 0) (s := ⟨c, d, t⟩) rfl h
theorem fit_bad {l : List Sec} (h : ldsB l = false) : fitB l = false := by unfold fitB; rw [(time_bad h).1]; rfl
theorem dueV_bad {l : List Sec} {t : Int} (h : ldsB l = false) : dueV l t = 0 := dueV_no (by rw [h]; simp)
theorem rep_succ (k : Nat) (x : Sec) : List.replicate k x ++ [x] = List.replicate (k + 1) x := (List.replicate_succ').symm
set_option maxHeartbeats 1000000 in
theorem b2i_yes (x : Bool) (w : World) (h : x = true) : Calls Tryz.prog 40 #[.bool x] w fun e w' => e = .returned (.int .i64 1) ∧ w' = w := by
  subst h
  go_enter Tryz.func40, Tryz.ntmps40
  go_wp2
  go_ret
  exact ⟨rfl, rfl⟩
set_option maxHeartbeats 1000000 in
theorem b2i_no (x : Bool) (w : World) (h : x = false) : Calls Tryz.prog 40 #[.bool x] w fun e w' => e = .returned (.int .i64 0) ∧ w' = w := by
  subst h
  go_enter Tryz.func40, Tryz.ntmps40
  go_wp2
  go_ret
  exact ⟨rfl, rfl⟩
end Go.Proofs.YtpbjodbcmaaheaaGreatDoor
