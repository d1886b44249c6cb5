/- The contracts of package most. -/
import Derived.Test.YtakdliecjfeedaaGreatDoorGreat
import Derived.Test.YtakdliecjfeedaaGreatDoorOwn9
import Derived.Test.YtakdliecjfeedaaGreatDoorMMath
import Derived.Test.YtakdliecjfeedaaGreatDoorMMath
namespace Go.Proofs.YtakdliecjfeedaaGreatDoor
open Go Go.RowKit

theorem great_most {l : List Sec} {d t top z : Int} {n : Nat} (hn : l.length = n) (h1 : ¬ d < 1) (h2 : ¬ t < d) (h3 : ¬ 200 < t) (hz : min top d = z) : greatV (pFit l d t) n z = mostV l d t top := by
  unfold greatV
  split
  · unfold mostV
    rw [may_yes (by omega) (by omega) (by omega) (by omega), hz]; rfl
  · rw [most_no (may_no (by omega))]
theorem great_tight {l : List Sec} {t top z : Int} {n : Nat} (hn : l.length = n) (h1 : ¬ t < 1) (h3 : ¬ 200 < t) (hz : min top t = z) : greatV (pTight l t) n z = tightV l t top := by
  unfold greatV
  split
  · unfold tightV
    rw [may_yes (by omega) (by omega) (by omega) (by omega), hz]; rfl
  · rw [tight_no (may_no (by omega))]
set_option maxHeartbeats 4000000 in
theorem mfit_any (a : Option Addr) (n cap : Nat) (l : List Sec) (d t top : Int) (w : World) (hv : Secs w (.slice a n cap) l) (hcap : n ≤ cap) (hn : l.length = n) (n6 : n ≤ 1000) :
    Calls Tryz.prog 62 #[.slice a n cap, .int .i64 d, .int .i64 t, .int .i64 top] w fun e w' => e = .returned (.int .i64 (mostV l d t top)) ∧ Below w.heap.size w w' := by
  by_cases h1 : d < 1
  · have HR : Hid (mostV l d t top = 0) := most_no (may_no (by omega))
    go_enter Tryz.func62, Tryz.ntmps62
    go_wp2_with fail
    go_ret
    exact ⟨ret_int HR.out.symm, btrans (balloc _ _) (balloc _ _)⟩
  by_cases h2 : t < d
  · have HR : Hid (mostV l d t top = 0) := most_no (may_no (by omega))
    go_enter Tryz.func62, Tryz.ntmps62
    go_wp2_with fail
    go_ret
    exact ⟨ret_int HR.out.symm, btrans (balloc _ _) (balloc _ _)⟩
  by_cases h3 : 200 < t
  · have HR : Hid (mostV l d t top = 0) := most_no (may_no (by omega))
    go_enter Tryz.func62, Tryz.ntmps62
    go_wp2_with fail
    go_ret
    exact ⟨ret_int HR.out.symm, btrans (balloc _ _) (balloc _ _)⟩
  obtain ⟨z, hz⟩ : ∃ z, min top d = z := ⟨_, rfl⟩
  have z2 : z ≤ 200 := by omega
  have HR : Hid (greatV (pFit l d t) n z = mostV l d t top) := great_most hn h1 h2 h3 hz
  have b0 : Hid (Below w.heap.size w ((w.alloc (.cells #[.int .i64 d] 2)).alloc (.cells #[.int .i64 t] 2))) := btrans (balloc _ _) (balloc _ _)
  have HS : Hid (Secs ((w.alloc (.cells #[.int .i64 d] 2)).alloc (.cells #[.int .i64 t] 2)) (.slice a n cap) l) := hv.below b0.out
  have HN : Hid (l.length = n) := hn
  clear hv hn
  go_enter Tryz.func62, Tryz.ntmps62
  go_wp2_with (go_at_call 75; refine (greatFit_any w.heap.size (w.heap.size + 1) n cap a l d t z _ HS.out hcap HN.out n6 z2 ⟨by simp, by simp⟩).mono ?_; rintro e w2 ⟨rfl, g2⟩; have G2 : Hid (Below w.heap.size w w2) := btrans b0.out g2; clear g2)
  go_ret
  exact ⟨ret_int HR.out, G2.out⟩
set_option maxHeartbeats 4000000 in
theorem mtight_any (a : Option Addr) (n cap : Nat) (l : List Sec) (t top : Int) (w : World) (hv : Secs w (.slice a n cap) l) (hcap : n ≤ cap) (hn : l.length = n) (n6 : n ≤ 1000) :
    Calls Tryz.prog 63 #[.slice a n cap, .int .i64 t, .int .i64 top] w fun e w' => e = .returned (.int .i64 (tightV l t top)) ∧ Below w.heap.size w w' := by
  by_cases h1 : t < 1
  · have HR : Hid (tightV l t top = 0) := tight_no (may_no (by omega))
    go_enter Tryz.func63, Tryz.ntmps63
    go_wp2_with fail
    go_ret
    exact ⟨ret_int HR.out.symm, balloc _ _⟩
  by_cases h3 : 200 < t
  · have HR : Hid (tightV l t top = 0) := tight_no (may_no (by omega))
    go_enter Tryz.func63, Tryz.ntmps63
    go_wp2_with fail
    go_ret
    exact ⟨ret_int HR.out.symm, balloc _ _⟩
  obtain ⟨z, hz⟩ : ∃ z, min top t = z := ⟨_, rfl⟩
  have z2 : z ≤ 200 := by omega
  have HR : Hid (greatV (pTight l t) n z = tightV l t top) := great_tight hn h1 h3 hz
  have b0 : Hid (Below w.heap.size w (w.alloc (.cells #[.int .i64 t] 2))) := balloc _ _
  have HS : Hid (Secs (w.alloc (.cells #[.int .i64 t] 2)) (.slice a n cap) l) := hv.below b0.out
  have HN : Hid (l.length = n) := hn
  clear hv hn
  go_enter Tryz.func63, Tryz.ntmps63
  go_wp2_with (go_at_call 75; refine (greatTight_any w.heap.size n cap a l t z _ HS.out hcap HN.out n6 z2 (by simp)).mono ?_; rintro e w2 ⟨rfl, g2⟩; have G2 : Hid (Below w.heap.size w w2) := btrans b0.out g2; clear g2)
  go_ret
  exact ⟨ret_int HR.out, G2.out⟩
end Go.Proofs.YtakdliecjfeedaaGreatDoor
