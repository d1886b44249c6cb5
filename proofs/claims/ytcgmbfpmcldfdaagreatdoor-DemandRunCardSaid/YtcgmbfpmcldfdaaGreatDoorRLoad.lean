/- The document's own load: hortatorref7.Load. -/
import Derived.Test.YtcgmbfpmcldfdaaGreatDoorDem2
namespace Go.Proofs.YtcgmbfpmcldfdaaGreatDoor
open Go Go.RowKit

theorem rin_at (v lo hi : Int) (w : World) :
    Calls Tryz.prog 16 #[.int .i64 v, .int .i64 lo, .int .i64 hi] w fun e w' => e = .returned (.bool (inB v lo hi)) ∧ w' = w := by
  by_cases h1 : lo ≤ v
  · by_cases h2 : v ≤ hi
    · rw [inB_iff.2 ⟨h1, h2⟩]
      go_enter Tryz.func16, Tryz.ntmps16
      go_wp2
      go_ret
      exact ⟨rfl, rfl⟩
    · rw [inB_no.2 (fun h => h2 h.2)]
      go_enter Tryz.func16, Tryz.ntmps16
      go_wp2
      go_ret
      exact ⟨rfl, rfl⟩
  · rw [inB_no.2 (fun h => h1 h.1)]
    go_enter Tryz.func16, Tryz.ntmps16
    go_wp2
    go_ret
    exact ⟨rfl, rfl⟩
theorem loadB_not {c d t : Int} (h : ¬ ((1 ≤ c ∧ c ≤ 20000) ∧ 1 ≤ d ∧ d ≤ t ∧ t ≤ 200)) : loadB c d t = false := by
  rw [← Bool.not_eq_true]
  simp only [loadB, Bool.and_eq_true, inB_iff]
  omega
theorem loadB_yes {c d t : Int} (h : 1 ≤ c ∧ c ≤ 20000) (h1 : 1 ≤ d) (h2 : d ≤ t) (h3 : t ≤ 200) : loadB c d t = true := by
  simp only [loadB, Bool.and_eq_true, inB_iff]
  omega
set_option maxHeartbeats 1000000 in
theorem rload_any (c d t : Int) (w : World) :
    Calls Tryz.prog 8 #[.agg #[.int .i64 c, .int .i64 d, .int .i64 t]] w fun e w' => e = .returned (.bool (loadB c d t)) ∧ Below w.heap.size w w' := by
  cases h1 : inB c 1 20000
  · have HR : Hid (loadB c d t = false) := loadB_not (fun h => inB_no.1 h1 h.1)
    go_enter Tryz.func8, Tryz.ntmps8
    go_wp2_with (go_at_call 16; refine (rin_at _ _ _ _).mono ?_; rintro e w' ⟨rfl, rfl⟩)
    go_ret
    exact ⟨ret_bool HR.out.symm, balloc _ _⟩
  have k1 := inB_iff.1 h1
  by_cases h2 : 1 ≤ d
  · by_cases h3 : d ≤ t
    · by_cases h4 : t ≤ 200
      · have HR : Hid (loadB c d t = true) := loadB_yes k1 h2 h3 h4
        clear k1
        go_enter Tryz.func8, Tryz.ntmps8
        go_wp2_with (go_at_call 16; refine (rin_at _ _ _ _).mono ?_; rintro e w' ⟨rfl, rfl⟩)
        go_ret
        exact ⟨ret_bool HR.out.symm, balloc _ _⟩
      · have HR : Hid (loadB c d t = false) := loadB_not (fun h => h4 h.2.2.2)
        clear k1
        go_enter Tryz.func8, Tryz.ntmps8
        go_wp2_with (go_at_call 16; refine (rin_at _ _ _ _).mono ?_; rintro e w' ⟨rfl, rfl⟩)
        go_ret
        exact ⟨ret_bool (by rw [HR.out]; simp; omega), balloc _ _⟩
    · have HR : Hid (loadB c d t = false) := loadB_not (fun h => h3 h.2.2.1)
      clear k1
      go_enter Tryz.func8, Tryz.ntmps8
      go_wp2_with (go_at_call 16; refine (rin_at _ _ _ _).mono ?_; rintro e w' ⟨rfl, rfl⟩)
      go_ret
      exact ⟨ret_bool HR.out.symm, balloc _ _⟩
  · have HR : Hid (loadB c d t = false) := loadB_not (fun h => h2 h.2.1)
    clear k1
    go_enter Tryz.func8, Tryz.ntmps8
    go_wp2_with (go_at_call 16; refine (rin_at _ _ _ _).mono ?_; rintro e w' ⟨rfl, rfl⟩)
    go_ret
    exact ⟨ret_bool HR.out.symm, balloc _ _⟩
end Go.Proofs.YtcgmbfpmcldfdaaGreatDoor
