/- The contracts of package rule's small functions. -/
import Derived.Test.YtcgmbfpmcldfdaaGreatDoorSpec
namespace Go.Proofs.YtcgmbfpmcldfdaaGreatDoor
open Go Go.RowKit

theorem within_int (v lo hi : Int) (w : World) :
    Calls Tryz.prog 51 #[.int .i64 v, .int .i64 lo, .int .i64 hi] w fun e w' => e = .returned (.bool (inB v lo hi)) ∧ w' = w := by
  by_cases h1 : lo ≤ v
  · by_cases h2 : v ≤ hi
    · rw [inB_iff.2 ⟨h1, h2⟩]
      go_enter Tryz.func51, Tryz.ntmps51
      go_wp2
      go_ret
      exact ⟨rfl, rfl⟩
    · rw [inB_no.2 (fun h => h2 h.2)]
      go_enter Tryz.func51, Tryz.ntmps51
      go_wp2
      go_ret
      exact ⟨rfl, rfl⟩
  · rw [inB_no.2 (fun h => h1 h.1)]
    go_enter Tryz.func51, Tryz.ntmps51
    go_wp2
    go_ret
    exact ⟨rfl, rfl⟩
theorem within_i64 (v lo hi : Int) (w : World) :
    Calls Tryz.prog 41 #[.int .i64 v, .int .i64 lo, .int .i64 hi] w fun e w' => e = .returned (.bool (inB v lo hi)) ∧ w' = w := by
  by_cases h1 : lo ≤ v
  · by_cases h2 : v ≤ hi
    · rw [inB_iff.2 ⟨h1, h2⟩]
      go_enter Tryz.func41, Tryz.ntmps41
      go_wp2
      go_ret
      exact ⟨rfl, rfl⟩
    · rw [inB_no.2 (fun h => h2 h.2)]
      go_enter Tryz.func41, Tryz.ntmps41
      go_wp2
      go_ret
      exact ⟨rfl, rfl⟩
  · rw [inB_no.2 (fun h => h1 h.1)]
    go_enter Tryz.func41, Tryz.ntmps41
    go_wp2
    go_ret
    exact ⟨rfl, rfl⟩
theorem one_of (n i : Int) (w : World) :
    Calls Tryz.prog 55 #[.int .i64 n, .int .i64 i] w fun e w' => e = .returned (.bool (oneOfB n i)) ∧ w' = w := by
  by_cases h1 : 0 ≤ i
  · by_cases h2 : i < n
    · rw [oneOfB_iff.2 ⟨h1, h2⟩]
      go_enter Tryz.func55, Tryz.ntmps55
      go_wp2
      go_ret
      exact ⟨rfl, rfl⟩
    · rw [oneOfB_no.2 (fun h => h2 h.2)]
      go_enter Tryz.func55, Tryz.ntmps55
      go_wp2
      go_ret
      exact ⟨rfl, rfl⟩
  · rw [oneOfB_no.2 (fun h => h1 h.1)]
    go_enter Tryz.func55, Tryz.ntmps55
    go_wp2
    go_ret
    exact ⟨rfl, rfl⟩

theorem resB_take {n : Int} {l : List Int} {k : Nat} {x : Int} (h : l[k]? = some x) : resB n (l.take (k + 1)) = (resB n (l.take k) && oneOfB n x) := by
  obtain ⟨hk, rfl⟩ := List.getElem?_eq_some_iff.1 h
  unfold resB
  rw [List.take_succ_eq_append_getElem hk]
  simp only [List.all_append, List.all_cons, List.all_nil, Bool.and_true]
theorem resB_no {n : Int} {l : List Int} {k : Nat} {x : Int} (h : l[k]? = some x) (hx : oneOfB n x = false) : resB n l = false := by
  unfold resB
  rw [List.all_eq_false]
  exact ⟨x, List.mem_of_getElem? h, by simp [hx]⟩

set_option maxHeartbeats 1000000 in
theorem resources_any (co sy la mo : Int) (v : Value) (l : List Int) (w : World) (hv : Ints w v l) (hl : l.length ≤ 1000000) :
    Calls Tryz.prog 52 #[.agg #[.int .i64 co, .int .i64 sy, .int .i64 la, .int .i64 mo, v]] w fun e w' => e = .returned (.bool (resAllB sy l)) ∧ Below w.heap.size w w' := by
  rcases hv with ⟨rfl, a, cap, rfl⟩ | ⟨b, cap, rfl, hb, hc⟩
  · go_enter Tryz.func52, Tryz.ntmps52
    go_wp2
    go_loop [12] (fun i => i = .int .i64 0) (fun _ => 0)
    case atStart => rfl
    case round =>
      subst hrel
      go_wp2
      go_ret
      exact ⟨rfl, balloc _ _⟩
  · by_cases h6 : l.length ≤ 6
    · have hn : ¬ (6 < (l.length : Int)) := by omega
      have hw : ¬ b = w.heap.size := by omega
      have hr : resAllB sy l = resB sy l := by unfold resAllB; simp [h6]
      rw [hr]
      clear hr
      have HC : Hid (∀ (j : Nat) (x : Int), l[j]? = some x → w.cell? ⟨b, j, none⟩ = some (.int .i64 x)) := hc
      clear hc
      go_enter Tryz.func52, Tryz.ntmps52
      go_wp2
      go_loop [12] (fun i => ∃ k : Nat, k ≤ l.length ∧ i = .int .i64 k ∧ resB sy (l.take k) = true) (fun i => l.length - (intOf i).toNat)
      case atStart => exact ⟨0, Nat.zero_le _, rfl, rfl⟩
      case round =>
        obtain ⟨k, hk, rfl, hh⟩ := hrel
        have HH : Hid (resB sy (l.take k) = true) := hh
        clear hh
        by_cases hlt : k < l.length
        · obtain ⟨x, hx⟩ : ∃ x, l[k]? = some x := ⟨_, List.getElem?_eq_getElem hlt⟩
          have cx := HC.out k x hx
          have HX : Hid (l[k]? = some x) := hx
          clear hx
          cases ho : oneOfB sy x
          · go_wp2_with (go_at_call 55; refine (one_of _ _ _).mono ?_; rintro e w' ⟨rfl, rfl⟩)
            go_ret
            exact ⟨ret_bool (resB_no HX.out ho).symm, balloc _ _⟩
          · go_wp2_with (go_at_call 55; refine (one_of _ _ _).mono ?_; rintro e w' ⟨rfl, rfl⟩)
            go_round
            case rel => exact ⟨k + 1, by omega, by go_num, by rw [resB_take HX.out, HH.out, ho]; rfl⟩
            case measure => simp [intOf]; omega
        · go_wp2
          go_ret
          have e : l.take k = l := List.take_of_length_le (by omega)
          have := HH.out
          rw [e] at this
          exact ⟨ret_bool this.symm, balloc _ _⟩
    · have hn : 6 < (l.length : Int) := by omega
      have hr : resAllB sy l = false := by unfold resAllB; simp [h6]
      rw [hr]
      clear hr
      go_enter Tryz.func52, Tryz.ntmps52
      go_wp2
      go_ret
      exact ⟨rfl, balloc _ _⟩
end Go.Proofs.YtcgmbfpmcldfdaaGreatDoor
