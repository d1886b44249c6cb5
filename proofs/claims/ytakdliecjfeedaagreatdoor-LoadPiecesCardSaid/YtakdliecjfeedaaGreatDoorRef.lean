/- The contracts of the document's own rules: in, Config. -/
import Derived.Test.YtakdliecjfeedaaGreatDoorSame
import Derived.Test.YtakdliecjfeedaaGreatDoorRule3
namespace Go.Proofs.YtakdliecjfeedaaGreatDoor
open Go Go.RowKit

theorem rin_any (v lo hi : Int) (w : World) :
    Calls Tryz.prog 41 #[.int .i64 v, .int .i64 lo, .int .i64 hi] w fun e w' => e = .returned (.bool (inB v lo hi)) ∧ w' = w := by
  by_cases h1 : lo ≤ v
  · by_cases h2 : v ≤ hi
    · rw [inB_iff.2 ⟨h1, h2⟩]
      go_enter Tryz.func41, Tryz.ntmps41
      go_wp2
      go_ret
      exact ⟨rfl, rfl⟩
    · rw [inB_no.2 (fun h => h2 h.2)]
      go_enter Tryz.func41, Tryz.ntmps41
      go_wp2
      go_ret
      exact ⟨rfl, rfl⟩
  · rw [inB_no.2 (fun h => h1 h.1)]
    go_enter Tryz.func41, Tryz.ntmps41
    go_wp2
    go_ret
    exact ⟨rfl, rfl⟩
theorem cfgB_no {co sy la mo : Int} {l : List Int} (h : resB sy l = false) : cfgB ⟨co, sy, la, mo, l⟩ = false := by unfold cfgB resAllB; simp [h]
theorem cfgB_of {co sy la mo : Int} {l : List Int} (h : resB sy l = true) : cfgB ⟨co, sy, la, mo, l⟩ = (inB co 1 6 && inB sy 0 3 && inB la 0 5 && inB mo 0 5 && decide ((l.length : Int) ≤ 6)) := by
  unfold cfgB resAllB
  rw [h, Bool.and_true, show decide (l.length ≤ 6) = decide ((l.length : Int) ≤ 6) from by rw [decide_eq_decide]; omega]
/-- Behind the loop. -/
theorem rtail5 (a b c d e : Bool) : (a && b && c && d && e) = (if a then (if b then (if c then (if d then e else false) else false) else false) else false) := by cases a <;> cases b <;> cases c <;> cases d <;> rfl

set_option maxHeartbeats 4000000 in
theorem refConfig_any (co sy la mo : Int) (v : Value) (l : List Int) (w : World) (hv : Ints w v l) (hl : l.length ≤ 1000000) :
    Calls Tryz.prog 34 #[.agg #[.int .i64 co, .int .i64 sy, .int .i64 la, .int .i64 mo, v]] w fun e w' => e = .returned (.bool (cfgB ⟨co, sy, la, mo, l⟩)) ∧ Below w.heap.size w w' := by
  obtain ⟨a, cap, rfl⟩ := hv.form
  obtain ⟨n, hn⟩ : ∃ n, n = l.length := ⟨_, rfl⟩
  have HV : Hid (Ints w (.slice a l.length cap) l) := hv
  clear hv
  rw [← hn] at HV ⊢
  have HN : Hid (n = l.length) := hn
  have hn6 : n ≤ 1000000 := by omega
  have B0 : Hid (Below w.heap.size w (w.alloc (.cells #[.int .i64 co, .int .i64 sy, .int .i64 la, .int .i64 mo, .slice a n cap] 24))) := balloc _ _
  have K0 : Hid (Blk (w.alloc (.cells #[.int .i64 co, .int .i64 sy, .int .i64 la, .int .i64 mo, .slice a n cap] 24)) w.heap.size #[.int .i64 co, .int .i64 sy, .int .i64 la, .int .i64 mo, .slice a n cap] 24) := heap_alloc_new _ _
  clear hn hl
  go_enter Tryz.func34, Tryz.ntmps34
  go_wp2_with fail
  go_loopw [3] (fun i wr => ∃ k : Nat, k ≤ n ∧ i = .int .i64 k ∧ resB sy (l.take k) = true ∧ Blk wr w.heap.size #[.int .i64 co, .int .i64 sy, .int .i64 la, .int .i64 mo, .slice a n cap] 24 ∧ Below w.heap.size w wr) (fun i _ => n - (intOf i).toNat)
  case atStart => exact ⟨0, Nat.zero_le _, rfl, rfl, K0.out, B0.out⟩
  case round =>
    obtain ⟨k, hk, rfl, hh, hK, hB⟩ := hrel
    have HH : Hid (resB sy (l.take k) = true) := hh
    have B : Hid (Below w.heap.size w wr) := hB
    have c0 : wr.cell? ⟨w.heap.size, 0, none⟩ = some (.int .i64 co) := hK.cell 0
    have c1 : wr.cell? ⟨w.heap.size, 1, none⟩ = some (.int .i64 sy) := hK.cell 1
    have c2 : wr.cell? ⟨w.heap.size, 2, none⟩ = some (.int .i64 la) := hK.cell 2
    have c3 : wr.cell? ⟨w.heap.size, 3, none⟩ = some (.int .i64 mo) := hK.cell 3
    have c4 : wr.cell? ⟨w.heap.size, 4, none⟩ = some (.slice a n cap) := hK.cell 4
    have K : Hid (Blk wr w.heap.size #[.int .i64 co, .int .i64 sy, .int .i64 la, .int .i64 mo, .slice a n cap] 24) := hK
    clear hh hB hK
    by_cases hlt : k < n
    · obtain ⟨x, hx⟩ : ∃ x, l[k]? = some x := ⟨_, List.getElem?_eq_getElem (by rw [← HN.out]; exact hlt)⟩
      obtain ⟨b, rfl, hb, cx⟩ : ∃ b, a = some ⟨b, 0, none⟩ ∧ b < w.heap.size ∧ w.cell? ⟨b, k, none⟩ = some (.int .i64 x) := by
        rcases HV.out with ⟨e, _⟩ | ⟨b, cap', e, hb, hc⟩
        · subst e; simp at hx
        · simp only [Value.slice.injEq] at e
          exact ⟨b, e.1, hb, hc k x hx⟩
      have cy : wr.cell? ⟨b, k, none⟩ = some (.int .i64 x) := (B.out.cell (p := ⟨b, k, none⟩) hb).trans cx
      have HX : Hid (l[k]? = some x) := hx
      clear hx cx
      cases ho : oneOfB sy x
      · have HO : Hid (oneOfB sy x = false) := ho
        by_cases y0 : x < 0
        · have d0 : decide (x < 0) = true := decide_eq_true y0
          clear ho
          go_wp2_with fail
          go_quiet (fail)
          go_wp2_with fail
          go_ret
          exact ⟨ret_bool (cfgB_no (resB_no HX.out HO.out)).symm, btrans B.out ⟨rfl, rfl, rfl, Nat.le_refl _, fun _ _ => rfl⟩⟩
        · have y1 : sy ≤ x := by have := oneOfB_no.1 ho; omega
          have d0 : decide (x < 0) = false := decide_eq_false y0
          have d1 : decide (sy ≤ x) = true := decide_eq_true y1
          clear ho
          go_wp2_with fail
          go_quiet (fail)
          go_wp2_with fail
          go_ret
          exact ⟨ret_bool (cfgB_no (resB_no HX.out HO.out)).symm, btrans B.out ⟨rfl, rfl, rfl, Nat.le_refl _, fun _ _ => rfl⟩⟩
      · have HO : Hid (oneOfB sy x = true) := ho
        have y0 : ¬ x < 0 := by have := oneOfB_iff.1 ho; omega
        have y1 : ¬ sy ≤ x := by have := oneOfB_iff.1 ho; omega
        have d0 : decide (x < 0) = false := decide_eq_false y0
        have d1 : decide (sy ≤ x) = false := decide_eq_false y1
        clear ho
        go_wp2_with fail
        go_quiet (fail)
        go_wp2_with fail
        go_round
        case rel => exact ⟨k + 1, by omega, by go_num, by rw [resB_take HX.out, HH.out, HO.out]; rfl, K.out.below ⟨rfl, rfl, rfl, Nat.le_refl _, fun _ _ => rfl⟩, btrans B.out ⟨rfl, rfl, rfl, Nat.le_refl _, fun _ _ => rfl⟩⟩
        case measure => simp [intOf]; omega
    · have RB : Hid (cfgB ⟨co, sy, la, mo, l⟩ = (inB co 1 6 && inB sy 0 3 && inB la 0 5 && inB mo 0 5 && decide ((n : Int) ≤ 6))) := by
        have e : l.take k = l := List.take_of_length_le (by have := HN.out; omega)
        have := HH.out
        rw [e] at this
        unfold Hid
        rw [HN.out]
        exact cfgB_of this
      cases h1 : inB co 1 6
      · go_wp2_with (go_at_call 41; refine (rin_any _ _ _ _).mono ?_; rintro e w' ⟨rfl, rfl⟩)
        go_ret
        exact ⟨ret_bool (by rw [RB.out, h1]; rfl), B.out⟩
      cases h2 : inB sy 0 3
      · go_wp2_with (go_at_call 41; refine (rin_any _ _ _ _).mono ?_; rintro e w' ⟨rfl, rfl⟩)
        go_ret
        exact ⟨ret_bool (by rw [RB.out, h1, h2]; rfl), B.out⟩
      cases h3 : inB la 0 5
      · go_wp2_with (go_at_call 41; refine (rin_any _ _ _ _).mono ?_; rintro e w' ⟨rfl, rfl⟩)
        go_ret
        exact ⟨ret_bool (by rw [RB.out, h1, h2, h3]; rfl), B.out⟩
      cases h4 : inB mo 0 5
      · go_wp2_with (go_at_call 41; refine (rin_any _ _ _ _).mono ?_; rintro e w' ⟨rfl, rfl⟩)
        go_ret
        exact ⟨ret_bool (by rw [RB.out, h1, h2, h3, h4]; rfl), B.out⟩
      · go_wp2_with (go_at_call 41; refine (rin_any _ _ _ _).mono ?_; rintro e w' ⟨rfl, rfl⟩)
        go_ret
        exact ⟨ret_bool (by rw [RB.out, h1, h2, h3, h4]; simp), B.out⟩
end Go.Proofs.YtakdliecjfeedaaGreatDoor
