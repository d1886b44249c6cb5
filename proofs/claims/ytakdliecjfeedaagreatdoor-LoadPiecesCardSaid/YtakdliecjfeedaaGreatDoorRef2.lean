/- The contract of the document's own Task. -/
import Derived.Test.YtakdliecjfeedaaGreatDoorRef
import Derived.Test.YtakdliecjfeedaaGreatDoorRule3
namespace Go.Proofs.YtakdliecjfeedaaGreatDoor
open Go Go.RowKit

theorem tskB_no {n c d t : Int} {m : List Sec} (h : c < 1 ∨ d < c ∨ t < d ∨ 200 < t ∨ 2 < m.length) : tskB n ⟨c, d, t, m⟩ = false := by
  rw [← Bool.not_eq_true]
  unfold tskB timesB secsAllB
  simp only [Bool.and_eq_true, inB_iff, decide_eq_true_eq]
  rintro ⟨⟨⟨⟨h1, h2⟩, h3, h4⟩, h5, h6⟩, h7, -⟩
  omega
theorem tskB_of {n c d t : Int} {m : List Sec} (h : ¬ c < 1 ∧ ¬ d < c ∧ ¬ t < d ∧ ¬ 200 < t ∧ ¬ 2 < m.length) : tskB n ⟨c, d, t, m⟩ = secsB n c 1 m := by
  obtain ⟨h1, h2, h3, h4, h5⟩ := h
  have e1 : inB t 1 200 = true := inB_iff.2 ⟨by omega, by omega⟩
  have e2 : inB d 1 t = true := inB_iff.2 ⟨by omega, by omega⟩
  have e3 : inB c 1 d = true := inB_iff.2 ⟨by omega, by omega⟩
  have e4 : decide (m.length ≤ 2) = true := decide_eq_true (by omega)
  unfold tskB timesB secsAllB
  simp only [e1, e2, e3, e4, Bool.true_and]

theorem blkTwo (w : World) (o : Obj) (cs : Array Value) (t : TypeId) : Blk ((w.alloc o).alloc (.cells cs t)) (w.heap.size + 1) cs t := by
  have h := heap_alloc_new (w.alloc o) (.cells cs t)
  have e : (w.alloc o).heap.size = w.heap.size + 1 := by simp
  rw [e] at h
  exact h
set_option maxHeartbeats 8000000 in
theorem refTask_any (co sy la mo : Int) (a : Option Addr) (n cap : Nat) (c d t : Int) (u : Value) (m : List Sec) (w : World) (hu : Secs w u m) (hm : m.length ≤ 1000000) :
    Calls Tryz.prog 21 #[.agg #[.int .i64 co, .int .i64 sy, .int .i64 la, .int .i64 mo, .slice a n cap], .agg #[.int .i64 c, .int .i64 d, .int .i64 t, u]] w fun e w' => e = .returned (.bool (tskB n ⟨c, d, t, m⟩)) ∧ Below w.heap.size w w' := by
  obtain ⟨a2, cap2, rfl⟩ := hu.form
  obtain ⟨q, hq⟩ : ∃ q, q = m.length := ⟨_, rfl⟩
  have HU : Hid (Secs w (.slice a2 m.length cap2) m) := hu
  clear hu
  rw [← hq] at HU ⊢
  have HQ : Hid (q = m.length) := hq
  have hq6 : q ≤ 1000000 := by omega
  clear hq hm
  have BW : Hid (Below w.heap.size w ((w.alloc (.cells #[.int .i64 co, .int .i64 sy, .int .i64 la, .int .i64 mo, .slice a n cap] 24)).alloc (.cells #[.int .i64 c, .int .i64 d, .int .i64 t, .slice a2 q cap2] 34))) := btrans (balloc _ _) (balloc _ _)
  by_cases p1 : c < 1
  · have TT : Hid (tskB n ⟨c, d, t, m⟩ = false) := tskB_no (.inl p1)
    go_enter Tryz.func21, Tryz.ntmps21
    go_wp2_with fail
    go_ret
    exact ⟨ret_bool TT.out.symm, BW.out⟩
  by_cases p2 : d < c
  · have TT : Hid (tskB n ⟨c, d, t, m⟩ = false) := tskB_no (.inr (.inl p2))
    go_enter Tryz.func21, Tryz.ntmps21
    go_wp2_with fail
    go_ret
    exact ⟨ret_bool TT.out.symm, BW.out⟩
  by_cases p3 : t < d
  · have TT : Hid (tskB n ⟨c, d, t, m⟩ = false) := tskB_no (.inr (.inr (.inl p3)))
    go_enter Tryz.func21, Tryz.ntmps21
    go_wp2_with fail
    go_ret
    exact ⟨ret_bool TT.out.symm, BW.out⟩
  by_cases p4 : 200 < t
  · have TT : Hid (tskB n ⟨c, d, t, m⟩ = false) := tskB_no (.inr (.inr (.inr (.inl p4))))
    go_enter Tryz.func21, Tryz.ntmps21
    go_wp2_with fail
    go_ret
    exact ⟨ret_bool TT.out.symm, BW.out⟩
  by_cases p5 : 2 < (q : Int)
  · have TT : Hid (tskB n ⟨c, d, t, m⟩ = false) := tskB_no (.inr (.inr (.inr (.inr (by have := HQ.out; omega)))))
    go_enter Tryz.func21, Tryz.ntmps21
    go_wp2_with fail
    go_ret
    exact ⟨ret_bool TT.out.symm, BW.out⟩
  have TT : Hid (tskB n ⟨c, d, t, m⟩ = secsB n c 1 m) := tskB_of ⟨p1, p2, p3, p4, by have := HQ.out; omega⟩
  have ec : wrap64 (c - 1) = c - 1 := by unfold wrap64; omega
  have q2 : q ≤ 2 := by omega
  go_enter Tryz.func21, Tryz.ntmps21
  go_wp2_with fail
  generalize hW : (w.alloc _).alloc _ = W at BW
  have cT : Blk W (w.heap.size + 1) #[.int .i64 c, .int .i64 d, .int .i64 t, .slice a2 q cap2] 34 := by rw [← hW]; exact blkTwo _ _ _ _
  have cC : Blk W w.heap.size #[.int .i64 co, .int .i64 sy, .int .i64 la, .int .i64 mo, .slice a n cap] 24 := by rw [← hW]; exact (show Blk (w.alloc (.cells #[.int .i64 co, .int .i64 sy, .int .i64 la, .int .i64 mo, .slice a n cap] 24)) w.heap.size #[.int .i64 co, .int .i64 sy, .int .i64 la, .int .i64 mo, .slice a n cap] 24 from heap_alloc_new _ _).below (balloc _ _)
  have KW : Hid (Blk W (w.heap.size + 1) #[.int .i64 c, .int .i64 d, .int .i64 t, .slice a2 q cap2] 34 ∧ Blk W w.heap.size #[.int .i64 co, .int .i64 sy, .int .i64 la, .int .i64 mo, .slice a n cap] 24) := ⟨cT, cC⟩
  have sW : w.heap.size + 1 < W.heap.size := cT.lt
  clear hW cT cC
  go_loopw [5] (fun i wr => ∃ k : Nat, ∃ lo : Int, k ≤ q ∧ i = .int .i64 k ∧ secsB n c 1 m = secsB n c lo (m.drop k) ∧ (k = 0 → lo = 1) ∧ (k = 1 → ∃ s, m[0]? = some s ∧ lo = s.pos + 1 ∧ 1 ≤ s.pos) ∧ Below W.heap.size W wr) (fun i _ => q - (intOf i).toNat)
  case atStart => exact ⟨0, 1, Nat.zero_le _, rfl, rfl, fun _ => rfl, (fun h => absurd h (by decide)), Below.refl _ _⟩
  case round =>
    obtain ⟨k, lo, hk, rfl, hh, hk0, hk1, hB⟩ := hrel
    have HH : Hid (secsB n c 1 m = secsB n c lo (m.drop k)) := hh
    have H1 : Hid (k = 1 → ∃ s, m[0]? = some s ∧ lo = s.pos + 1 ∧ 1 ≤ s.pos) := hk1
    have H0 : Hid (k = 0 → lo = 1) := hk0
    have B : Hid (Below W.heap.size W wr) := hB
    have K : Hid (Blk wr (w.heap.size + 1) #[.int .i64 c, .int .i64 d, .int .i64 t, .slice a2 q cap2] 34 ∧ Blk wr w.heap.size #[.int .i64 co, .int .i64 sy, .int .i64 la, .int .i64 mo, .slice a n cap] 24) := ⟨KW.out.1.below hB, KW.out.2.below hB⟩
    have sr : W.heap.size ≤ wr.heap.size := hB.size
    clear hh hk1 hk0 hB
    have t0 : wr.cell? ⟨w.heap.size + 1, 0, none⟩ = some (.int .i64 c) := K.out.1.cell 0
    have t3 : wr.cell? ⟨w.heap.size + 1, 3, none⟩ = some (.slice a2 q cap2) := K.out.1.cell 3
    have g4 : wr.cell? ⟨w.heap.size, 4, none⟩ = some (.slice a n cap) := K.out.2.cell 4
    have l1 : w.heap.size < wr.heap.size := by omega
    have l2 : w.heap.size + 1 < wr.heap.size := by omega
    by_cases hlt : k < q
    · obtain ⟨⟨r, p, ln⟩, hx⟩ : ∃ x, m[k]? = some x := ⟨_, List.getElem?_eq_getElem (by rw [← HQ.out]; exact hlt)⟩
      obtain ⟨b, rfl, hb, hc⟩ : ∃ b, a2 = some ⟨b, 0, none⟩ ∧ b < w.heap.size ∧ ∀ j s, m[j]? = some s → w.cell? ⟨b, j * 3, none⟩ = some (.int .i64 s.res) ∧ w.cell? ⟨b, j * 3 + 1, none⟩ = some (.int .i64 s.pos) ∧ w.cell? ⟨b, j * 3 + 2, none⟩ = some (.int .i64 s.len) := by
        rcases HU.out with ⟨e, _⟩ | ⟨b, cap', e, hb, hc⟩
        · subst e; simp at hx
        · simp only [Value.slice.injEq] at e
          exact ⟨b, e.1, hb, hc⟩
      have BB : Hid (Below w.heap.size w wr) := BW.out.trans (B.out.mono (by omega))
      have HC : Hid (∀ j s, m[j]? = some s → wr.cell? ⟨b, j * 3, none⟩ = some (.int .i64 s.res) ∧ wr.cell? ⟨b, j * 3 + 1, none⟩ = some (.int .i64 s.pos) ∧ wr.cell? ⟨b, j * 3 + 2, none⟩ = some (.int .i64 s.len)) := fun j s hj => by
        obtain ⟨x1, x2, x3⟩ := hc j s hj
        exact ⟨(BB.out.cell (p := ⟨b, j * 3, none⟩) hb).trans x1, (BB.out.cell (p := ⟨b, j * 3 + 1, none⟩) hb).trans x2, (BB.out.cell (p := ⟨b, j * 3 + 2, none⟩) hb).trans x3⟩
      have lb : b < wr.heap.size := by omega
      have lb1 : ¬ b = wr.heap.size := by omega
      have lb2 : ¬ w.heap.size = wr.heap.size := by omega
      have lb3 : ¬ w.heap.size + 1 = wr.heap.size := by omega
      have HX : Hid (secsB n c lo (m.drop k) = (secB n c lo ⟨r, p, ln⟩ && secsB n c (p + 1) (m.drop (k + 1)))) := secsB_step hx
      have X : Hid (m[k]? = some ⟨r, p, ln⟩) := hx
      clear hc hx
      obtain rfl | rfl : k = 0 ∨ k = 1 := by omega
      · obtain ⟨x1, x2, x3⟩ := HC.out 0 _ X.out
        simp only at x1 x2 x3
        have elo : lo = 1 := H0.out rfl
        by_cases y0 : r < 0
        · skip
          have d0 : decide (r < 0) = true := decide_eq_true y0
          have SB : Hid (secB n c lo ⟨r, p, ln⟩ = false) := by unfold Hid secB; rw [← Bool.not_eq_true]; simp only [Bool.and_eq_true, oneOfB_iff, inB_iff]; omega
          go_wp2_with fail
          go_quiet ((go_at_call 41; exact Calls.quiet_of_same (rin_any _ _ _ _)))
          go_wp2_with fail
          go_ret
          exact ⟨ret_bool (by rw [TT.out, HH.out, HX.out, SB.out]; rfl), btrans BB.out (btrans (balloc _ _) ⟨rfl, rfl, rfl, Nat.le_refl _, fun _ _ => rfl⟩)⟩
        have d0 : decide (r < 0) = false := decide_eq_false y0
        by_cases y1 : (n : Int) ≤ r
        · skip
          have d1 : decide ((n : Int) ≤ r) = true := decide_eq_true y1
          have SB : Hid (secB n c lo ⟨r, p, ln⟩ = false) := by unfold Hid secB; rw [← Bool.not_eq_true]; simp only [Bool.and_eq_true, oneOfB_iff, inB_iff]; omega
          go_wp2_with fail
          go_quiet ((go_at_call 41; exact Calls.quiet_of_same (rin_any _ _ _ _)))
          go_wp2_with fail
          go_ret
          exact ⟨ret_bool (by rw [TT.out, HH.out, HX.out, SB.out]; rfl), btrans BB.out (btrans (balloc _ _) ⟨rfl, rfl, rfl, Nat.le_refl _, fun _ _ => rfl⟩)⟩
        have d1 : decide ((n : Int) ≤ r) = false := decide_eq_false y1
        by_cases y2 : ¬ (1 ≤ ln ∧ ln ≤ 200)
        · skip
          have d2 : inB ln 1 200 = false := inB_no.2 y2
          have SB : Hid (secB n c lo ⟨r, p, ln⟩ = false) := by unfold Hid secB; rw [← Bool.not_eq_true]; simp only [Bool.and_eq_true, oneOfB_iff, inB_iff]; omega
          go_wp2_with fail
          go_quiet ((go_at_call 41; exact Calls.quiet_of_same (rin_any _ _ _ _)))
          go_wp2_with fail
          go_ret
          exact ⟨ret_bool (by rw [TT.out, HH.out, HX.out, SB.out]; rfl), btrans BB.out (btrans (balloc _ _) ⟨rfl, rfl, rfl, Nat.le_refl _, fun _ _ => rfl⟩)⟩
        have y2 := Decidable.not_not.1 y2
        have d2 : inB ln 1 200 = true := inB_iff.2 y2
        by_cases y3 : ¬ (1 ≤ p ∧ p ≤ c - 1)
        · skip
          have d3 : inB p 1 (c - 1) = false := inB_no.2 y3
          have SB : Hid (secB n c lo ⟨r, p, ln⟩ = false) := by unfold Hid secB; rw [← Bool.not_eq_true]; simp only [Bool.and_eq_true, oneOfB_iff, inB_iff]; omega
          go_wp2_with fail
          go_quiet ((go_at_call 41; exact Calls.quiet_of_same (rin_any _ _ _ _)))
          go_wp2_with fail
          go_ret
          exact ⟨ret_bool (by rw [TT.out, HH.out, HX.out, SB.out]; rfl), btrans BB.out (btrans (balloc _ _) ⟨rfl, rfl, rfl, Nat.le_refl _, fun _ _ => rfl⟩)⟩
        have y3 := Decidable.not_not.1 y3
        have d3 : inB p 1 (c - 1) = true := inB_iff.2 y3
        have SB : Hid (secB n c lo ⟨r, p, ln⟩ = true) := by unfold Hid secB; simp only [Bool.and_eq_true, oneOfB_iff, inB_iff]; omega
        go_wp2_with fail
        go_quiet ((go_at_call 41; exact Calls.quiet_of_same (rin_any _ _ _ _)))
        go_wp2_with fail
        go_round
        case rel => exact ⟨1, p + 1, by omega, by go_num, by rw [HH.out, HX.out, SB.out]; rfl, (fun h => absurd h (by decide)), fun _ => ⟨_, X.out, rfl, y3.1⟩, btrans B.out (btrans (balloc _ _) ⟨rfl, rfl, rfl, Nat.le_refl _, fun _ _ => rfl⟩)⟩
        case measure => simp [intOf]; omega
      · obtain ⟨x1, x2, x3⟩ := HC.out 1 _ X.out
        simp only at x1 x2 x3
        obtain ⟨⟨r0, p0, ln0⟩, hs, elo, hp0⟩ := H1.out rfl
        obtain ⟨w1, w2, w3⟩ := HC.out 0 _ hs
        simp only at w1 w2 w3 elo hp0
        have HS : Hid (m[0]? = some ⟨r0, p0, ln0⟩) := hs
        clear hs
        by_cases y0 : r < 0
        · skip
          have d0 : decide (r < 0) = true := decide_eq_true y0
          have SB : Hid (secB n c lo ⟨r, p, ln⟩ = false) := by unfold Hid secB; rw [← Bool.not_eq_true]; simp only [Bool.and_eq_true, oneOfB_iff, inB_iff]; omega
          go_wp2_with fail
          go_quiet ((go_at_call 41; exact Calls.quiet_of_same (rin_any _ _ _ _)))
          go_wp2_with fail
          go_ret
          exact ⟨ret_bool (by rw [TT.out, HH.out, HX.out, SB.out]; rfl), btrans BB.out (btrans (balloc _ _) ⟨rfl, rfl, rfl, Nat.le_refl _, fun _ _ => rfl⟩)⟩
        have d0 : decide (r < 0) = false := decide_eq_false y0
        by_cases y1 : (n : Int) ≤ r
        · skip
          have d1 : decide ((n : Int) ≤ r) = true := decide_eq_true y1
          have SB : Hid (secB n c lo ⟨r, p, ln⟩ = false) := by unfold Hid secB; rw [← Bool.not_eq_true]; simp only [Bool.and_eq_true, oneOfB_iff, inB_iff]; omega
          go_wp2_with fail
          go_quiet ((go_at_call 41; exact Calls.quiet_of_same (rin_any _ _ _ _)))
          go_wp2_with fail
          go_ret
          exact ⟨ret_bool (by rw [TT.out, HH.out, HX.out, SB.out]; rfl), btrans BB.out (btrans (balloc _ _) ⟨rfl, rfl, rfl, Nat.le_refl _, fun _ _ => rfl⟩)⟩
        have d1 : decide ((n : Int) ≤ r) = false := decide_eq_false y1
        by_cases y2 : ¬ (1 ≤ ln ∧ ln ≤ 200)
        · skip
          have d2 : inB ln 1 200 = false := inB_no.2 y2
          have SB : Hid (secB n c lo ⟨r, p, ln⟩ = false) := by unfold Hid secB; rw [← Bool.not_eq_true]; simp only [Bool.and_eq_true, oneOfB_iff, inB_iff]; omega
          go_wp2_with fail
          go_quiet ((go_at_call 41; exact Calls.quiet_of_same (rin_any _ _ _ _)))
          go_wp2_with fail
          go_ret
          exact ⟨ret_bool (by rw [TT.out, HH.out, HX.out, SB.out]; rfl), btrans BB.out (btrans (balloc _ _) ⟨rfl, rfl, rfl, Nat.le_refl _, fun _ _ => rfl⟩)⟩
        have y2 := Decidable.not_not.1 y2
        have d2 : inB ln 1 200 = true := inB_iff.2 y2
        by_cases y3 : ¬ (1 ≤ p ∧ p ≤ c - 1)
        · skip
          have d3 : inB p 1 (c - 1) = false := inB_no.2 y3
          have SB : Hid (secB n c lo ⟨r, p, ln⟩ = false) := by unfold Hid secB; rw [← Bool.not_eq_true]; simp only [Bool.and_eq_true, oneOfB_iff, inB_iff]; omega
          go_wp2_with fail
          go_quiet ((go_at_call 41; exact Calls.quiet_of_same (rin_any _ _ _ _)))
          go_wp2_with fail
          go_ret
          exact ⟨ret_bool (by rw [TT.out, HH.out, HX.out, SB.out]; rfl), btrans BB.out (btrans (balloc _ _) ⟨rfl, rfl, rfl, Nat.le_refl _, fun _ _ => rfl⟩)⟩
        have y3 := Decidable.not_not.1 y3
        have d3 : inB p 1 (c - 1) = true := inB_iff.2 y3
        by_cases y4 : p ≤ p0
        · skip
          have d4 : decide (p ≤ p0) = true := decide_eq_true y4
          have SB : Hid (secB n c lo ⟨r, p, ln⟩ = false) := by unfold Hid secB; rw [← Bool.not_eq_true]; simp only [Bool.and_eq_true, oneOfB_iff, inB_iff]; omega
          go_wp2_with fail
          go_quiet ((go_at_call 41; exact Calls.quiet_of_same (rin_any _ _ _ _)))
          go_wp2_with fail
          go_ret
          exact ⟨ret_bool (by rw [TT.out, HH.out, HX.out, SB.out]; rfl), btrans BB.out (btrans (balloc _ _) ⟨rfl, rfl, rfl, Nat.le_refl _, fun _ _ => rfl⟩)⟩
        have d4 : decide (p ≤ p0) = false := decide_eq_false y4
        have SB : Hid (secB n c lo ⟨r, p, ln⟩ = true) := by unfold Hid secB; simp only [Bool.and_eq_true, oneOfB_iff, inB_iff]; omega
        go_wp2_with fail
        go_quiet ((go_at_call 41; exact Calls.quiet_of_same (rin_any _ _ _ _)))
        go_wp2_with fail
        go_round
        case rel => exact ⟨2, p + 1, by omega, by go_num, by rw [HH.out, HX.out, SB.out]; rfl, (fun h => absurd h (by decide)), (fun h => absurd h (by decide)), btrans B.out (btrans (balloc _ _) ⟨rfl, rfl, rfl, Nat.le_refl _, fun _ _ => rfl⟩)⟩
        case measure => simp [intOf]; omega
    · go_wp2_with fail
      go_ret
      exact ⟨ret_bool (by rw [TT.out, HH.out, secsB_end (by have := HQ.out; omega)]), BW.out.trans (B.out.mono (by omega))⟩
end Go.Proofs.YtakdliecjfeedaaGreatDoor
