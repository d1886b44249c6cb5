/- The contracts of the document's own Same, of the law's sameConfig. -/
import Derived.Test.YtfhhpmnohbmnoaaGreatDoorRef2
namespace Go.Proofs.YtfhhpmnohbmnoaaGreatDoor
open Go Go.RowKit

theorem take_step {α : Type} {l1 l2 : List α} {k : Nat} {s : α} (h : l1.take k = l2.take k) (h1 : l1[k]? = some s) (h2 : l2[k]? = some s) : l1.take (k + 1) = l2.take (k + 1) := by
  obtain ⟨a1, b1⟩ := List.getElem?_eq_some_iff.1 h1
  obtain ⟨a2, b2⟩ := List.getElem?_eq_some_iff.1 h2
  rw [List.take_succ_eq_append_getElem a1, List.take_succ_eq_append_getElem a2, h, b1, b2]
set_option maxHeartbeats 8000000 in
theorem refSame_any (c d t c' d' t' : Int) (v v' : Value) (m m' : List Sec) (w : World) (h1 : Secs w v m) (h2 : Secs w v' m') (hl1 : m.length ≤ 1000000) (hl2 : m'.length ≤ 1000000) :
    Calls Tryz.prog 13 #[.agg #[.int .i64 c, .int .i64 d, .int .i64 t, v], .agg #[.int .i64 c', .int .i64 d', .int .i64 t', v']] w fun e w' => e = .returned (.bool (decide ((⟨c, d, t, m⟩ : Tsk) = (⟨c', d', t', m'⟩ : Tsk)))) ∧ Below w.heap.size w w' := by
  obtain ⟨a1, cap1, rfl⟩ := h1.form
  obtain ⟨a2, cap2, rfl⟩ := h2.form
  obtain ⟨n1, hn1⟩ : ∃ n, n = m.length := ⟨_, rfl⟩
  obtain ⟨n2, hn2⟩ : ∃ n, n = m'.length := ⟨_, rfl⟩
  have H1 : Hid (Secs w (.slice a1 m.length cap1) m) := h1
  have H2 : Hid (Secs w (.slice a2 m'.length cap2) m') := h2
  clear h1 h2
  rw [← hn1] at H1 ⊢
  rw [← hn2] at H2 ⊢
  have HN : Hid (n1 = m.length ∧ n2 = m'.length) := ⟨hn1, hn2⟩
  have n16 : n1 ≤ 1000000 := by omega
  have n26 : n2 ≤ 1000000 := by omega
  have q3 : Hid (n1 = n2 ↔ m.length = m'.length) := by unfold Hid; rw [hn1, hn2]
  clear hn1 hn2 hl1 hl2
  by_cases p0 : c = c'
  rotate_left
  · have d0 : (c != c') = true := by simp [p0]
    have R : Hid (decide ((⟨c, d, t, m⟩ : Tsk) = ⟨c', d', t', m'⟩) = false) := by unfold Hid; rw [decide_eq_false_iff_not]; intro e; injection e; exact p0 (by assumption)
    rw [R.out]
    clear p0
    go_enter Tryz.func13, Tryz.ntmps13
    go_wp2_with fail
    go_ret
    exact ⟨rfl, btrans (balloc _ _) (balloc _ _)⟩
  subst p0
  have d0 : (c != c) = false := by simp
  by_cases p1 : d = d'
  rotate_left
  · have d1 : (d != d') = true := by simp [p1]
    have R : Hid (decide ((⟨c, d, t, m⟩ : Tsk) = ⟨c, d', t', m'⟩) = false) := by unfold Hid; rw [decide_eq_false_iff_not]; intro e; injection e; exact p1 (by assumption)
    rw [R.out]
    clear p1
    go_enter Tryz.func13, Tryz.ntmps13
    go_wp2_with fail
    go_ret
    exact ⟨rfl, btrans (balloc _ _) (balloc _ _)⟩
  subst p1
  have d1 : (d != d) = false := by simp
  by_cases p2 : t = t'
  rotate_left
  · have d2 : (t != t') = true := by simp [p2]
    have R : Hid (decide ((⟨c, d, t, m⟩ : Tsk) = ⟨c, d, t', m'⟩) = false) := by unfold Hid; rw [decide_eq_false_iff_not]; intro e; injection e; exact p2 (by assumption)
    rw [R.out]
    clear p2
    go_enter Tryz.func13, Tryz.ntmps13
    go_wp2_with fail
    go_ret
    exact ⟨rfl, btrans (balloc _ _) (balloc _ _)⟩
  subst p2
  have d2 : (t != t) = false := by simp
  by_cases p : n1 = n2
  rotate_left
  · have e1 : ((n1 : Int) != (n2 : Int)) = true := by simp; omega
    have R : Hid (decide ((⟨c, d, t, m⟩ : Tsk) = (⟨c, d, t, m'⟩ : Tsk)) = false) := by unfold Hid; rw [decide_eq_false_iff_not]; intro e; injection e; exact p (by rw [HN.out.1, HN.out.2]; exact congrArg List.length (by assumption))
    rw [R.out]
    clear p
    go_enter Tryz.func13, Tryz.ntmps13
    go_wp2_with fail
    go_ret
    exact ⟨rfl, btrans (balloc _ _) (balloc _ _)⟩
  subst p
  have e1 : ((n1 : Int) != (n1 : Int)) = false := by simp
  have R : Hid (decide ((⟨c, d, t, m⟩ : Tsk) = (⟨c, d, t, m'⟩ : Tsk)) = decide (m = m')) := by unfold Hid; rw [decide_eq_decide]; simp
  rw [R.out]
  clear R q3
  have BW : Hid (Below w.heap.size w ((w.alloc (.cells #[.int .i64 c, .int .i64 d, .int .i64 t, .slice a1 n1 cap1] 27)).alloc (.cells #[.int .i64 c, .int .i64 d, .int .i64 t, .slice a2 n1 cap2] 27))) := btrans (balloc _ _) (balloc _ _)
  go_enter Tryz.func13, Tryz.ntmps13
  go_wp2_with fail
  generalize hW : (w.alloc _).alloc _ = W at BW
  have cB : Blk W (w.heap.size + 1) #[.int .i64 c, .int .i64 d, .int .i64 t, .slice a2 n1 cap2] 27 := by rw [← hW]; exact blkTwo _ _ _ _
  have cA : Blk W w.heap.size #[.int .i64 c, .int .i64 d, .int .i64 t, .slice a1 n1 cap1] 27 := by rw [← hW]; exact (show Blk (w.alloc (.cells #[.int .i64 c, .int .i64 d, .int .i64 t, .slice a1 n1 cap1] 27)) w.heap.size #[.int .i64 c, .int .i64 d, .int .i64 t, .slice a1 n1 cap1] 27 from heap_alloc_new _ _).below (balloc _ _)
  have KW : Hid (Blk W (w.heap.size + 1) #[.int .i64 c, .int .i64 d, .int .i64 t, .slice a2 n1 cap2] 27 ∧ Blk W w.heap.size #[.int .i64 c, .int .i64 d, .int .i64 t, .slice a1 n1 cap1] 27) := ⟨cB, cA⟩
  have sW : w.heap.size + 1 < W.heap.size := cB.lt
  clear hW cA cB
  go_loopw [5] (fun i wr => ∃ k : Nat, k ≤ n1 ∧ i = .int .i64 k ∧ m.take k = m'.take k ∧ Below W.heap.size W wr) (fun i _ => n1 - (intOf i).toNat)
  case atStart => exact ⟨0, Nat.zero_le _, rfl, rfl, Below.refl _ _⟩
  case round =>
    obtain ⟨k, hk, rfl, hh, hB⟩ := hrel
    have HH : Hid (m.take k = m'.take k) := hh
    have B : Hid (Below W.heap.size W wr) := hB
    have BB : Hid (Below w.heap.size w wr) := BW.out.trans (hB.mono (by omega))
    have u3 : wr.cell? ⟨w.heap.size, 3, none⟩ = some (.slice a1 n1 cap1) := (KW.out.2.below hB).cell 3
    have t3 : wr.cell? ⟨w.heap.size + 1, 3, none⟩ = some (.slice a2 n1 cap2) := (KW.out.1.below hB).cell 3
    have sr : W.heap.size ≤ wr.heap.size := hB.size
    clear hh hB
    by_cases hlt : k < n1
    · obtain ⟨s1, hx1⟩ : ∃ x, m[k]? = some x := ⟨_, List.getElem?_eq_getElem (by rw [← HN.out.1]; exact hlt)⟩
      obtain ⟨s2, hx2⟩ : ∃ x, m'[k]? = some x := ⟨_, List.getElem?_eq_getElem (by rw [← HN.out.2]; exact hlt)⟩
      obtain ⟨b1, rfl, hb1, hc1⟩ : ∃ b, a1 = some ⟨b, 0, none⟩ ∧ b < w.heap.size ∧ (w.cell? ⟨b, k * 3, none⟩ = some (.int .i64 s1.res) ∧ w.cell? ⟨b, k * 3 + 1, none⟩ = some (.int .i64 s1.pos) ∧ w.cell? ⟨b, k * 3 + 2, none⟩ = some (.int .i64 s1.len)) := by
        rcases H1.out with ⟨e, _⟩ | ⟨b, cap, e, hb, hc⟩
        · subst e; simp at hx1
        · simp only [Value.slice.injEq] at e
          exact ⟨b, e.1, hb, hc k _ hx1⟩
      obtain ⟨b2, rfl, hb2, hc2⟩ : ∃ b, a2 = some ⟨b, 0, none⟩ ∧ b < w.heap.size ∧ (w.cell? ⟨b, k * 3, none⟩ = some (.int .i64 s2.res) ∧ w.cell? ⟨b, k * 3 + 1, none⟩ = some (.int .i64 s2.pos) ∧ w.cell? ⟨b, k * 3 + 2, none⟩ = some (.int .i64 s2.len)) := by
        rcases H2.out with ⟨e, _⟩ | ⟨b, cap, e, hb, hc⟩
        · subst e; simp at hx2
        · simp only [Value.slice.injEq] at e
          exact ⟨b, e.1, hb, hc k _ hx2⟩
      obtain ⟨r1, y1, z1⟩ := s1
      obtain ⟨r2, y2, z2⟩ := s2
      have g10 : wr.cell? ⟨b1, k * 3, none⟩ = some (.int .i64 r1) := (BB.out.cell (p := ⟨b1, k * 3, none⟩) hb1).trans hc1.1
      have g11 : wr.cell? ⟨b1, k * 3 + 1, none⟩ = some (.int .i64 y1) := (BB.out.cell (p := ⟨b1, k * 3 + 1, none⟩) hb1).trans hc1.2.1
      have g12 : wr.cell? ⟨b1, k * 3 + 2, none⟩ = some (.int .i64 z1) := (BB.out.cell (p := ⟨b1, k * 3 + 2, none⟩) hb1).trans hc1.2.2
      have g20 : wr.cell? ⟨b2, k * 3, none⟩ = some (.int .i64 r2) := (BB.out.cell (p := ⟨b2, k * 3, none⟩) hb2).trans hc2.1
      have g21 : wr.cell? ⟨b2, k * 3 + 1, none⟩ = some (.int .i64 y2) := (BB.out.cell (p := ⟨b2, k * 3 + 1, none⟩) hb2).trans hc2.2.1
      have g22 : wr.cell? ⟨b2, k * 3 + 2, none⟩ = some (.int .i64 z2) := (BB.out.cell (p := ⟨b2, k * 3 + 2, none⟩) hb2).trans hc2.2.2
      have X : Hid (m[k]? = some ⟨r1, y1, z1⟩ ∧ m'[k]? = some ⟨r2, y2, z2⟩) := ⟨hx1, hx2⟩
      clear hx1 hx2 hc1 hc2
      have hg := secGuard
      have hq := neq_sec r1 y1 z1 r2 y2 z2
      by_cases he : (⟨r1, y1, z1⟩ : Sec) = ⟨r2, y2, z2⟩
      · have hd : decide ((⟨r1, y1, z1⟩ : Sec) = ⟨r2, y2, z2⟩) = true := by simp [he]
        rw [hd] at hq
        have HE : Hid ((⟨r1, y1, z1⟩ : Sec) = ⟨r2, y2, z2⟩) := he
        clear he hd
        go_wp2_with fail
        go_quiet (fail)
        go_wp2_with fail
        go_round
        case rel => exact ⟨k + 1, by omega, by go_num, take_step HH.out X.out.1 (by rw [X.out.2, HE.out]), btrans B.out ⟨rfl, rfl, rfl, Nat.le_refl _, fun _ _ => rfl⟩⟩
        case measure => simp [intOf]; omega
      · have hd : decide ((⟨r1, y1, z1⟩ : Sec) = ⟨r2, y2, z2⟩) = false := by simp only [decide_eq_false_iff_not]; exact he
        rw [hd] at hq
        have HE : Hid (¬ (⟨r1, y1, z1⟩ : Sec) = ⟨r2, y2, z2⟩) := he
        clear he hd
        go_wp2_with fail
        go_quiet (fail)
        go_wp2_with fail
        go_ret
        have hne : decide (m = m') = false := by
          simp only [decide_eq_false_iff_not]
          intro e
          have h1 := X.out.1
          rw [e, X.out.2] at h1
          exact HE.out (Option.some.inj h1).symm
        exact ⟨ret_bool hne.symm, btrans BB.out ⟨rfl, rfl, rfl, Nat.le_refl _, fun _ _ => rfl⟩⟩
    · go_wp2_with fail
      go_ret
      have e1 : m.take k = m := List.take_of_length_le (by have := HN.out.1; omega)
      have e2 : m'.take k = m' := List.take_of_length_le (by have := HN.out.2; omega)
      have := HH.out
      rw [e1, e2] at this
      exact ⟨ret_bool (by simp [this]), BB.out⟩
set_option maxHeartbeats 8000000 in
theorem sameCfg_any (co sy la mo co' sy' la' mo' : Int) (v v' : Value) (m m' : List Int) (w : World) (h1 : Ints w v m) (h2 : Ints w v' m') (hl1 : m.length ≤ 1000000) (hl2 : m'.length ≤ 1000000) :
    Calls Tryz.prog 26 #[.agg #[.int .i64 co, .int .i64 sy, .int .i64 la, .int .i64 mo, v], .agg #[.int .i64 co', .int .i64 sy', .int .i64 la', .int .i64 mo', v']] w fun e w' => e = .returned (.bool (decide ((⟨co, sy, la, mo, m⟩ : Cfg) = (⟨co', sy', la', mo', m'⟩ : Cfg)))) ∧ Below w.heap.size w w' := by
  obtain ⟨a1, cap1, rfl⟩ := h1.form
  obtain ⟨a2, cap2, rfl⟩ := h2.form
  obtain ⟨n1, hn1⟩ : ∃ n, n = m.length := ⟨_, rfl⟩
  obtain ⟨n2, hn2⟩ : ∃ n, n = m'.length := ⟨_, rfl⟩
  have H1 : Hid (Ints w (.slice a1 m.length cap1) m) := h1
  have H2 : Hid (Ints w (.slice a2 m'.length cap2) m') := h2
  clear h1 h2
  rw [← hn1] at H1 ⊢
  rw [← hn2] at H2 ⊢
  have HN : Hid (n1 = m.length ∧ n2 = m'.length) := ⟨hn1, hn2⟩
  have n16 : n1 ≤ 1000000 := by omega
  have n26 : n2 ≤ 1000000 := by omega
  have q4 : Hid (n1 = n2 ↔ m.length = m'.length) := by unfold Hid; rw [hn1, hn2]
  clear hn1 hn2 hl1 hl2
  by_cases p0 : co = co'
  rotate_left
  · have d0 : (co != co') = true := by simp [p0]
    have R : Hid (decide ((⟨co, sy, la, mo, m⟩ : Cfg) = ⟨co', sy', la', mo', m'⟩) = false) := by unfold Hid; rw [decide_eq_false_iff_not]; intro e; injection e; exact p0 (by assumption)
    rw [R.out]
    clear p0
    go_enter Tryz.func26, Tryz.ntmps26
    go_wp2_with fail
    go_ret
    exact ⟨rfl, btrans (balloc _ _) (balloc _ _)⟩
  subst p0
  have d0 : (co != co) = false := by simp
  by_cases p1 : sy = sy'
  rotate_left
  · have d1 : (sy != sy') = true := by simp [p1]
    have R : Hid (decide ((⟨co, sy, la, mo, m⟩ : Cfg) = ⟨co, sy', la', mo', m'⟩) = false) := by unfold Hid; rw [decide_eq_false_iff_not]; intro e; injection e; exact p1 (by assumption)
    rw [R.out]
    clear p1
    go_enter Tryz.func26, Tryz.ntmps26
    go_wp2_with fail
    go_ret
    exact ⟨rfl, btrans (balloc _ _) (balloc _ _)⟩
  subst p1
  have d1 : (sy != sy) = false := by simp
  by_cases p2 : la = la'
  rotate_left
  · have d2 : (la != la') = true := by simp [p2]
    have R : Hid (decide ((⟨co, sy, la, mo, m⟩ : Cfg) = ⟨co, sy, la', mo', m'⟩) = false) := by unfold Hid; rw [decide_eq_false_iff_not]; intro e; injection e; exact p2 (by assumption)
    rw [R.out]
    clear p2
    go_enter Tryz.func26, Tryz.ntmps26
    go_wp2_with fail
    go_ret
    exact ⟨rfl, btrans (balloc _ _) (balloc _ _)⟩
  subst p2
  have d2 : (la != la) = false := by simp
  by_cases p3 : mo = mo'
  rotate_left
  · have d3 : (mo != mo') = true := by simp [p3]
    have R : Hid (decide ((⟨co, sy, la, mo, m⟩ : Cfg) = ⟨co, sy, la, mo', m'⟩) = false) := by unfold Hid; rw [decide_eq_false_iff_not]; intro e; injection e; exact p3 (by assumption)
    rw [R.out]
    clear p3
    go_enter Tryz.func26, Tryz.ntmps26
    go_wp2_with fail
    go_ret
    exact ⟨rfl, btrans (balloc _ _) (balloc _ _)⟩
  subst p3
  have d3 : (mo != mo) = false := by simp
  by_cases p : n1 = n2
  rotate_left
  · have e1 : ((n1 : Int) != (n2 : Int)) = true := by simp; omega
    have R : Hid (decide ((⟨co, sy, la, mo, m⟩ : Cfg) = (⟨co, sy, la, mo, m'⟩ : Cfg)) = false) := by unfold Hid; rw [decide_eq_false_iff_not]; intro e; injection e; exact p (by rw [HN.out.1, HN.out.2]; exact congrArg List.length (by assumption))
    rw [R.out]
    clear p
    go_enter Tryz.func26, Tryz.ntmps26
    go_wp2_with fail
    go_ret
    exact ⟨rfl, btrans (balloc _ _) (balloc _ _)⟩
  subst p
  have e1 : ((n1 : Int) != (n1 : Int)) = false := by simp
  have R : Hid (decide ((⟨co, sy, la, mo, m⟩ : Cfg) = (⟨co, sy, la, mo, m'⟩ : Cfg)) = decide (m = m')) := by unfold Hid; rw [decide_eq_decide]; simp
  rw [R.out]
  clear R q4
  have BW : Hid (Below w.heap.size w ((w.alloc (.cells #[.int .i64 co, .int .i64 sy, .int .i64 la, .int .i64 mo, .slice a1 n1 cap1] 24)).alloc (.cells #[.int .i64 co, .int .i64 sy, .int .i64 la, .int .i64 mo, .slice a2 n1 cap2] 24))) := btrans (balloc _ _) (balloc _ _)
  go_enter Tryz.func26, Tryz.ntmps26
  go_wp2_with fail
  generalize hW : (w.alloc _).alloc _ = W at BW
  have cB : Blk W (w.heap.size + 1) #[.int .i64 co, .int .i64 sy, .int .i64 la, .int .i64 mo, .slice a2 n1 cap2] 24 := by rw [← hW]; exact blkTwo _ _ _ _
  have cA : Blk W w.heap.size #[.int .i64 co, .int .i64 sy, .int .i64 la, .int .i64 mo, .slice a1 n1 cap1] 24 := by rw [← hW]; exact (show Blk (w.alloc (.cells #[.int .i64 co, .int .i64 sy, .int .i64 la, .int .i64 mo, .slice a1 n1 cap1] 24)) w.heap.size #[.int .i64 co, .int .i64 sy, .int .i64 la, .int .i64 mo, .slice a1 n1 cap1] 24 from heap_alloc_new _ _).below (balloc _ _)
  have KW : Hid (Blk W (w.heap.size + 1) #[.int .i64 co, .int .i64 sy, .int .i64 la, .int .i64 mo, .slice a2 n1 cap2] 24 ∧ Blk W w.heap.size #[.int .i64 co, .int .i64 sy, .int .i64 la, .int .i64 mo, .slice a1 n1 cap1] 24) := ⟨cB, cA⟩
  have sW : w.heap.size + 1 < W.heap.size := cB.lt
  clear hW cA cB
  go_loopw [5] (fun i wr => ∃ k : Nat, k ≤ n1 ∧ i = .int .i64 k ∧ m.take k = m'.take k ∧ Below W.heap.size W wr) (fun i _ => n1 - (intOf i).toNat)
  case atStart => exact ⟨0, Nat.zero_le _, rfl, rfl, Below.refl _ _⟩
  case round =>
    obtain ⟨k, hk, rfl, hh, hB⟩ := hrel
    have HH : Hid (m.take k = m'.take k) := hh
    have B : Hid (Below W.heap.size W wr) := hB
    have BB : Hid (Below w.heap.size w wr) := BW.out.trans (hB.mono (by omega))
    have u4 : wr.cell? ⟨w.heap.size, 4, none⟩ = some (.slice a1 n1 cap1) := (KW.out.2.below hB).cell 4
    have t4 : wr.cell? ⟨w.heap.size + 1, 4, none⟩ = some (.slice a2 n1 cap2) := (KW.out.1.below hB).cell 4
    have sr : W.heap.size ≤ wr.heap.size := hB.size
    clear hh hB
    by_cases hlt : k < n1
    · obtain ⟨s1, hx1⟩ : ∃ x, m[k]? = some x := ⟨_, List.getElem?_eq_getElem (by rw [← HN.out.1]; exact hlt)⟩
      obtain ⟨s2, hx2⟩ : ∃ x, m'[k]? = some x := ⟨_, List.getElem?_eq_getElem (by rw [← HN.out.2]; exact hlt)⟩
      obtain ⟨b1, rfl, hb1, hc1⟩ : ∃ b, a1 = some ⟨b, 0, none⟩ ∧ b < w.heap.size ∧ w.cell? ⟨b, k, none⟩ = some (.int .i64 s1) := by
        rcases H1.out with ⟨e, _⟩ | ⟨b, cap, e, hb, hc⟩
        · subst e; simp at hx1
        · simp only [Value.slice.injEq] at e
          exact ⟨b, e.1, hb, hc k _ hx1⟩
      have g1 : wr.cell? ⟨b1, k, none⟩ = some (.int .i64 s1) := (BB.out.cell (p := ⟨b1, k, none⟩) hb1).trans hc1
      obtain ⟨b2, rfl, hb2, hc2⟩ : ∃ b, a2 = some ⟨b, 0, none⟩ ∧ b < w.heap.size ∧ w.cell? ⟨b, k, none⟩ = some (.int .i64 s2) := by
        rcases H2.out with ⟨e, _⟩ | ⟨b, cap, e, hb, hc⟩
        · subst e; simp at hx2
        · simp only [Value.slice.injEq] at e
          exact ⟨b, e.1, hb, hc k _ hx2⟩
      have g2 : wr.cell? ⟨b2, k, none⟩ = some (.int .i64 s2) := (BB.out.cell (p := ⟨b2, k, none⟩) hb2).trans hc2
      have X : Hid (m[k]? = some s1 ∧ m'[k]? = some s2) := ⟨hx1, hx2⟩
      clear hx1 hx2 hc1 hc2
      by_cases he : (s1 : Int) = s2
      · have hd : (s1 != s2) = false := by simp [he]
        have HE : Hid ((s1 : Int) = s2) := he
        clear he
        go_wp2_with fail
        go_quiet (fail)
        go_wp2_with fail
        go_round
        case rel => exact ⟨k + 1, by omega, by go_num, take_step HH.out X.out.1 (by rw [X.out.2, HE.out]), btrans B.out ⟨rfl, rfl, rfl, Nat.le_refl _, fun _ _ => rfl⟩⟩
        case measure => simp [intOf]; omega
      · have hd : (s1 != s2) = true := by simp [he]
        have HE : Hid (¬ (s1 : Int) = s2) := he
        clear he
        go_wp2_with fail
        go_quiet (fail)
        go_wp2_with fail
        go_ret
        have hne : decide (m = m') = false := by
          simp only [decide_eq_false_iff_not]
          intro e
          have h1 := X.out.1
          rw [e, X.out.2] at h1
          exact HE.out (Option.some.inj h1).symm
        exact ⟨ret_bool hne.symm, btrans BB.out ⟨rfl, rfl, rfl, Nat.le_refl _, fun _ _ => rfl⟩⟩
    · go_wp2_with fail
      go_ret
      have e1 : m.take k = m := List.take_of_length_le (by have := HN.out.1; omega)
      have e2 : m'.take k = m' := List.take_of_length_le (by have := HN.out.2; omega)
      have := HH.out
      rw [e1, e2] at this
      exact ⟨ret_bool (by simp [this]), BB.out⟩
end Go.Proofs.YtfhhpmnohbmnoaaGreatDoor
