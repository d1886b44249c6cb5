/- The contracts of slices.Equal at sections and of rule.Same. -/
import Derived.Test.YtakdliecjfeedaaGreatDoorOwn
import Derived.Deep.QuietTactic
import Derived.BigQuiet
import Derived.Laws.StructEq
namespace Go.Proofs.YtakdliecjfeedaaGreatDoor
open Go Go.RowKit

theorem secGuard : Tryz.prog.eqGuardType Tryz.prog.depth 39 = false := by kernel_rfl
theorem secHeld : Tryz.prog.stoodInHeld 39 = false := by kernel_rfl
theorem secFields : Tryz.prog.underlying 39 = some (.struct (Tryz.prog.fieldsOf 39)) := by kernel_rfl
theorem neq_sec (r1 p1 m1 r2 p2 m2 : Int) (w : World) : (binOp .neq 39 (.agg #[.int .i64 r1, .int .i64 p1, .int .i64 m1]) (.agg #[.int .i64 r2, .int .i64 p2, .int .i64 m2])).run Tryz.prog w = .ok (.bool (!decide ((⟨r1, p1, m1⟩ : Sec) = ⟨r2, p2, m2⟩))) w := by
  rw [run_neq_struct, run_equalIn_struct w 9999 _ _ _ secFields secHeld]
  by_cases h1 : r1 = r2
  · by_cases h2 : p1 = p2
    · by_cases h3 : m1 = m2
      · simp [Op.eqFields, Program.fieldsOf, Tryz.underlying39, go_sem, h1, h2, h3]
      · simp [Op.eqFields, Program.fieldsOf, Tryz.underlying39, go_sem, h1, h2, h3]
    · simp [Op.eqFields, Program.fieldsOf, Tryz.underlying39, go_sem, h1, h2]
  · simp [Op.eqFields, Program.fieldsOf, Tryz.underlying39, go_sem, h1]
theorem take_eq_step {l1 l2 : List Sec} {k : Nat} {s : Sec} (h : l1.take k = l2.take k) (h1 : l1[k]? = some s) (h2 : l2[k]? = some s) : l1.take (k + 1) = l2.take (k + 1) := by
  obtain ⟨a1, b1⟩ := List.getElem?_eq_some_iff.1 h1
  obtain ⟨a2, b2⟩ := List.getElem?_eq_some_iff.1 h2
  rw [List.take_succ_eq_append_getElem a1, List.take_succ_eq_append_getElem a2, h, b1, b2]
set_option maxHeartbeats 4000000 in
theorem equal_any (v1 v2 : Value) (l1 l2 : List Sec) (w : World) (h1 : Secs w v1 l1) (h2 : Secs w v2 l2) (hl1 : l1.length ≤ 1000000) (hl2 : l2.length ≤ 1000000) :
    Calls Tryz.prog 104 #[v1, v2] w fun e w' => e = .returned (.bool (decide (l1 = l2))) ∧ Below w.heap.size w w' := by
  obtain ⟨a1, cap1, e⟩ := h1.form
  subst e
  obtain ⟨a2, cap2, e⟩ := h2.form
  subst e
  by_cases hlen : l1.length = l2.length
  · by_cases hnil : l1 = []
    · subst hnil
      have e2 : l2 = [] := List.length_eq_zero_iff.1 hlen.symm
      subst e2
      have hd : decide (([] : List Sec) = []) = true := rfl
      rw [hd]
      clear h1 h2
      go_enter Tryz.func104, Tryz.ntmps104
      go_wp2_with fail
      go_loop [13] (fun i => i = .int .i64 0) (fun _ => 0)
      case atStart => rfl
      case round =>
        subst hrel
        go_wp2_with fail
        go_ret
        exact ⟨rfl, Below.refl _ _⟩
    · rcases h1 with ⟨hn, _⟩ | ⟨b1, c1, e, hb1, hc1⟩
      · exact absurd hn hnil
      rcases h2 with ⟨hn, _⟩ | ⟨b2, c2, e', hb2, hc2⟩
      · exact absurd (List.length_eq_zero_iff.1 (by rw [hlen, hn]; rfl)) hnil
      simp only [Value.slice.injEq] at e e'
      obtain ⟨rfl, -, rfl⟩ := e
      obtain ⟨rfl, -, rfl⟩ := e'
      have C1 : Hid (∀ j s, l1[j]? = some s → w.cell? ⟨b1, j * 3, none⟩ = some (.int .i64 s.res) ∧ w.cell? ⟨b1, j * 3 + 1, none⟩ = some (.int .i64 s.pos) ∧ w.cell? ⟨b1, j * 3 + 2, none⟩ = some (.int .i64 s.len)) := hc1
      have C2 : Hid (∀ j s, l2[j]? = some s → w.cell? ⟨b2, j * 3, none⟩ = some (.int .i64 s.res) ∧ w.cell? ⟨b2, j * 3 + 1, none⟩ = some (.int .i64 s.pos) ∧ w.cell? ⟨b2, j * 3 + 2, none⟩ = some (.int .i64 s.len)) := hc2
      obtain ⟨n, hn⟩ : ∃ n, n = l1.length := ⟨_, rfl⟩
      rw [← hlen, ← hn]
      have HN : Hid (n = l1.length ∧ n = l2.length) := ⟨hn, by rw [hn, hlen]⟩
      have hn0 : n ≤ 1000000 := by omega
      clear hc1 hc2 hlen hn hnil hl1 hl2
      go_enter Tryz.func104, Tryz.ntmps104
      go_wp2_with fail
      go_loopw [13] (fun i wr => ∃ k : Nat, k ≤ n ∧ i = .int .i64 k ∧ l1.take k = l2.take k ∧ Below w.heap.size w wr) (fun i _ => n - (intOf i).toNat)
      case atStart => exact ⟨0, Nat.zero_le _, rfl, rfl, Below.refl _ _⟩
      case round =>
        obtain ⟨k, hk, rfl, hh, hB⟩ := hrel
        have HH : Hid (l1.take k = l2.take k) := hh
        clear hh
        by_cases hlt : k < n
        · obtain ⟨s1, hx1⟩ : ∃ x, l1[k]? = some x := ⟨_, List.getElem?_eq_getElem (by rw [← HN.out.1]; exact hlt)⟩
          obtain ⟨s2, hx2⟩ : ∃ x, l2[k]? = some x := ⟨_, List.getElem?_eq_getElem (by rw [← HN.out.2]; exact hlt)⟩
          obtain ⟨r1, p1, m1⟩ := s1
          obtain ⟨r2, p2, m2⟩ := s2
          obtain ⟨x0, x1, x2⟩ := C1.out k _ hx1
          obtain ⟨y0, y1, y2⟩ := C2.out k _ hx2
          have u0 := (hB.cell (p := ⟨b1, k * 3, none⟩) hb1).trans x0
          have u1 := (hB.cell (p := ⟨b1, k * 3 + 1, none⟩) hb1).trans x1
          have u2 := (hB.cell (p := ⟨b1, k * 3 + 2, none⟩) hb1).trans x2
          have t0 := (hB.cell (p := ⟨b2, k * 3, none⟩) hb2).trans y0
          have t1 := (hB.cell (p := ⟨b2, k * 3 + 1, none⟩) hb2).trans y1
          have t2 := (hB.cell (p := ⟨b2, k * 3 + 2, none⟩) hb2).trans y2
          simp only at u0 u1 u2 t0 t1 t2
          have X : Hid (l1[k]? = some ⟨r1, p1, m1⟩ ∧ l2[k]? = some ⟨r2, p2, m2⟩) := ⟨hx1, hx2⟩
          have B : Hid (Below w.heap.size w wr) := hB
          clear x0 x1 x2 y0 y1 y2 hx1 hx2 hB
          have hg := secGuard
          have hq := neq_sec r1 p1 m1 r2 p2 m2
          by_cases he : (⟨r1, p1, m1⟩ : Sec) = ⟨r2, p2, m2⟩
          · have hd : decide ((⟨r1, p1, m1⟩ : Sec) = ⟨r2, p2, m2⟩) = true := by simp [he]
            rw [hd] at hq
            have HE : Hid ((⟨r1, p1, m1⟩ : Sec) = ⟨r2, p2, m2⟩) := he
            clear he hd
            go_wp2_with fail
            go_quiet (fail)
            go_wp2_with fail
            go_round
            case rel => exact ⟨k + 1, by omega, by go_num, take_eq_step HH.out X.out.1 (by rw [X.out.2, HE.out]), btrans B.out ⟨rfl, rfl, rfl, Nat.le_refl _, fun _ _ => rfl⟩⟩
            case measure => simp [intOf]; omega
          · have hd : decide ((⟨r1, p1, m1⟩ : Sec) = ⟨r2, p2, m2⟩) = false := by simp only [decide_eq_false_iff_not]; exact he
            rw [hd] at hq
            have HE : Hid (¬ (⟨r1, p1, m1⟩ : Sec) = ⟨r2, p2, m2⟩) := he
            clear he hd
            go_wp2_with fail
            go_quiet (fail)
            go_wp2_with fail
            go_ret
            have hne : decide (l1 = l2) = false := by
              simp only [decide_eq_false_iff_not]
              intro e
              have h1 := X.out.1
              rw [e, X.out.2] at h1
              exact HE.out (Option.some.inj h1).symm
            exact ⟨ret_bool hne.symm, btrans B.out ⟨rfl, rfl, rfl, Nat.le_refl _, fun _ _ => rfl⟩⟩
        · go_wp2_with fail
          go_ret
          have e1 : l1.take k = l1 := List.take_of_length_le (by have := HN.out.1; omega)
          have e2 : l2.take k = l2 := List.take_of_length_le (by have := HN.out.2; omega)
          have := HH.out
          rw [e1, e2] at this
          exact ⟨ret_bool (by simp [this]), hB⟩
  · have hd : decide (l1 = l2) = false := by simp only [decide_eq_false_iff_not]; exact fun e => hlen (by rw [e])
    have hne : ((l1.length : Int) == (l2.length : Int)) = false := by simp; omega
    rw [hd]
    clear h1 h2 hd
    go_enter Tryz.func104, Tryz.ntmps104
    go_wp2_with fail
    go_ret
    exact ⟨rfl, Below.refl _ _⟩

theorem tsk_eq {c d t c' d' t' : Int} {m m' : List Sec} : ((⟨c, d, t, m⟩ : Tsk) = ⟨c', d', t', m'⟩) = (c = c' ∧ d = d' ∧ t = t' ∧ m = m') := by simp
set_option maxHeartbeats 4000000 in
theorem same_any (c d t c' d' t' : Int) (v v' : Value) (m m' : List Sec) (w : World) (h1 : Secs w v m) (h2 : Secs w v' m') (hl1 : m.length ≤ 1000000) (hl2 : m'.length ≤ 1000000) :
    Calls Tryz.prog 86 #[.agg #[.int .i64 c, .int .i64 d, .int .i64 t, v], .agg #[.int .i64 c', .int .i64 d', .int .i64 t', v']] w fun e w' => e = .returned (.bool (decide ((⟨c, d, t, m⟩ : Tsk) = ⟨c', d', t', m'⟩))) ∧ Below w.heap.size w w' := by
  have b0 := btrans (balloc w (.cells #[.int .i64 c, .int .i64 d, .int .i64 t, v] 34)) (balloc _ (.cells #[.int .i64 c', .int .i64 d', .int .i64 t', v'] 34))
  have H1 : Hid _ := h1.below b0
  have H2 : Hid _ := h2.below b0
  have B0 : Hid (Below _ _ _) := b0
  obtain ⟨a1, cap1, e⟩ := h1.form
  subst e
  obtain ⟨a2, cap2, e⟩ := h2.form
  subst e
  clear h1 h2 b0
  by_cases q1 : c = c'
  · by_cases q2 : d = d'
    · by_cases q3 : t = t'
      · subst q1 q2 q3
        go_enter Tryz.func86, Tryz.ntmps86
        go_wp2_with (go_at_call 104; refine (equal_any _ _ m m' _ H1.out H2.out hl1 hl2).mono ?_; rintro e w1 ⟨rfl, g1⟩)
        go_ret
        exact ⟨ret_bool (by simp), btrans B0.out g1⟩
      · go_enter Tryz.func86, Tryz.ntmps86
        go_wp2_with fail
        go_ret
        exact ⟨ret_bool (by simp [q3]), btrans (balloc _ _) (balloc _ _)⟩
    · go_enter Tryz.func86, Tryz.ntmps86
      go_wp2_with fail
      go_ret
      exact ⟨ret_bool (by simp [q2]), btrans (balloc _ _) (balloc _ _)⟩
  · go_enter Tryz.func86, Tryz.ntmps86
    go_wp2_with fail
    go_ret
    exact ⟨ret_bool (by simp [q1]), btrans (balloc _ _) (balloc _ _)⟩
end Go.Proofs.YtakdliecjfeedaaGreatDoor
