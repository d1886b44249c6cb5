/- The contracts of the document's own Over and Fits. -/
import Derived.Test.YtakdliecjfeedaaGreatDoorRTime
import Derived.Test.YtakdliecjfeedaaGreatDoorRTime
namespace Go.Proofs.YtakdliecjfeedaaGreatDoor
open Go Go.RowKit

theorem dstep_bd {l : List Sec} (h : ∀ s ∈ l, ldB s = true) (t : Int) : 0 ≤ dstepL l t ∧ dstepL l t ≤ 20000 * l.length := by
  induction l with
  | nil => simp [dstepL]
  | cons x r ih =>
    have hx := ldB_iff.1 (h x (by simp))
    have := ih (fun y hy => h y (by simp [hy]))
    simp only [dstepL, List.length_cons]
    split <;> omega
theorem over_part {l : List Sec} (hl : ldsB l = true) {t : Int} (h0 : 1 ≤ t) (h1 : t ≤ 20000) (k : Nat) : 0 ≤ dueL l (t - 1) + dstepL (l.take k) t ∧ dueL l (t - 1) + dstepL (l.take k) t ≤ 9700000000 := by
  have a := dstep_bd (l := l.take k) (fun s hs => ldsB_all hl s (List.mem_of_mem_take hs)) t
  have b := due_part (ldsB_all hl) (ldsB_len hl) (t := t - 1) (by omega) (by omega) l.length
  rw [List.take_length] at b
  have c := ldsB_len hl
  have d : (l.take k).length ≤ l.length := by rw [List.length_take]; omega
  omega
set_option maxHeartbeats 8000000 in
theorem rover_any (v : Value) (l : List Sec) (w : World) (hv : Secs w v l) (hl : l.length ≤ 1000000) :
    Calls Tryz.prog 48 #[v] w fun e w' => e = .returned (.tuple #[.int .i64 (oN l), .bool (tOk l)]) ∧ Below w.heap.size w w' := by
  have HV : Hid (Secs w v l) := hv
  obtain ⟨a, cap, rfl⟩ := hv.form
  obtain ⟨n, hn⟩ : ∃ n, n = l.length := ⟨_, rfl⟩
  clear hv
  rw [← hn] at HV ⊢
  have HN : Hid (n = l.length) := hn
  have n6 : n ≤ 1000000 := by omega
  clear hn
  obtain ⟨z, hz⟩ : ∃ z, tN l = z := ⟨_, rfl⟩
  have HZ : Hid (tN l = z) := hz
  have zb := tN_bd l
  rw [hz] at zb
  obtain ⟨z0, z1⟩ := zb
  clear hz
  cases h : tOk l
  · have HR : Hid (oOk l = false ∧ oN l = 0) := over_lost h
    have HO : Hid (tOk l = false) := h
    have hz : z = 0 := by rw [← HZ.out]; exact tN_no h
    subst hz
    clear h
    go_enter Tryz.func48, Tryz.ntmps48
    go_wp2_with (go_at_call 56; refine (rtime_any _ l _ HV.out hl).mono ?_; rintro e w1 ⟨rfl, g1⟩; rw [HZ.out, HO.out]; have G1 : Hid (Below w.heap.size w w1) := g1; clear g1)
    go_loop [6, 7] (fun x t => x = .int .i64 0 ∧ t = .int .i64 1) (fun _ _ => 0)
    case atStart => exact ⟨rfl, rfl⟩
    case round =>
      obtain ⟨rfl, rfl⟩ := hrel
      go_wp2_with fail
      go_ret2
      exact ⟨ret_two HR.out.2.symm rfl, G1.out⟩
  · have HL : Hid (ldsB l = true) := tOk_lds h
    have HO : Hid (tOk l = true) := h
    clear h
    have HP : Hid (∀ t k, 1 ≤ t → t ≤ 20000 → 0 ≤ dueL l (t - 1) + dstepL (l.take k) t ∧ dueL l (t - 1) + dstepL (l.take k) t ≤ 9700000000) := fun t k h0 h1 => over_part HL.out h0 h1 k
    go_enter Tryz.func48, Tryz.ntmps48
    go_wp2_with (go_at_call 56; refine (rtime_any _ l _ HV.out hl).mono ?_; rintro e w1 ⟨rfl, g1⟩; rw [HZ.out, HO.out]; have G1 : Hid (Below w.heap.size w w1) := g1; clear g1)
    go_loopw [6, 7] (fun x y wr => ∃ t : Int, 1 ≤ t ∧ t ≤ 20001 ∧ y = .int .i64 t ∧ x = .int .i64 (dueL l (t - 1)) ∧ Hid (Fine l t) ∧ Below w.heap.size w wr) (fun _ y _ => (20002 - intOf y).toNat)
    case atStart => exact ⟨1, by omega, by omega, rfl, by rw [show (1 : Int) - 1 = 0 by omega, due_zero (ldsB_all HL.out)], fun s h1 h2 => by omega, G1.out⟩
    case round =>
      obtain ⟨t, t1, t2, rfl, rfl, HF, hB⟩ := hrel
      have B : Hid (Below w.heap.size w wr) := hB
      clear hB
      by_cases ht : t ≤ z
      · go_wp2_with fail
        go_loopw [6, 8] (fun x i wr => ∃ k : Nat, k ≤ n ∧ i = .int .i64 k ∧ x = .int .i64 (dueL l (t - 1) + dstepL (l.take k) t) ∧ Below w.heap.size w wr) (fun _ i _ => n - (intOf i).toNat)
        case atStart => exact ⟨0, Nat.zero_le _, rfl, by simp [dstepL], B.out⟩
        case round =>
          obtain ⟨k, hk, rfl, rfl, hC⟩ := hrel
          have C : Hid (Below w.heap.size w wr) := hC
          clear hC
          by_cases hlt : k < n
          · obtain ⟨⟨c, d, T⟩, hx⟩ : ∃ x, l[k]? = some x := ⟨_, List.getElem?_eq_getElem (by rw [← HN.out]; exact hlt)⟩
            obtain ⟨b, e, hb, hb', x1, x2, x3⟩ := secs_at' HV.out hx C.out
            subst e
            have hs := ldB_iff.1 (ldsB_all HL.out _ (List.mem_of_getElem? hx))
            simp only at hs
            obtain ⟨⟨c1, c2⟩, ⟨T1, T2⟩, d1, d2⟩ := hs
            have HT : Hid (dueL l (t - 1) + dstepL (l.take (k + 1)) t = dueL l (t - 1) + dstepL (l.take k) t + if d ≤ t ∧ (t - d) % T = 0 then c else 0) := by unfold Hid; rw [dstepL_take hx, Int.add_assoc]
            clear hx
            obtain ⟨X, hX⟩ : ∃ X, dueL l (t - 1) + dstepL (l.take k) t = X := ⟨_, rfl⟩
            obtain ⟨p1, p2⟩ := HP.out t k t1 (by omega)
            rw [hX] at p1 p2 HT
            rw [hX]
            clear hX
            by_cases e0 : d ≤ t
            · have d0 : decide (d ≤ t) = true := decide_eq_true e0
              by_cases e1 : (t - d) % T = 0
              · have d4 : ((t - d) % T == 0) = true := by simp [e1]
                have HT' : Hid (dueL l (t - 1) + dstepL (l.take (k + 1)) t = X + c) := by unfold Hid; rw [HT.out, if_pos ⟨e0, e1⟩]
                clear HT
                go_wp2_with fail
                go_quiet (fail)
                go_wp2_with fail
                go_round
                case rel => exact ⟨k + 1, by omega, by go_num, by rw [HT'.out], btrans C.out (bdrewN _ _)⟩
                case measure => simp [intOf]; omega
              · have d4 : ((t - d) % T == 0) = false := by simp [e1]
                have HT' : Hid (dueL l (t - 1) + dstepL (l.take (k + 1)) t = X) := by unfold Hid; rw [HT.out, if_neg (fun h => e1 h.2)]; omega
                clear HT
                go_wp2_with fail
                go_quiet (fail)
                go_wp2_with fail
                go_round
                case rel => exact ⟨k + 1, by omega, by go_num, by rw [HT'.out], btrans C.out (bdrewN _ _)⟩
                case measure => simp [intOf]; omega
            · have d0 : decide (d ≤ t) = false := decide_eq_false e0
              have HT' : Hid (dueL l (t - 1) + dstepL (l.take (k + 1)) t = X) := by unfold Hid; rw [HT.out, if_neg (fun h => e0 h.1)]; omega
              clear HT
              go_wp2_with fail
              go_quiet (fail)
              go_wp2_with fail
              go_round
              case rel => exact ⟨k + 1, by omega, by go_num, by rw [HT'.out], btrans C.out (bdrewN _ _)⟩
              case measure => simp [intOf]; omega
          · have e : dueL l (t - 1) + dstepL (l.take k) t = dueL l t := by rw [take_all HN.out hlt]; exact (due_step (ldsB_all HL.out) t).symm
            rw [e]
            clear e
            obtain ⟨q, hq⟩ : ∃ q, dueL l t = q := ⟨_, rfl⟩
            have HQ : Hid (dueL l t = q) := hq
            rw [hq]
            clear hq
            by_cases e : t < q
            · have HR : Hid (oOk l = true ∧ oN l = t) := over_found (by omega) (by rw [HZ.out]; exact ht) (by rw [HQ.out]; exact e) HF.out
              go_wp2_with fail
              go_ret2
              exact ⟨ret_two HR.out.2.symm rfl, C.out⟩
            · have HF2 : Hid (Fine l (t + 1)) := fun s h1 h2 => by
                by_cases hs : s = t
                · rw [hs, HQ.out]; omega
                · exact HF.out s h1 (by omega)
              go_wp2_with fail
              go_round
              case rel => exact ⟨t + 1, by omega, by omega, rfl, by rw [show t + 1 - 1 = t by omega, HQ.out], HF2, C.out⟩
              case measure => simp [intOf]; omega
      · have HR : Hid (oOk l = false ∧ oN l = 0) := over_none (by rw [HZ.out]; intro s h1 h2; exact HF.out s h1 (by omega))
        go_wp2_with fail
        go_ret2
        exact ⟨ret_two HR.out.2.symm rfl, B.out⟩

theorem fit_over (l : List Sec) : fitB l = (tOk l && decide (oN l = 0)) := by
  unfold fitB
  cases h : oOk l
  · rw [oN_no h]; simp
  · have := (oN_pos h).1
    rw [decide_eq_false (by omega)]; simp
set_option maxHeartbeats 4000000 in
theorem rfits_any (v : Value) (l : List Sec) (w : World) (hv : Secs w v l) (hl : l.length ≤ 1000000) :
    Calls Tryz.prog 31 #[v] w fun e w' => e = .returned (.bool (fitB l)) ∧ Below w.heap.size w w' := by
  have HV : Hid (Secs w v l) := hv
  obtain ⟨a, cap, rfl⟩ := hv.form
  clear hv
  have HF : Hid (fitB l = (tOk l && decide (oN l = 0))) := fit_over l
  obtain ⟨q, hq⟩ : ∃ q, oN l = q := ⟨_, rfl⟩
  have HQ : Hid (oN l = q) := hq
  clear hq
  cases h : tOk l
  · have HO : Hid (tOk l = false) := h
    clear h
    go_enter Tryz.func31, Tryz.ntmps31
    go_wp2_with (go_at_call 48; refine (rover_any _ l _ HV.out hl).mono ?_; rintro e w1 ⟨rfl, g1⟩; rw [HO.out, HQ.out]; have G1 : Hid (Below w.heap.size w w1) := g1; clear g1)
    go_ret
    exact ⟨ret_bool (by rw [HF.out, HO.out]; rfl), G1.out⟩
  · have HO : Hid (tOk l = true) := h
    clear h
    by_cases e : q = 0
    · subst e
      go_enter Tryz.func31, Tryz.ntmps31
      go_wp2_with (go_at_call 48; refine (rover_any _ l _ HV.out hl).mono ?_; rintro e w1 ⟨rfl, g1⟩; rw [HO.out, HQ.out]; have G1 : Hid (Below w.heap.size w w1) := g1; clear g1)
      go_ret
      exact ⟨ret_bool (by rw [HF.out, HO.out, HQ.out]; rfl), G1.out⟩
    · have d0 : (q == 0) = false := by simp [e]
      go_enter Tryz.func31, Tryz.ntmps31
      go_wp2_with (go_at_call 48; refine (rover_any _ l _ HV.out hl).mono ?_; rintro e w1 ⟨rfl, g1⟩; rw [HO.out, HQ.out]; have G1 : Hid (Below w.heap.size w w1) := g1; clear g1)
      go_ret
      exact ⟨ret_bool (by rw [HF.out, HO.out, HQ.out]; simp [e]), G1.out⟩
end Go.Proofs.YtakdliecjfeedaaGreatDoor
