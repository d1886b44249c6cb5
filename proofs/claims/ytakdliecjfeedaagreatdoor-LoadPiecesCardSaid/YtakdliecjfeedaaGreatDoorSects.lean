/- The contract of the reader's sections. -/
import Derived.Test.YtakdliecjfeedaaGreatDoorAgents
namespace Go.Proofs.YtakdliecjfeedaaGreatDoor
open Go Go.RowKit

theorem secsS_more {k : Nat} {s s' : St} {x : Sec} (hk : k < 2) (hm : moreS s = true) (hx : secS s = (x, s')) : secsS (2 - k) s = (x :: (secsS (2 - (k + 1)) s').1, (secsS (2 - (k + 1)) s').2) := by
  rw [show 2 - k = (2 - (k + 1)) + 1 by omega, secsS, if_pos hm, hx]
theorem secsS_stop {m : Nat} {s : St} (hm : moreS s = false) : secsS m s = ([], s) := by
  cases m with
  | zero => rfl
  | succ m => rw [secsS, if_neg (by simp [hm])]

set_option maxHeartbeats 8000000 in
set_option maxRecDepth 100000 in
theorem sects_any (b : Nat) (st : St) (w : World) (hE : Env w) (hb5 : 5 ≤ b) (h : Rd w b st) :
    Calls Tryz.prog 102 #[.pointer (some ⟨b, 0, none⟩)] w fun e w' => ∃ u, e = .returned u ∧ w'.ownsRow w.heap.size 39 3 u (secsS 2 st).1.length (secC (secsS 2 st).1) ∧ Rd w' b (secsS 2 st).2 ∧ Only [b] w w' := by
  obtain ⟨i0, hi0, hz0, hz1, hz2⟩ := info_parts infoS
  have hbl := h.lt
  have HE : Hid (Env w) := hE
  have HR : Hid (Rd w b st) := h
  clear hE h
  go_enter Tryz.func102, Tryz.ntmps102
  go_wp2_with fail
  go_loopw [3] (fun u wr => ∃ (vs : List Sec) (s : St), vs.length ≤ 2 ∧ wr.ownsRow w.heap.size 39 3 u vs.length (secC vs) ∧ Rd wr b s ∧ Only [b] w wr ∧ secsS 2 st = (vs ++ (secsS (2 - vs.length) s).1, (secsS (2 - vs.length) s).2)) (fun u _ => 6 - lenOf u)
  case atStart => exact ⟨[], st, by simp, World.ownsRow_nil _ _ _ _, HR.out, Only.refl _ _, rfl⟩
  case round =>
    obtain ⟨vs, s, hk, own, hr, ho, ha⟩ := hrel
    obtain ⟨a, cap, rfl⟩ := own_form own
    have R : Hid (Rd wr b s) := hr
    have O : Hid (Only [b] w wr) := ho
    obtain ⟨n, hn⟩ : ∃ n, n = vs.length := ⟨_, rfl⟩
    have A : Hid (secsS 2 st = (vs ++ (secsS (2 - vs.length) s).1, (secsS (2 - vs.length) s).2)) := ha
    have W : Hid (wr.ownsRow w.heap.size 39 3 (.slice a vs.length cap) vs.length (secC vs)) := own
    rw [← hn] at A W ⊢
    have HN : Hid (n = vs.length) := hn
    have hk2 : n ≤ 2 := by omega
    clear hr ho ha own hn hk
    cases hm : moreS s
    · go_wp2_with (go_at_call 98; refine (more_any b s _ R.out).mono ?_; rintro e w' ⟨rfl, hw⟩; subst w')
      go_ret
      have e := A.out
      rw [secsS_stop hm] at e
      simp only [List.append_nil] at e
      refine ⟨_, rfl, ?_, ?_, O.out⟩
      · rw [e]; have := W.out; rw [HN.out] at this ⊢; exact this
      · rw [e]; exact R.out
    · by_cases h2 : (n : Int) < 2
      · obtain ⟨x1, s1, hx1⟩ : ∃ x s', numS [32] s = (x, s') := ⟨_, _, rfl⟩
        obtain ⟨x2, s2, hx2⟩ : ∃ x s', numS [64] s1 = (x, s') := ⟨_, _, rfl⟩
        obtain ⟨x3, s3, hx3⟩ : ∃ x s', numS [43] s2 = (x, s') := ⟨_, _, rfl⟩
        have S : Hid (secS s = (⟨x1, x2, x3⟩, s3)) := by unfold Hid secS; rw [hx1]; simp only [hx2, hx3]
        have X1 : Hid (numS [32] s = (x1, s1)) := hx1
        have X2 : Hid (numS [64] s1 = (x2, s2)) := hx2
        have X3 : Hid (numS [43] s2 = (x3, s3)) := hx3
        have E : Hid (Env wr) := HE.out.only O.out (by simpa using hb5)
        have z0 : w.heap.size ≤ wr.heap.size := O.out.size
        clear hx1 hx2 hx3
        have q0 : Hid (Rnd w b wr.heap.size s #[.int .i64 0, .int .i64 0, .int .i64 0] (.slice a n cap) n (secC vs) (wr.alloc (.cells #[.int .i64 0, .int .i64 0, .int .i64 0] 39))) :=
          ⟨R.out.below (balloc _ _), O.out.below (balloc _ _), heap_alloc_new _ _, own_below W.out (balloc _ _), E.out.below (balloc _ _), fun k hk => (W.out.lt k hk), z0, hbl, hb5⟩
        go_wp2_with (go_at_call 98; refine (more_any b s _ R.out).mono ?_; rintro e w' ⟨rfl, hw⟩; subst w')
        refine (number_at b s ⟨#[32]⟩ [32] rfl x1 s1 X1.out _ q0.out.env hb5 q0.out.rd).mono ?_
        rintro e w2 ⟨rfl, r2, o2⟩
        have q1 : Hid (Rnd w b wr.heap.size s1 _ (.slice a n cap) n (secC vs) w2) := q0.out.read r2 o2
        have c0 : w2.cell? ⟨wr.heap.size, 0, none⟩ = some (.int .i64 0) := q1.out.blk.cell 0
        have f0 := q1.out.blk.frozen 0
        have l0 := q1.out.blk.lt
        clear r2 o2 q0
        go_wp2_with fail
        have q2 := q1.out.store 0 (.int .i64 x1)
        simp only [List.setIfInBounds_toArray, List.set_cons_zero] at q2
        generalize hW2 : w2.setCell ⟨wr.heap.size, 0, none⟩ (.int .i64 x1) = W2 at q2 ⊢
        have Q2 : Hid (Rnd w b wr.heap.size s1 _ (.slice a n cap) n (secC vs) W2) := q2
        clear q1 c0 f0 q2 hW2 l0
        refine (number_at b s1 ⟨#[64]⟩ [64] rfl x2 s2 X2.out _ Q2.out.env hb5 Q2.out.rd).mono ?_
        rintro e w3 ⟨rfl, r3, o3⟩
        have q3 : Hid (Rnd w b wr.heap.size s2 _ (.slice a n cap) n (secC vs) w3) := Q2.out.read r3 o3
        have c0 : w3.cell? ⟨wr.heap.size, 1, none⟩ = some (.int .i64 0) := q3.out.blk.cell 1
        have f0 := q3.out.blk.frozen 1
        have l0 := q3.out.blk.lt
        clear r3 o3 Q2
        go_wp2_with fail
        have q4 := q3.out.store 1 (.int .i64 x2)
        simp only [List.setIfInBounds_toArray, List.set_cons_zero, List.set_cons_succ] at q4
        generalize hW4 : w3.setCell ⟨wr.heap.size, 1, none⟩ (.int .i64 x2) = W4 at q4 ⊢
        have Q4 : Hid (Rnd w b wr.heap.size s2 _ (.slice a n cap) n (secC vs) W4) := q4
        clear q3 c0 f0 q4 hW4 l0
        refine (number_at b s2 ⟨#[43]⟩ [43] rfl x3 s3 X3.out _ Q4.out.env hb5 Q4.out.rd).mono ?_
        rintro e w5 ⟨rfl, r5, o5⟩
        have q5 : Hid (Rnd w b wr.heap.size s3 _ (.slice a n cap) n (secC vs) w5) := Q4.out.read r5 o5
        have c0 : w5.cell? ⟨wr.heap.size, 2, none⟩ = some (.int .i64 0) := q5.out.blk.cell 2
        have f0 := q5.out.blk.frozen 2
        have l0 := q5.out.blk.lt
        clear r5 o5 Q4
        have c1 : w5.cell? ⟨wr.heap.size, 0, none⟩ = some (.int .i64 x1) := q5.out.blk.cell 0
        have c2 : w5.cell? ⟨wr.heap.size, 1, none⟩ = some (.int .i64 x2) := q5.out.blk.cell 1
        have q6 : Hid _ := q5.out.store 2 (.int .i64 x3)
        have z5 : w.heap.size ≤ w5.heap.size := q5.out.on.size
        clear q5
        go_wp2_with (at_builtin; refine wpList_append_own_at _ rfl (.tmp 21) (.tmp 23) 32 rfl w.heap.size 39 i0 (.agg #[.int .i64 0, .int .i64 0, .int .i64 0]) 3 24 Tryz.underlying32 hi0 hz0 hz1 hz2 rfl (by decide) _ _ _ rfl (q6.out.own.alloc _) ⟨w5.heap.size, 0, none⟩ 1 1 [.int .i64 x1, .int .i64 x2, .int .i64 x3] rfl rfl (by intro j q hj; have := cell_three (w5.setCell ⟨wr.heap.size, 2, none⟩ (.int .i64 x3)) _ _ _ 39 j q hj; simpa using this) (by intro u hu; simp at hu; rcases hu with rfl | rfl | rfl <;> rfl) (by unfold maxLen; omega) (by omega) (by simp; omega) ?_; intro v7 w7 own7 grow7 nil7 at7; have L7 : Hid (Below w.heap.size (w5.setCell ⟨wr.heap.size, 2, none⟩ (.int .i64 x3)) w7 ∧ w7.ownsRow w.heap.size 39 3 v7 (n + 1) (secC vs ++ [.int .i64 x1, .int .i64 x2, .int .i64 x3])) := ⟨own_grow q6.out.own q6.out.on.size grow7, own7⟩; clear own7 grow7 nil7 at7)
        go_round
        case rel =>
          refine ⟨vs ++ [⟨x1, x2, x3⟩], s3, by have := HN.out; simp; omega, ?_, q6.out.rd.belowB hbl L7.out.1, q6.out.on.bel L7.out.1, ?_⟩
          · have := L7.out.2
            rw [HN.out] at this
            rw [secC_snoc]
            simpa using this
          · rw [A.out, secsS_more (by omega) hm S.out]
            simp [HN.out]
        case measure =>
          obtain ⟨a3, cap3, e3⟩ := own_form L7.out.2
          rw [e3]; show 6 - (n + 1) < 6 - n; omega
      · go_wp2_with (go_at_call 98; refine (more_any b s _ R.out).mono ?_; rintro e w' ⟨rfl, hw⟩; subst w')
        go_ret
        have e := A.out
        have hk5 : n = 2 := by omega
        rw [hk5, show 2 - 2 = 0 from rfl] at e
        simp only [secsS, List.append_nil] at e
        refine ⟨_, rfl, ?_, ?_, O.out⟩
        · rw [show (secsS 2 st).1 = vs from by rw [show secsS 2 st = (vs, s) from e]]; have := W.out; rw [HN.out] at this ⊢; exact this
        · rw [show (secsS 2 st).2 = s from by rw [show secsS 2 st = (vs, s) from e]]; exact R.out
end Go.Proofs.YtakdliecjfeedaaGreatDoor
