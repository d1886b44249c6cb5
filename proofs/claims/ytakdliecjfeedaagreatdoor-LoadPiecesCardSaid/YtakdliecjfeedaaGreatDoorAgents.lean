/- The contract of the reader's agents. -/
import Derived.Test.YtakdliecjfeedaaGreatDoorOwn
import Derived.Test.YtakdliecjfeedaaGreatDoorRead2
namespace Go.Proofs.YtakdliecjfeedaaGreatDoor
open Go Go.RowKit

theorem number_at (b : Nat) (st : St) (ahead : ByteArray) (p : List UInt8) (hp : ahead.data.toList = p) (x : Int) (s : St) (hx : numS p st = (x, s)) (w : World) (hE : Env w) (hb5 : 5 ≤ b) (h : Rd w b st) :
    Calls Tryz.prog 97 #[.pointer (some ⟨b, 0, none⟩), .string ahead] w fun e w' => e = .returned (.int .i64 x) ∧ Rd w' b s ∧ Only [b] w w' := by
  have := number_any b st ahead w hE hb5 h
  rw [hp, hx] at this
  exact this
theorem agentsS_more {k : Nat} {s s' : St} {x : Int} (hk : k < 5) (hm : moreS s = true) (hx : numS [32] s = (x, s')) : agentsS (5 - k) s = (x :: (agentsS (5 - (k + 1)) s').1, (agentsS (5 - (k + 1)) s').2) := by
  rw [show 5 - k = (5 - (k + 1)) + 1 by omega, agentsS, if_pos hm, hx]
theorem agentsS_stop {m : Nat} {s : St} (hm : moreS s = false) : agentsS m s = ([], s) := by
  cases m with
  | zero => rfl
  | succ m => rw [agentsS, if_neg (by simp [hm])]
def lenOf : Value → Nat
  | .slice _ n _ => n
  | _ => 0

set_option maxHeartbeats 4000000 in
set_option maxRecDepth 100000 in
theorem agents_any (b : Nat) (st : St) (w : World) (hE : Env w) (hb5 : 5 ≤ b) (h : Rd w b st) :
    Calls Tryz.prog 100 #[.pointer (some ⟨b, 0, none⟩)] w fun e w' => ∃ u, e = .returned u ∧ w'.ownsRow w.heap.size 3 1 u (agentsA st).1.length ((agentsA st).1.map mkI) ∧ Rd w' b (agentsA st).2 ∧ Only [b] w w' := by
  obtain ⟨i0, hi0, hz0, hz1, hz2⟩ := info_parts infoI
  have hbl := h.lt
  obtain ⟨x1, s1, hx1⟩ : ∃ x s, numS [32] st = (x, s) := ⟨_, _, rfl⟩
  have HA : Hid (agentsA st = (x1 :: (agentsS 5 s1).1, (agentsS 5 s1).2)) := by unfold Hid agentsA; rw [hx1]
  have HX : Hid (numS [32] st = (x1, s1)) := hx1
  have HE : Hid (Env w) := hE
  have HR : Hid (Rd w b st) := h
  clear hx1 hE h
  go_enter Tryz.func100, Tryz.ntmps100
  go_wp2_with fail
  refine (number_at b st ⟨#[32]⟩ [32] rfl x1 s1 HX.out w HE.out hb5 HR.out).mono ?_
  rintro e w1 ⟨rfl, r1, o1⟩
  have R1 : Hid (Rd w1 b s1) := r1
  have O1 : Hid (Only [b] w w1) := o1
  have z1 : w.heap.size ≤ w1.heap.size := o1.size
  clear r1 o1
  go_wp2_with fail
  go_loopw [3] (fun u wr => ∃ (vs : List Int) (s : St) (k : Nat), k ≤ 5 ∧ vs.length = k + 1 ∧ wr.ownsRow w.heap.size 3 1 u vs.length (vs.map mkI) ∧ Rd wr b s ∧ Only [b] w wr ∧ agentsA st = (vs ++ (agentsS (5 - k) s).1, (agentsS (5 - k) s).2)) (fun u _ => 6 - lenOf u)
  case atStart => exact ⟨[x1], s1, 0, by omega, rfl, own_ints_one z1 (heap_alloc_new _ _), R1.out.below (balloc _ _), O1.out.below (balloc _ _), HA.out⟩
  case round =>
    obtain ⟨vs, s, k, hk, hvs, own, hr, ho, ha⟩ := hrel
    obtain ⟨a, cap, rfl⟩ := own_form own
    have R : Hid (Rd wr b s) := hr
    have O : Hid (Only [b] w wr) := ho
    have A : Hid (agentsA st = (vs ++ (agentsS (5 - k) s).1, (agentsS (5 - k) s).2)) := ha
    have W : Hid (wr.ownsRow w.heap.size 3 1 (.slice a vs.length cap) vs.length (vs.map mkI)) := own
    have L : Hid (vs.length = k + 1) := hvs
    obtain ⟨n, hn⟩ : ∃ n, n = vs.length := ⟨_, rfl⟩
    rw [← hn] at W ⊢
    have HN : Hid (n = vs.length) := hn
    have hk1 : 1 ≤ n := by omega
    have hk6 : n ≤ 6 := by omega
    clear hr ho ha own hvs hn hk
    cases hm : moreS s
    · go_wp2_with (go_at_call 98; refine (more_any b s _ R.out).mono ?_; rintro e w' ⟨rfl, hw⟩; subst w')
      go_ret
      have e := A.out
      rw [agentsS_stop hm] at e
      simp only [List.append_nil] at e
      refine ⟨_, rfl, ?_, ?_, O.out⟩
      · rw [e]; have := W.out; rw [HN.out] at this ⊢; exact this
      · rw [e]; exact R.out
    · by_cases h6 : (n : Int) < 6
      · obtain ⟨x, s', hx⟩ : ∃ x s', numS [32] s = (x, s') := ⟨_, _, rfl⟩
        have X : Hid (numS [32] s = (x, s')) := hx
        have E : Hid (Env wr) := HE.out.only O.out (by simpa using hb5)
        clear hx
        go_wp2_with (first | (go_at_call 98; refine (more_any b s _ R.out).mono ?_; rintro e w' ⟨rfl, hw⟩; subst w') | (go_at_call 97; refine (number_at b s ⟨#[32]⟩ [32] rfl x s' X.out _ E.out hb5 R.out).mono ?_; rintro e w2 ⟨rfl, r2, o2⟩; have R2 : Hid (Rd w2 b s') := r2; have O2 : Hid (Only [b] w w2) := O.out.same o2; have own : w2.ownsRow w.heap.size 3 1 (.slice a n cap) n (vs.map mkI) := own_only W.out o2 (by simpa using hbl); have z2 : w.heap.size ≤ w2.heap.size := O2.out.size; clear r2 o2) | (at_builtin; refine wpList_append_own_at _ rfl (.tmp 14) (.tmp 17) 22 rfl w.heap.size 3 i0 (.int .i64 0) 1 8 Tryz.underlying22 hi0 hz0 hz1 hz2 rfl (by decide) _ _ _ rfl (own.alloc _) ⟨w2.heap.size, 0, none⟩ 1 1 [.int .i64 x] rfl rfl (cell_one _ _ _) (by intro u hu; simp at hu; subst hu; rfl) (by unfold maxLen; omega) (by omega) (by simp; omega) ?_; intro v3 w3 own3 grow3 nil3 at3; have L3 : Hid (Below w.heap.size w2 w3 ∧ w3.ownsRow w.heap.size 3 1 v3 (n + 1) (vs.map mkI ++ [.int .i64 x])) := ⟨own_grow own z2 grow3, own3⟩; clear own3 grow3 nil3 at3 own))
        obtain ⟨a3, cap3, e3⟩ := own_form L3.out.2
        refine ⟨⟨vs ++ [x], s', k + 1, by have := HN.out; have := L.out; omega, by simp [L.out], ?_, R2.out.belowB hbl L3.out.1, O2.out.bel L3.out.1, ?_⟩, ?_⟩
        · have := L3.out.2
          rw [HN.out] at this
          rw [List.map_append]
          simpa [mkI] using this
        · rw [A.out, agentsS_more (by have := HN.out; have := L.out; omega) hm X.out]
          simp
        · rw [e3]; show 6 - (n + 1) < 6 - n; omega
      · go_wp2_with (go_at_call 98; refine (more_any b s _ R.out).mono ?_; rintro e w' ⟨rfl, hw⟩; subst w')
        go_ret
        have e := A.out
        have hk5 : k = 5 := by have := HN.out; have := L.out; omega
        rw [hk5, show 5 - 5 = 0 from rfl, agentsS] at e
        simp only [List.append_nil] at e
        refine ⟨_, rfl, ?_, ?_, O.out⟩
        · rw [e]; have := W.out; rw [HN.out] at this ⊢; exact this
        · rw [e]; exact R.out
end Go.Proofs.YtakdliecjfeedaaGreatDoor
