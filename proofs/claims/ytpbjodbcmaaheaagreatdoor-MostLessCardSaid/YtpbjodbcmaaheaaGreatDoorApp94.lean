/- The laws' own copy with a load out of a box, in a region that draws its order. -/
import Derived.Test.YtpbjodbcmaaheaaGreatDoorApp93
import Derived.Deep.RegionLaw
namespace Go.Proofs.YtpbjodbcmaaheaaGreatDoor
open Go Go.RowKit

theorem lloads_from (vp : World) (a : Option Addr) (n cap base : Nat) (l : List Sec) (X : World) (h : Cop9 vp base a n cap l) (n10 : n ≤ 10) (g : Below vp.heap.size vp X) :
    Calls Tryz.prog 24 #[.slice a n cap] X fun e w' => ∃ b c, e = .returned (.slice b n c) ∧ Cop9 w' vp.heap.size b n c l ∧ Below vp.heap.size vp w' ∧ Below X.heap.size X w' := by
  refine (lloads_new a n cap base l X (h.below g) n10).mono ?_
  rintro e w' ⟨b, c, rfl, k, gx⟩
  exact ⟨b, c, rfl, ⟨k.own.mono g.size, k.sec, k.cap, k.len⟩, btrans g gx, gx⟩
theorem lloads_two (a : Option Addr) (len cap : Nat) (z : List Sec) (w0 w : World) (g0 : Below w0.heap.size w0 w) (hv : ALds w0 a len cap z) :
    Calls Tryz.prog 24 #[.slice a len cap] w fun e w' => ∃ b n c l, e = .returned (.slice b n c) ∧ n ≤ 10 ∧ Cop9 w' w0.heap.size b n c l ∧ Below w0.heap.size w0 w' ∧ Below w.heap.size w w' := by
  refine (lloads_any a len cap z w (hv.below g0)).mono ?_
  rintro e w' ⟨u, rfl, ou, g⟩
  obtain ⟨b, c, rfl, h⟩ := Cop9.of (ou.mono g0.size)
  exact ⟨b, _, c, _, rfl, by rw [List.length_take]; omega, h, btrans g0 g, g⟩
theorem most_less {l : List Sec} {x : Sec} {d t p : Int} (hn : l.length ≤ 22) : mostV (l ++ [x]) d t p ≤ mostV l d t p := by
  unfold mostV
  by_cases h : mayFit l d t = true
  · rw [if_pos h]
    split
    · have := gr_less (p := pFit (l ++ [x]) d t) (q := pFit l d t) (n := (min p d).toNat) (m := (min p d).toNat) (Nat.le_refl _) (fun c h1 hc => by
        have hl := fit_lds hc
        obtain ⟨a1, a2, a3⟩ := lds_snoc.1 hl
        refine fit_less (lds_snoc.2 ⟨by simp at a1; omega, fun s hs => a2 s (by simp [hs]), a3⟩) (fun u hu => ?_) (fun u hu => ?_) hc
        · rw [ask_snoc, ask_snoc, ask_snoc]
          have hx := ldB_iff.1 (a2 x (by simp))
          have := Int.mul_nonneg (a := x.res) (b := ceilD u x.len) (by omega) (ceil_nonneg (by omega) (by omega))
          omega
        · rw [due_snoc, due_snoc, due_snoc]
          have hx := ldB_iff.1 (a2 x (by simp))
          have := Int.mul_nonneg (a := x.res) (b := cntD x.pos x.len u) (by omega) (cnt_nonneg (by omega))
          omega)
      omega
    · omega
  · have h2 : mayFit (l ++ [x]) d t = false := by
      cases e : mayFit (l ++ [x]) d t
      · rfl
      · exfalso; apply h
        unfold mayFit at e ⊢
        simp only [Bool.and_eq_true, decide_eq_true_eq] at e ⊢
        obtain ⟨⟨⟨e1, e2⟩, e3⟩, e4⟩ := e
        exact ⟨⟨⟨by omega, e2⟩, e3⟩, e4⟩
    rw [h2, if_neg h]; simp
theorem most_top (l : List Sec) (d t p : Int) : mostV l d t p ≤ mostV l d t (p + 1) := by
  unfold mostV
  split
  · have := gr_less (p := pFit l d t) (q := pFit l d t) (n := (min p d).toNat) (m := (min (p + 1) d).toNat) (by omega) (fun c _ h => h)
    omega
  · omega
theorem app_end0 {vp W w' : World} {b : Option Addr} {n c : Nat} {l : List Sec} {x : Sec} {v' : Value} (D : Cop9 W vp.heap.size b n c l) (g : Below vp.heap.size vp W)
    (own' : w'.ownsRow vp.heap.size 31 3 v' (n + 1) (secC l ++ secC [x])) (gr : W.grownBy w' (Value.slice b n c).ownBlock) :
    ∃ a' cap', v' = .slice a' (n + 1) cap' ∧ Cop9 w' vp.heap.size a' (n + 1) cap' (l ++ [x]) ∧ Below vp.heap.size vp w' := by
  have ou : OwnL w' vp.heap.size v' (l ++ [x]) := by
    unfold OwnL
    rw [secC_append, List.length_append, D.len]
    exact own'
  obtain ⟨a', cap', rfl, k⟩ := Cop9.of ou
  rw [show (l ++ [x]).length = n + 1 by rw [List.length_append, D.len]; rfl] at k ⊢
  exact ⟨a', cap', rfl, k, g.trans (gr_bel gr (fun k hk => (D.own.lt k hk).1) g.size)⟩
end Go.Proofs.YtpbjodbcmaaheaaGreatDoor
