/-
PROVED: the statement hortatorlaw9.DemandLess answers true over the landed packages: a load less, a smaller one, a longer time: what fits fits still.
  CONDITIONS: the listed variables of strconv and math/bits hold what the program's text lays (the card ties them).
-/
import Derived.Test.YtcgmbfpmcldfdaaGreatDoorRows
import Derived.Test.YtcgmbfpmcldfdaaGreatDoorTie
import Derived.Test.YtcgmbfpmcldfdaaGreatDoorCards
import Derived.WalkKit
import Derived.ProofKit
import Derived.OpenShut
import Derived.ShutString
import Derived.ChangeOld
import Derived.Below
import Derived.SevenTiedAt
import Derived.Test.YtcgmbfpmcldfdaaGreatDoorLaid
import Derived.Test.YtcgmbfpmcldfdaaGreatDoorHead
import Derived.Carry
import Derived.Deep.Cut
import Derived.Deep.CutRange
import Derived.Deep.RegionWith
import Derived.Deep.RegionHeld3
import Derived.Deep.LoopGhost
import Derived.Deep.QuietTactic
import Derived.BigQuiet
import Derived.Test.YtcgmbfpmcldfdaaGreatDoorArgs9J
import Derived.Test.YtcgmbfpmcldfdaaGreatDoorBegun9
import Derived.Test.YtcgmbfpmcldfdaaGreatDoorBits9
import Derived.Test.YtcgmbfpmcldfdaaGreatDoorBMath5
import Derived.Test.YtcgmbfpmcldfdaaGreatDoorApp97
namespace Go.Proofs.YtcgmbfpmcldfdaaGreatDoor.demandLess
open Go.ChangeShapes Go.WideShapes Go.ChangeAt Go.RowKit
open Go.ChangeMaps (open_string shut_string)
set_option linter.unusedVariables false

theorem own : ownKnob Tryz.prog.godebug = none := by kernel_rfl
theorem laidOut : laidOutB Tryz.prog = true := by kernel_rfl

set_option maxHeartbeats 8000000 in
set_option maxRecDepth 100000 in
theorem walk (s0 : Option Addr) (n0 m0 : Nat) (z0 : List Sec) (a1 : Int) (a2 : Int) (a3 : Int) (a4 : Int) (w : World) (hE : Env w) (w0 : ALds w s0 n0 m0 z0) (w1 : (Lit.int .i64 a1).wf = true) (w2 : (Lit.int .i64 a2).wf = true) (w3 : (Lit.int .i64 a3).wf = true) (w4 : (Lit.int .i64 a4).wf = true) :
    Calls Tryz.prog 4 #[.slice s0 n0 m0, .int .i64 a1, .int .i64 a2, .int .i64 a3, .int .i64 a4] w fun e w' => e = .returned (.bool true) ∧ Below w.heap.size w w' := by
  obtain ⟨i0, hi0, hz0, hz1, hz2⟩ := info_parts infoL
  obtain ⟨l1, h1⟩ := bounds_i64 w1
  obtain ⟨l2, h2⟩ := bounds_i64 w2
  obtain ⟨l3, h3⟩ := bounds_i64 w3
  obtain ⟨l4, h4⟩ := bounds_i64 w4
  have HE : Hid (Env w) := hE
  have HA : Hid (ALds w s0 n0 m0 z0) := w0
  clear hE w0
  go_enter Tryz.func4, Tryz.ntmps4
  go_wp2_with fail
  refine (begun9_any w HE.out).mono ?_
  rintro e v1 ⟨rfl, g1⟩
  have G1 : Hid (Below w.heap.size w v1) := g1
  clear g1
  go_wp2_with fail
  refine (lloads_at s0 n0 m0 z0 w _ G1.out HA.out).mono ?_
  rintro e v2 ⟨a, n, cap, l, rfl, hl, n10, c2, g2⟩
  have G2 : Hid (Below w.heap.size w v2) := g2
  have C2 : Hid (Cop9 v2 w.heap.size a n cap l) := c2
  have HL : Hid (l.length ≤ 1000000) := by have := c2.len; show _ ≤ _; omega
  have HS : Hid (l.length ≤ 1000) := by have := c2.len; show _ ≤ _; omega
  clear g2 hl c2
  cases hf : fitB l
  · have HF : Hid (fitB l = false) := hf
    clear hf
    go_wp2_with fail
    refine ((dfits_any _ l _ C2.out.sec HL.out)).mono ?_
    rintro e v3 ⟨rfl, g3⟩
    rw [HF.out]
    have G3 : Hid (Below w.heap.size w v3) := btrans G2.out g3
    have C3 : Hid (Cop9 v3 w.heap.size a n cap l) := C2.out.below g3
    clear g3 G2 C2
    go_wp2_with fail
    go_ret
    exact ⟨ret_bool (by simp), G3.out⟩
  · have HF : Hid (fitB l = true) := hf
    clear hf
    go_wp2_with fail
    refine ((dfits_any _ l _ C2.out.sec HL.out)).mono ?_
    rintro e v3 ⟨rfl, g3⟩
    rw [HF.out]
    have G3 : Hid (Below w.heap.size w v3) := btrans G2.out g3
    have C3 : Hid (Cop9 v3 w.heap.size a n cap l) := C2.out.below g3
    clear g3 G2 C2
    by_cases hn0 : n = 0
    · subst hn0
      go_wp2_with fail
      go_ret
      exact ⟨ret_bool (by simp), G3.out⟩
    have hn1 : ((n : Int) == 0) = false := by simp; omega
    by_cases at0 : a1 < 0
    · go_wp2_with fail
      go_ret
      exact ⟨ret_bool (by simp), G3.out⟩
    obtain ⟨k, hk⟩ : ∃ k : Nat, a1 % n = k := ⟨(a1 % n).toNat, by rw [Int.toNat_of_nonneg (Int.emod_nonneg _ (by omega))]⟩
    have kn : k < n := by have := Int.emod_lt_of_pos a1 (b := (n : Int)) (by omega); omega
    have hk2 : a1.tmod n = k := by rw [Int.tmod_eq_emod_of_nonneg (by omega)]; exact hk
    obtain ⟨g, rfl, hg, hN, hcap⟩ := C3.out.at (by omega)
    have N3 : Hid (News v3 ⟨g, 0, none⟩ l) := hN
    have HK : Hid (l.length = n) := C3.out.len
    have ncap : n ≤ cap := C3.out.cap
    clear hN hn0
    go_upto_region 8 with fail
    go_cut [13] from 36 to 45 (fun x wx => ∃ am cm, x = .slice am (n - 1) cm ∧ OwnL wx v3.heap.size (.slice am (n - 1) cm) (l.take k ++ l.drop (k + 1)) ∧ Below v3.heap.size v3 wx)
    case first =>
      have L1 : Hid ((secC (l.take k)).length = k * 3) := by unfold Hid; rw [secC_length, List.length_take, HK.out]; omega
      have q0 : (0 : Int) ≤ (k : Int) := by omega
      have q1 : (k : Int) < (n : Int) := by omega
      have q2 : (n : Int) ≤ (cap : Int) := by omega
      have q3 : (k : Int) ≤ (cap : Int) := by omega
      have q4 : (k : Int) + 1 ≤ (n : Int) := by omega
      have q5 : (0 : Int) ≤ (k : Int) + 1 := by omega
      have q6 : (k : Int) + 1 ≤ (cap : Int) := by omega
      have q7 : IntKind.i64.wrap ((k : Int) + 1) = (k : Int) + 1 := IntWalk.i64_in _ (by omega)
      rcases (by omega : ¬ cap = k + 1 ∨ cap = k + 1) with hc | hc
      · have L2 : Hid ((secC (l.drop (k + 1))).length = (n - (k + 1)) * 3) := by unfold Hid; rw [secC_length, List.length_drop, HK.out]
        go_wp2_with fail
        try simp only [hk]
        try simp only [hk2]
        go_region_law (first
          | (refine step_append_at _ (by rfl) (.const (.slice none 0 0)) (.tmp 38) 22 (by rfl) v3.heap.size 29 i0 _ 3 24 Tryz.underlying22 hi0 hz0 hz1 hz2 rfl (by omega) (.slice none 0 0) 0 [] (by rfl) (World.ownsRow_nil _ _ _ _) ⟨g, 0, none⟩ k cap (secC (l.take k)) (by rfl) L1.out ((N3.out.below (bdrew _)).take k) (secC_one _) (by unfold maxLen; omega) (by omega) (by simp) ?_; intro y1 w1 own1 gr1 at1; rw [Nat.zero_add, List.nil_append] at own1; have GR : Hid (v3.drew.grownBy w1 none) := gr1; have OW : Hid (w1.ownsRow v3.heap.size 29 3 y1 k (secC (l.take k))) := own1; have N4 : Hid (News w1 ⟨g, 0, none⟩ l) := N3.out.below ((bdrew v3).trans (gr_bel gr1 (fun k hk => by have h0 : (none : Option Nat) = some k := hk; cases h0) (Nat.le_refl _))); clear own1 gr1 at1)
          | (refine step_append_at _ (by rfl) (.tmp 39) (.tmp 43) 22 (by rfl) v3.heap.size 29 i0 _ 3 24 Tryz.underlying22 hi0 hz0 hz1 hz2 rfl (by omega) y1 k (secC (l.take k)) (by rfl) OW.out ⟨g, (k + 1) * 3, none⟩ (n - (k + 1)) (cap - (k + 1)) (secC (l.drop (k + 1))) (by rfl) L2.out (N4.out.drop (k + 1)) (secC_one _) (by unfold maxLen; omega) (by omega) (by have := GR.out.size; exact this) ?_; intro y2 v4 own2 gr2 at2; obtain ⟨am, cm, e⟩ := own_form own2; subst e; obtain ⟨o2, g4⟩ := out_end9 HK.out (by omega) (bdrew v3) (Nat.le_refl _) GR.out OW.out gr2 own2; have O4 : Hid (OwnL v4 v3.heap.size (.slice am (k + (n - (k + 1))) cm) (l.take k ++ l.drop (k + 1))) := o2; have B4 : Hid (Below v3.heap.size v3 v4) := g4; clear own2 gr2 at2 o2 g4)
          | fail)
        all_goals
          go_wp2_with fail
          go_meet
          exact ⟨am, cm, by rw [show n - 1 = k + (n - (k + 1)) by omega], by rw [show n - 1 = k + (n - (k + 1)) by omega]; exact O4.out, B4.out⟩
      · subst hc
        obtain rfl : n = k + 1 := by omega
        have q8 : (k : Int) ≤ (k : Int) + 1 := by omega
        have q9 : (k : Int) + 1 ≤ (k : Int) + 1 := by omega
        have HD : Hid (l.drop (k + 1) = []) := List.drop_eq_nil_of_le (by rw [HK.out]; omega)
        have L2 : Hid ((secC (l.drop (k + 1))).length = 0 * 3) := by show _ = _; rw [HD.out]; rfl
        go_wp2_with fail
        try simp only [hk]
        try simp only [hk2]
        go_region_law (first
          | (refine step_append_at _ (by rfl) (.const (.slice none 0 0)) (.tmp 38) 22 (by rfl) v3.heap.size 29 i0 _ 3 24 Tryz.underlying22 hi0 hz0 hz1 hz2 rfl (by omega) (.slice none 0 0) 0 [] (by rfl) (World.ownsRow_nil _ _ _ _) ⟨g, 0, none⟩ k (k + 1) (secC (l.take k)) (by rfl) L1.out ((N3.out.below (bdrew _)).take k) (secC_one _) (by unfold maxLen; omega) (by omega) (by simp) ?_; intro y1 w1 own1 gr1 at1; rw [Nat.zero_add, List.nil_append] at own1; have GR : Hid (v3.drew.grownBy w1 none) := gr1; have OW : Hid (w1.ownsRow v3.heap.size 29 3 y1 k (secC (l.take k))) := own1; have N4 : Hid (News w1 ⟨g, 0, none⟩ l) := N3.out.below ((bdrew v3).trans (gr_bel gr1 (fun k hk => by have h0 : (none : Option Nat) = some k := hk; cases h0) (Nat.le_refl _))); clear own1 gr1 at1)
          | (refine step_append_at _ (by rfl) (.tmp 39) (.tmp 43) 22 (by rfl) v3.heap.size 29 i0 _ 3 24 Tryz.underlying22 hi0 hz0 hz1 hz2 rfl (by omega) y1 k (secC (l.take k)) (by rfl) OW.out ⟨g, 0, none⟩ 0 0 (secC (l.drop (k + 1))) (by rfl) L2.out (fun j u hu => by rw [HD.out] at hu; simp [secC] at hu) (secC_one _) (by unfold maxLen; omega) (by omega) (by have := GR.out.size; exact this) ?_; intro y2 v4 own2 gr2 at2; obtain ⟨am, cm, e⟩ := own_form own2; subst e; obtain ⟨o2, g4⟩ := out_end9 HK.out (by omega) (bdrew v3) (Nat.le_refl _) GR.out OW.out gr2 (by simpa using own2); have O4 : Hid (OwnL v4 v3.heap.size (.slice am (k + 0) cm) (l.take k ++ l.drop (k + 1))) := o2; have B4 : Hid (Below v3.heap.size v3 v4) := g4; clear own2 gr2 at2 o2 g4)
          | fail)
        all_goals
          go_wp2_with fail
          go_meet
          exact ⟨am, cm, by simp, by simpa using O4.out, B4.out⟩
    case rest =>
      obtain ⟨am, cm, rfl, o4, b4⟩ := hcut
      rename World => z5
      have O4 : Hid (OwnL z5 v3.heap.size (.slice am (n - 1) cm) (l.take k ++ l.drop (k + 1))) := o4
      have C4 : Hid (Cop9 z5 w.heap.size (some ⟨g, 0, none⟩) n cap l) := C3.out.below b4
      have G4 : Hid (Below w.heap.size w z5) := btrans G3.out b4
      clear o4 b4
      have HM : Hid (fitB (l.take k ++ l.drop (k + 1)) = true) := fit_out k HF.out
      have HR : Hid ((l.take k ++ l.drop (k + 1)).length ≤ 1000000) := by show _ ≤ _; rw [List.length_append, List.length_drop, List.length_take]; have := HK.out; omega
      go_wp2_with fail
      refine (lloads_new (some ⟨g, 0, none⟩) n cap w.heap.size l _ C4.out n10).mono ?_
      rintro e v6 ⟨b, kb, rfl, c6, g6⟩
      obtain ⟨h, rfl, -, -, -⟩ := c6.at (by omega)
      have O6 : Hid (OwnL v6 z5.heap.size (.slice (some ⟨h, 0, none⟩) n kb) l) := c6.own
      have B6 : Hid (Below z5.heap.size z5 v6) := g6
      have kcap : n ≤ kb := c6.cap
      clear c6 g6
      obtain ⟨⟨c, d, t⟩, hx⟩ : ∃ x, l[k]? = some x := ⟨_, List.getElem?_eq_getElem (by rw [HK.out]; exact kn)⟩
      have HX : Hid (l[k]? = some ⟨c, d, t⟩) := hx
      have hs := ldB_iff.1 (ldsB_all (fit_lds HF.out) _ (List.mem_of_getElem? hx))
      simp only at hs
      obtain ⟨⟨c1, c2⟩, ⟨t1, t2⟩, d1, d2⟩ := hs
      clear hx
      have ep := and3 a2
      obtain ⟨p, hp⟩ : ∃ p, a2 % 4 = p := ⟨_, rfl⟩
      have p0 : 0 ≤ p := by omega
      have p1 : p ≤ 3 := by omega
      rw [hp] at ep
      clear hp
      have eq := and3 a3
      obtain ⟨q, hq⟩ : ∃ q, a3 % 4 = q := ⟨_, rfl⟩
      have q0 : 0 ≤ q := by omega
      have q1 : q ≤ 3 := by omega
      rw [hq] at eq
      clear hq
      have er := and3 a4
      obtain ⟨r, hr⟩ : ∃ r, a4 % 4 = r := ⟨_, rfl⟩
      have r0 : 0 ≤ r := by omega
      have r1 : r ≤ 3 := by omega
      rw [hr] at er
      clear hr
      obtain ⟨⟨x1, x2, x3⟩, ⟨f1, f2, f3⟩, bh, hlt⟩ := O6.out.cells HX.out
      simp only at x1 x2 x3
      have w1 : IntKind.i64.wrap (c - p) = c - p := IntWalk.i64_in _ (by omega)
      go_upto_region 11 with fail
      have T7 := (O6.out.turn HX.out (c - p)).1
      have U7 := B6.out.setCell (p := ⟨h, k * 3, none⟩) bh (.int .i64 (c - p))
      simp only at T7
      generalize hW : World.setCell _ _ _ = y7 at T7 U7 ⊢
      have O7 : Hid (OwnL y7 z5.heap.size (.slice (some ⟨h, 0, none⟩) n kb) (l.set k ⟨c - p, d, t⟩)) := T7
      have B7 : Hid (Below z5.heap.size z5 y7) := U7
      have H7 : Hid ((l.set k ⟨c - p, d, t⟩)[k]? = some ⟨c - p, d, t⟩) := List.getElem?_set_self (by rw [HK.out]; exact kn)
      clear hW T7 U7 x1 x2 x3 f1 f2 f3 hlt bh O6 B6
      obtain ⟨⟨x1, x2, x3⟩, ⟨f1, f2, f3⟩, bh, hlt⟩ := O7.out.cells H7.out
      simp only at x1 x2 x3
      have w2 : IntKind.i64.wrap (t + r) = t + r := IntWalk.i64_in _ (by omega)
      go_upto_region 12 with fail
      have T8 := (O7.out.turn H7.out (t + r)).2.2
      have U8 := B7.out.setCell (p := ⟨h, k * 3 + 2, none⟩) bh (.int .i64 (t + r))
      simp only [List.set_set] at T8
      generalize hW : World.setCell _ _ _ = y8 at T8 U8 ⊢
      have O8 : Hid (OwnL y8 z5.heap.size (.slice (some ⟨h, 0, none⟩) n kb) (l.set k ⟨c - p, d, t + r⟩)) := T8
      have B8 : Hid (Below z5.heap.size z5 y8) := U8
      have H8 : Hid ((l.set k ⟨c - p, d, t + r⟩)[k]? = some ⟨c - p, d, t + r⟩) := List.getElem?_set_self (by rw [HK.out]; exact kn)
      clear hW T8 U8 x1 x2 x3 f1 f2 f3 hlt bh O7 B7
      have w3 : IntKind.i64.wrap (d + q) = d + q := IntWalk.i64_in _ (by omega)
      obtain ⟨D, hD⟩ : ∃ D, min (d + q) (t + r) = D := ⟨_, rfl⟩
      go_cut [] from 67 to 85 (fun wx => OwnL wx z5.heap.size (.slice (some ⟨h, 0, none⟩) n kb) (l.set k ⟨c - p, D, t + r⟩) ∧ Below z5.heap.size z5 wx)
      case first =>
        obtain ⟨⟨x1, x2, x3⟩, ⟨f1, f2, f3⟩, bh, hlt⟩ := O8.out.cells H8.out
        simp only at x1 x2 x3
        go_wp2_with fail
        go_region
        all_goals
          go_wp2_with fail
          go_meet
          exact ⟨by simpa [hD, List.set_set] using OwnL.below (O8.out.turn H8.out D).2.1 (bdrew _), btrans (B8.out.setCell (p := ⟨h, k * 3 + 1, none⟩) bh _) (bdrew _)⟩
      case rest =>
        obtain ⟨o9, b9⟩ := hcut
        have O9 : Hid (OwnL wc z5.heap.size (.slice (some ⟨h, 0, none⟩) n kb) (l.set k ⟨c - p, D, t + r⟩)) := o9
        have B9 : Hid (Below z5.heap.size z5 wc) := b9
        clear o9 b9
        have H9 : Hid ((l.set k ⟨c - p, D, t + r⟩)[k]? = some ⟨c - p, D, t + r⟩) := List.getElem?_set_self (by rw [HK.out]; exact kn)
        have HD1 : d ≤ D := by omega
        go_wp2_with fail
        refine (dfits_any _ (l.take k ++ l.drop (k + 1)) _ (O4.out.below B9.out).secs HR.out).mono ?_
        rintro e v10 ⟨rfl, g10⟩
        rw [HM.out]
        have O10 : Hid (OwnL v10 z5.heap.size (.slice (some ⟨h, 0, none⟩) n kb) (l.set k ⟨c - p, D, t + r⟩)) := O9.out.below g10
        have G10 : Hid (Below w.heap.size w v10) := btrans G4.out (btrans B9.out g10)
        clear g10
        obtain ⟨⟨x1, x2, x3⟩, ⟨f1, f2, f3⟩, bh, hlt⟩ := O10.out.cells H9.out
        simp only at x1 x2 x3
        cases hL : loadB (c - p) D (t + r)
        · go_wp2_with fail
          refine (rload_any _ _ _ _).mono ?_
          rintro e v11 ⟨rfl, g11⟩
          rw [hL]
          have G11 : Hid (Below w.heap.size w v11) := btrans G10.out g11
          go_wp2_with fail
          go_ret
          exact ⟨ret_bool (by simp), G11.out⟩
        · have HF2 : Hid (fitB (l.set k ⟨c - p, D, t + r⟩) = true) := fit_set HF.out HX.out (x := ⟨c - p, D, t + r⟩) hL (by show c - p ≤ c; omega) (by show t ≤ t + r; omega) HD1
          go_wp2_with fail
          refine (rload_any _ _ _ _).mono ?_
          rintro e v11 ⟨rfl, g11⟩
          rw [hL]
          have G11 : Hid (Below w.heap.size w v11) := btrans G10.out g11
          have O11 : Hid (OwnL v11 z5.heap.size (.slice (some ⟨h, 0, none⟩) n kb) (l.set k ⟨c - p, D, t + r⟩)) := O10.out.below g11
          clear g11
          go_wp2_with fail
          refine (dfits_any _ (l.set k ⟨c - p, D, t + r⟩) _ O11.out.secs (by rw [List.length_set]; exact HL.out)).mono ?_
          rintro e v12 ⟨rfl, g12⟩
          rw [HF2.out]
          have G12 : Hid (Below w.heap.size w v12) := btrans G11.out g12
          clear g12
          go_wp2_with fail
          go_ret
          exact ⟨ret_bool (by simp), G12.out⟩

set_option maxRecDepth 100000 in
theorem lifted (os : Os) (started : os.Started) (H : Type) (enc : TypeId × Value → H) :
    ReturnsInHanded {} Tryz.checked os 4 .any (fun w args => (Rows.demandLessSpec.pre enc Tryz.prog Tryz.f4 [] false w args ∧ laidMetH Tryz.prog laid5 w) ∧ sizedMet enc Tryz.prog Tryz.f4 (OpenSpec.ofChange Rows.demandLessSpec) false w args)
      (Rows.demandLessSpec.post enc Tryz.prog Tryz.f4 false true false false) := by
  refine returnsInHanded_of_change_and (C := Tryz.checked) (X := fun w _ => laidMetH Tryz.prog laid5 w) (fun _ _ _ hh h => h.of_heap hh) own started (by kernel_rfl) Tryz.func4
    (ChangeSpec.witness_shaped (enc := enc) (C := Tryz.checked) (os := os) (X := fun w _ => laidMetH Tryz.prog laid5 w) false (World.doorLaid Tryz.prog 62 os) #[.slice none 0 0, .int .i64 0, .int .i64 0, .int .i64 0, .int .i64 0] 8 rfl (World.shaped_of_RefB (by kernel_rfl) (by kernel_rfl)) (by kernel_rfl) (by kernel_rfl) (by kernel_rfl) (door_met os _)) ?_
  intro W base args ds gs before hval0 hW _ _ hL _
  have hval : ∀ (j : Nat) t v, Tryz.f4.params[j]? = some t → args[j]? = some v → Value.okWide Tryz.prog W .any base t v := hval0
  have hW' := hW
  obtain ⟨p, q, hA0, hV, rfl, hfz, hnd⟩ := hW
  have hA : DataW.TrodAll enc Tryz.prog W 0 (fun _ => true) true Tryz.f4.params.toList args.toList ds p := hA0
  rw [Tryz.params4] at hA hval
  obtain ⟨v0, vs0, d0, ds0, p0, q0, hargs, rfl, rfl, h0, r0⟩ := trodAll_cons hA
  obtain ⟨v1, vs1, d1, ds1, p1, q1, rfl, rfl, rfl, h1, r1⟩ := trodAll_cons r0
  obtain ⟨v2, vs2, d2, ds2, p2, q2, rfl, rfl, rfl, h2, r2⟩ := trodAll_cons r1
  obtain ⟨v3, vs3, d3, ds3, p3, q3, rfl, rfl, rfl, h3, r3⟩ := trodAll_cons r2
  obtain ⟨v4, vs4, d4, ds4, p4, q4, rfl, rfl, rfl, h4, r4⟩ := trodAll_cons r3
  obtain ⟨rfl, rfl, rfl⟩ := trodAll_nil r4
  obtain rfl : args = #[v0, v1, v2, v3, v4] := by cases args; simp_all
  obtain ⟨rfl, rfl⟩ := trodVars_none hV
  obtain ⟨s0, n0, m0, rfl⟩ := okWide_slice Tryz.underlying22 (hval 0 22 v0 rfl rfl)
  have k0 := h0
  have lt0 : ∀ x ∈ p0, x.block < W.heap.size := by obtain ⟨m, hm⟩ := k0; exact DataW.trod_lt m _ _ _ hm
  obtain ⟨z0, w0⟩ := (by obtain ⟨fuel, hf⟩ := h0; exact open_loads hf : ∃ zs, ALds W s0 n0 m0 zs)
  obtain ⟨a1, rfl, rfl, rfl, w1⟩ := open_int Tryz.underlying3 (hval 1 3 v1 rfl rfl) h1
  obtain ⟨a2, rfl, rfl, rfl, w2⟩ := open_int Tryz.underlying2 (hval 2 2 v2 rfl rfl) h2
  obtain ⟨a3, rfl, rfl, rfl, w3⟩ := open_int Tryz.underlying2 (hval 3 2 v3 rfl rfl) h3
  obtain ⟨a4, rfl, rfl, rfl, w4⟩ := open_int Tryz.underlying2 (hval 4 2 v4 rfl rfl) h4
  clear hA0 hval0
  simp only [List.append_nil] at hW'
  refine (walk s0 n0 m0 z0 a1 a2 a3 a4 W (env_of_laid hL) w0 w1 w2 w3 w4).mono fun e W' ⟨he, bel⟩ => ?_
  subst he
  exact ⟨_, rfl, _, _, _, [], _, [], hW', trodAll_mk1 (shut_bool Tryz.underlying4 _), (trodAll_cons_mk (Below.trod laidOut (by kernel_rfl) (of_decide_eq_true (by kernel_rfl)) k0 bel lt0) (trodAll_cons_mk (shut_int Tryz.underlying3 w1) (trodAll_cons_mk (shut_int Tryz.underlying2 w2) (trodAll_cons_mk (shut_int Tryz.underlying2 w3) (trodAll_cons_mk (shut_int Tryz.underlying2 w4) trodAll_mk0))))), rfl, bel.frame _, fun h => by cases h⟩

theorem closed : joinedFacts Tryz.pinned.checked.prog 4 Tryz.f4 Rows.demandLessSpec Rows.demandLessRow = true := by
  generalize hP : Tryz.pinned.checked.prog = P
  simp only [joinedFacts, Bool.and_eq_true]
  subst hP
  refine ⟨⟨⟨⟨⟨⟨⟨⟨⟨⟨⟨⟨⟨⟨⟨⟨⟨⟨⟨⟨⟨⟨⟨⟨⟨⟨⟨⟨⟨⟨⟨?k1, ?k2⟩, ?k3⟩, ?k4⟩, ?k5⟩, ?k6⟩, ?k7⟩, ?k8⟩, ?k9⟩, ?k10⟩, ?k11⟩, ?k12⟩, ?k13⟩, ?k14⟩, ?k15⟩, ?k16⟩, ?k17⟩, ?k18⟩, ?k19⟩, ?k20⟩, ?k21⟩, ?k22⟩, ?k23⟩, ?k24⟩, ?k25⟩, ?k26⟩, ?k27⟩, ?k28⟩, ?k29⟩, ?k30⟩, ?k31⟩, ?k32⟩
  case k26 => exact head_enter
  case k27 => show (false == Tryz.prog.liftsFinal) = true; rw [head_lifts]; rfl
  case k28 => exact head_make
  all_goals kernel_rfl
theorem over : Rows.demandLessRow.holds Tryz.pinned (OpenSpec.ofChange Rows.demandLessSpec) :=
  OpenClaim.holds_of_wide 4 Tryz.f4 rfl rfl rfl rfl rfl rfl rfl ⟨rfl, rfl, rfl, rfl, rfl⟩ rfl rfl rfl rfl rfl (by kernel_rfl) Tryz.func4 closed
    (of_decide_eq_true (by kernel_rfl)) (by unfold Func.isWrapper; first | (rw [if_pos (by decide +kernel)]; kernel_rfl) | (rw [if_neg (by decide +kernel)]; exact ⟨rfl, rfl⟩))
    (fun os started H enc _ => lifted os started H enc)

theorem proved : Rows.DemandLessCardSaid :=
  Claim7.holds_tied_plain_at .later [] [.data, .data, .data, .sentinel, .sentinel] true (true, "fa9289e13e59366449243ffa297c8b0347b0cc37cc085c1531cc63732efd4c28") true
    over (fun _ h => by cases h) (by kernel_rfl) (fun _ h => by cases h) demandLess_row_tie rfl ⟨rfl, rfl⟩ head_main rfl
    (fun f fn hf hfn => by
      obtain rfl : f = 4 := Option.some.inj ((show Tryz.prog.funcNamed "hortator/hortatorlaw9.DemandLess" = some 4 by kernel_rfl).symm.trans hf) |>.symm
      obtain rfl : fn = Tryz.f4 := (Option.some.inj (Tryz.func4.symm.trans hfn)).symm
      exact ⟨by kernel_rfl, fun j t ht => by
        rw [Tryz.params4] at ht
        match j, ht with
        | 0, ht => obtain rfl : t = 22 := by simpa using ht.symm
                   exact (show Tryz.prog.wantsStandIn 22 = false by kernel_rfl)
        | 1, ht => obtain rfl : t = 3 := by simpa using ht.symm
                   exact (show Tryz.prog.wantsStandIn 3 = false by kernel_rfl)
        | 2, ht => obtain rfl : t = 2 := by simpa using ht.symm
                   exact (show Tryz.prog.wantsStandIn 2 = false by kernel_rfl)
        | 3, ht => obtain rfl : t = 2 := by simpa using ht.symm
                   exact (show Tryz.prog.wantsStandIn 2 = false by kernel_rfl)
        | 4, ht => obtain rfl : t = 2 := by simpa using ht.symm
                   exact (show Tryz.prog.wantsStandIn 2 = false by kernel_rfl)
        | (_ + 5), ht => simp at ht⟩)
    (by kernel_rfl)
end Go.Proofs.YtcgmbfpmcldfdaaGreatDoor.demandLess
