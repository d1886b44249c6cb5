/-
PROVED: the statement hortatorlaw12.WaitOrder answers true over the landed packages: in which order tasks stand turns nobody's wait.
  CONDITIONS: the listed variables of strconv and math/bits hold what the program's text lays (the card ties them).
-/
import Derived.Test.YtakdliecjfeedaaGreatDoorRows
import Derived.Test.YtakdliecjfeedaaGreatDoorTie
import Derived.Test.YtakdliecjfeedaaGreatDoorCards
import Derived.WalkKit
import Derived.ProofKit
import Derived.OpenShut
import Derived.ShutString
import Derived.ChangeOld
import Derived.Below
import Derived.SevenTiedAt
import Derived.Test.YtakdliecjfeedaaGreatDoorLaid
import Derived.Test.YtakdliecjfeedaaGreatDoorHead
import Derived.Carry
import Derived.Deep.Cut
import Derived.Deep.CutRange
import Derived.Deep.RegionWith
import Derived.Deep.RegionHeld3
import Derived.Deep.LoopGhost
import Derived.Deep.QuietTactic
import Derived.BigQuiet
import Derived.Test.YtakdliecjfeedaaGreatDoorApp12
import Derived.Test.YtakdliecjfeedaaGreatDoorBegun12
namespace Go.Proofs.YtakdliecjfeedaaGreatDoor.waitOrder
open Go.ChangeShapes Go.WideShapes Go.ChangeAt Go.RowKit
open Go.ChangeMaps (open_string shut_string)
set_option linter.unusedVariables false

theorem own : ownKnob Tryz.prog.godebug = none := by kernel_rfl
theorem laidOut : laidOutB Tryz.prog = true := by kernel_rfl

set_option maxHeartbeats 8000000 in
set_option maxRecDepth 100000 in
theorem walk (co0 sy0 la0 mo0 : Int) (s0 : Option Addr) (n0 m0 : Nat) (z0 : List Int) (s1 : Option Addr) (n1 m1 : Nat) (z1 : List TI) (a2 : Int) (w : World) (hE : Env w) (w0 : AInts w s0 n0 m0 z0) (x00 : (Lit.int .i64 co0).wf = true) (x01 : (Lit.int .i64 sy0).wf = true) (x02 : (Lit.int .i64 la0).wf = true) (x03 : (Lit.int .i64 mo0).wf = true) (w1 : ATsks w s1 n1 m1 z1) (w2 : (Lit.int .i64 a2).wf = true) :
    Calls Tryz.prog 8 #[.agg #[.int .i64 co0, .int .i64 sy0, .int .i64 la0, .int .i64 mo0, .slice s0 n0 m0], .slice s1 n1 m1, .int .i64 a2] w fun e w' => e = .returned (.bool true) ∧ Below w.heap.size w w' := by
  obtain ⟨i0, hi0, hz0, hz1, hz2⟩ := info_parts infoT
  obtain ⟨l2, h2⟩ := bounds_i64 w2
  have HE : Hid (Env w) := hE
  have AC : Hid (AInts w s0 n0 m0 z0) := w0
  have AT : Hid (ATsks w s1 n1 m1 z1) := w1
  clear hE w0 w1
  have BW : Hid (Below w.heap.size w (w.alloc (.cells #[.int .i64 co0, .int .i64 sy0, .int .i64 la0, .int .i64 mo0, .slice s0 n0 m0] 24))) := balloc _ _
  have bc : Blk (w.alloc (.cells #[.int .i64 co0, .int .i64 sy0, .int .i64 la0, .int .i64 mo0, .slice s0 n0 m0] 24)) w.heap.size #[.int .i64 co0, .int .i64 sy0, .int .i64 la0, .int .i64 mo0, .slice s0 n0 m0] 24 := heap_alloc_new _ _
  go_enter Tryz.func8, Tryz.ntmps8
  go_wp2_with fail
  generalize hW : w.alloc _ = W at BW bc ⊢
  clear hW
  refine (begun12_any W (HE.out.below BW.out)).mono ?_
  rintro e v1 ⟨rfl, g1⟩
  have G1 : Hid (Below w.heap.size w v1) := btrans BW.out g1
  have bc1 := bc.below g1
  clear g1 bc
  have c0 := bc1.cell 0
  have fc0 := bc1.frozen 0
  have c1 := bc1.cell 1
  have fc1 := bc1.frozen 1
  have c2 := bc1.cell 2
  have fc2 := bc1.frozen 2
  have c3 := bc1.cell 3
  have fc3 := bc1.frozen 3
  have c4 := bc1.cell 4
  have fc4 := bc1.frozen 4
  simp at c0 c1 c2 c3 c4
  go_wp2_with fail
  refine (cfg12_any co0 sy0 la0 mo0 s0 n0 m0 z0 v1 (AC.out.below G1.out)).mono ?_
  rintro e v2 ⟨co, sy, la, mo, ad, n, k, res, rfl, hcf, hrn, own2, g2⟩
  have hv1 := bc1.lt
  have G2 := btrans G1.out g2
  have bc2 := bc1.below g2
  clear c0 fc0 c1 fc1 c2 fc2 c3 fc3 c4 fc4 bc1 g2
  have c0 := bc2.cell 0
  have fc0 := bc2.frozen 0
  have c1 := bc2.cell 1
  have fc1 := bc2.frozen 1
  have c2 := bc2.cell 2
  have fc2 := bc2.frozen 2
  have c3 := bc2.cell 3
  have fc3 := bc2.frozen 3
  have c4 := bc2.cell 4
  have fc4 := bc2.frozen 4
  simp at c0 c1 c2 c3 c4
  have bc3 := set5_box bc2 (.int .i64 co) (.int .i64 sy) (.int .i64 la) (.int .i64 mo) (.slice ad n k)
  have o5 := only5 v2 w.heap.size (.int .i64 co) (.int .i64 sy) (.int .i64 la) (.int .i64 mo) (.slice ad n k)
  have own3 := own_off own2 o5 (fun j hj => by have := (own2.lt j hj).1; simp; omega)
  have G3 := set5_bel G2 (Nat.le_refl _) (.int .i64 co) (.int .i64 sy) (.int .i64 la) (.int .i64 mo) (.slice ad n k)
  go_wp2_with fail
  generalize hZ : World.setCell _ _ _ = v3 at bc3 own3 G3 ⊢
  clear hZ o5 own2 G2 bc2 hv1 c0 fc0 c1 fc1 c2 fc2 c3 fc3 c4 fc4
  have HI3 : Hid (Ints v3 (.slice ad n k) res) := own_ints (by rw [hrn]; exact own3)
  have hv3 := bc3.lt
  have HG3 : Hid (Below w.heap.size w v3) := G3
  have HB3 : Hid (Blk v3 w.heap.size #[.int .i64 co, .int .i64 sy, .int .i64 la, .int .i64 mo, .slice ad n k] 24) := bc3
  clear own3 bc3 G3
  refine (tsk12_any co sy la mo ad n k s1 n1 m1 z1 v3 (AT.out.below HG3.out)).mono ?_
  rintro e v4 ⟨b, q, kb, l, rfl, hlq, q12, hall, ot, g4⟩
  have KN : Hid (Kn12 co sy la mo n res q l) := ⟨hcf, hrn, hlq, q12, hall⟩
  have O4 : Hid (Op12 w co sy la mo ad n k res b q kb l v4) := ⟨HB3.out.below g4, HI3.out.below g4, ot.mono (by omega), btrans HG3.out g4⟩
  clear hcf hrn hlq hall ot g4 HI3 HG3 HB3 G1 BW HE AC AT hv3
  by_cases hq0 : q = 0
  · subst hq0
    go_wp2_with fail
    go_ret
    exact ⟨rfl, O4.out.bel⟩
  · have hn1 : ((q : Int) == 0) = false := by simp; omega
    have m1 := T.t_lt a2 q (by omega)
    obtain ⟨D, hD⟩ : ∃ D, a2.tmod q = D := ⟨_, rfl⟩
    rw [hD] at m1
    obtain ⟨m3, m4⟩ := m1
    obtain ⟨k2, hk⟩ : ∃ k : Nat, (D + q) % q = k := ⟨((D + q) % q).toNat, by rw [Int.toNat_of_nonneg (Int.emod_nonneg _ (by omega))]⟩
    have kn : k2 < q := by have := Int.emod_lt_of_pos (D + q) (b := (q : Int)) (by omega); omega
    obtain ⟨g, eg, qk, kbm, hgB⟩ := O4.out.own.at (by omega)
    subst eg
    have N4 : Hid (NewsT v4 ⟨g, 0, none⟩ l) := O4.out.own.news
    have L1 : Hid ((tvC (l.drop k2)).length = (q - k2) * 4) := by unfold Hid; rw [tvC_length, List.length_drop, KN.out.lq]
    have L2 : Hid ((tvC (l.take k2)).length = k2 * 4) := by unfold Hid; rw [tvC_length, List.length_take, KN.out.lq]; omega
    have U1 : Hid (∀ u ∈ tvC (l.drop k2), u.oneCell' = true) := fun u hu => O4.out.own.one u (by rw [tvC_drop] at hu; exact List.mem_of_mem_drop hu)
    have U2 : Hid (∀ u ∈ tvC (l.take k2), u.oneCell' = true) := fun u hu => O4.out.own.one u (by rw [tvC_take] at hu; exact List.mem_of_mem_take hu)
    have q0 : (0 : Int) ≤ (k2 : Int) := by omega
    have q1 : (k2 : Int) ≤ (q : Int) := by omega
    have q2 : (q : Int) ≤ (kb : Int) := by omega
    have q3 : (k2 : Int) ≤ (kb : Int) := by omega
    have q4 : ¬ kb = k2 := by omega
    have sv4 := O4.out.bc.lt
    clear hq0
    go_wp2_with fail
    simp only [hk]
    go_cut [11] from 32 to 40 (fun x wx => ∃ am cm, x = .slice am q cm ∧ Hid (OwnT wx (w.heap.size + 1) (.slice am q cm) (l.drop k2 ++ l.take k2)) ∧ Hid (Op12 w co sy la mo ad n k res (some ⟨g, 0, none⟩) q kb l wx))
    case first =>
      go_region_law (first
        | (refine step_append_at _ (by rfl) (.const (.slice none 0 0)) (.tmp 34) 25 (by rfl) v4.heap.size 34 i0 _ 4 48 Tryz.underlying25 hi0 hz0 hz1 hz2 rfl (by omega) (.slice none 0 0) 0 [] (by rfl) (World.ownsRow_nil _ _ _ _) ⟨g, k2 * 4, none⟩ (q - k2) (kb - k2) (tvC (l.drop k2)) (by rfl) L1.out ((N4.out.below (bdrew _)).drop k2) U1.out (by unfold maxLen; omega) (by omega) (by simp) ?_; intro y1 w1 own1 gr1 at1; rw [Nat.zero_add, List.nil_append] at own1; have GR : Hid (v4.drew.grownBy w1 none) := gr1; have OW : Hid (w1.ownsRow v4.heap.size 34 4 y1 (q - k2) (tvC (l.drop k2))) := own1; have N5 : Hid (NewsT w1 ⟨g, 0, none⟩ l) := N4.out.below ((bdrew v4).trans (gr_bel gr1 (fun k hk => by have h0 : (none : Option Nat) = some k := hk; cases h0) (Nat.le_refl _))); clear own1 gr1 at1)
        | (refine step_append_at _ (by rfl) (.tmp 35) (.tmp 38) 25 (by rfl) v4.heap.size 34 i0 _ 4 48 Tryz.underlying25 hi0 hz0 hz1 hz2 rfl (by omega) y1 (q - k2) (tvC (l.drop k2)) (by rfl) OW.out ⟨g, 0, none⟩ k2 kb (tvC (l.take k2)) (by rfl) L2.out (N5.out.take k2) U2.out (by unfold maxLen; omega) (by omega) (by have := GR.out.size; exact this) ?_; intro y2 v5 own2 gr2 at2; obtain ⟨am, cm, e⟩ := own_form own2; subst e; obtain ⟨o2, g5⟩ := rot_endT (B := w.heap.size + 1) KN.out.lq (by omega) (by omega) O4.out.own.sec (bdrew v4) (Nat.le_refl _) GR.out OW.out gr2 own2; have R5 : Hid (OwnT v5 (w.heap.size + 1) (.slice am (q - k2 + k2) cm) (l.drop k2 ++ l.take k2)) := o2; have O5 : Hid (Op12 w co sy la mo ad n k res (some ⟨g, 0, none⟩) q kb l v5) := O4.out.below g5; clear own2 gr2 at2 o2 g5)
        | fail)
      all_goals
        go_wp2_with fail
        go_meet
        exact ⟨am, cm, by rw [show q - k2 + k2 = q by omega], by have := R5.out; rw [show q - k2 + k2 = q by omega] at this; exact this, O5.out⟩
    case rest =>
      obtain ⟨am, cm, rfl, r6, o6⟩ := hcut
      have R6 : Hid (OwnT wc (w.heap.size + 1) (.slice am q cm) (l.drop k2 ++ l.take k2)) := r6
      have O6 : Hid (Op12 w co sy la mo ad n k res (some ⟨g, 0, none⟩) q kb l wc) := o6
      clear r6 o6 O4 N4 L1 L2 U1 U2
      have KR : Hid (Kn12 co sy la mo n res q (l.drop k2 ++ l.take k2)) := KN.out.turned (by omega)
      go_wp2_with fail
      go_loopg [12] q (fun gk i2 wr => ∃ j : Nat, gk + j = q ∧ i2 = .int .i64 j ∧ Hid (Op12 w co sy la mo ad n k res (some ⟨g, 0, none⟩) q kb l wr) ∧ Hid (OwnT wr (w.heap.size + 1) (.slice am q cm) (l.drop k2 ++ l.take k2)))
      case atStart => exact ⟨0, by omega, rfl, O6.out, R6.out⟩
      case round =>
        obtain ⟨j, k1, rfl, hO, hR⟩ := hrel
        have P0 : Hid (Op12 w co sy la mo ad n k res (some ⟨g, 0, none⟩) q kb l wr) := hO
        have Q0 : Hid (OwnT wr (w.heap.size + 1) (.slice am q cm) (l.drop k2 ++ l.take k2)) := hR
        clear hO hR
        by_cases hlt : j < q
        · obtain ⟨V, hV⟩ : ∃ V, waitV la res (l.drop k2 ++ l.take k2) j = V := ⟨_, rfl⟩
          have HV : Hid (waitV la res (l.drop k2 ++ l.take k2) (j : Int) = V) := hV
          obtain ⟨R, hR⟩ : ∃ R, ((j : Int) + k2) % q = R := ⟨_, rfl⟩
          have r0 : 0 ≤ R := by rw [← hR]; exact Int.emod_nonneg _ (by omega)
          have r1 : R < q := by rw [← hR]; exact Int.emod_lt_of_pos _ (by omega)
          have s3 : ((j : Int) + k2).tmod q = R := by rw [Int.tmod_eq_emod_of_nonneg (by omega)]; exact hR
          have s4 : ¬ (q : Int) = 0 := by omega
          have s5 : ¬ q = 0 := by omega
          have s7 : IntKind.i64.wrap R = R := IntWalk.i64_in _ (by omega)
          have HV2 : Hid (waitV la res l R = V) := by
            have h := rot_wait (la := la) (res := res) KN.out.lq kn j hlt
            rw [hV, show (((j + k2) % q : Nat) : Int) = ((j : Int) + k2) % q by simp, hR] at h
            exact h.symm
          clear hV
          have s0 : (0 : Int) ≤ (j : Int) + k2 := by omega
          have s1 : (0 : Int) < (q : Int) := by omega
          have s2 : IntKind.i64.wrap ((j : Int) + k2) = (j : Int) + k2 := IntWalk.i64_in _ (by omega)
          have c0 : wr.cell? ⟨w.heap.size, 0, none⟩ = some (.int .i64 co) := P0.out.bc.cell 0
          have c1 : wr.cell? ⟨w.heap.size, 1, none⟩ = some (.int .i64 sy) := P0.out.bc.cell 1
          have c2 : wr.cell? ⟨w.heap.size, 2, none⟩ = some (.int .i64 la) := P0.out.bc.cell 2
          have c3 : wr.cell? ⟨w.heap.size, 3, none⟩ = some (.int .i64 mo) := P0.out.bc.cell 3
          have c4 : wr.cell? ⟨w.heap.size, 4, none⟩ = some (.slice ad n k) := P0.out.bc.cell 4
          go_wp2_with fail
          go_region_held3 (fun w' => w'.cell? ⟨w.heap.size, 0, none⟩ = some (.int .i64 co) ∧ w'.cell? ⟨w.heap.size, 1, none⟩ = some (.int .i64 sy) ∧ w'.cell? ⟨w.heap.size, 2, none⟩ = some (.int .i64 la) ∧ w'.cell? ⟨w.heap.size, 3, none⟩ = some (.int .i64 mo) ∧ w'.cell? ⟨w.heap.size, 4, none⟩ = some (.slice ad n k)) (first | exact ⟨c0, c1, c2, c3, c4⟩ | exact ⟨d0, d1, d2, d3, d4⟩ | exact ⟨e0, e1, e2, e3, e4⟩ | go_keep) (first | (go_at_call_of 16 (Value.slice am q cm); refine (wTask_on KR.out (by first | exact P0.out.ints | exact P0.out.drew.ints) (by first | exact Q0.out.tks | exact (Q0.out.below (bdrew _)).tks) (j : Int) V HV.out).mono ?_; rintro e x1 ⟨rfl, gg⟩; have P1 : Hid (Op12 w co sy la mo ad n k res (some ⟨g, 0, none⟩) q kb l x1) := (by first | exact P0.out.below gg | exact P0.out.drew.below gg); have d0 : x1.cell? ⟨w.heap.size, 0, none⟩ = some (.int .i64 co) := P1.out.bc.cell 0; have d1 : x1.cell? ⟨w.heap.size, 1, none⟩ = some (.int .i64 sy) := P1.out.bc.cell 1; have d2 : x1.cell? ⟨w.heap.size, 2, none⟩ = some (.int .i64 la) := P1.out.bc.cell 2; have d3 : x1.cell? ⟨w.heap.size, 3, none⟩ = some (.int .i64 mo) := P1.out.bc.cell 3; have d4 : x1.cell? ⟨w.heap.size, 4, none⟩ = some (.slice ad n k) := P1.out.bc.cell 4; have Q1 : Hid (OwnT x1 (w.heap.size + 1) (.slice am q cm) (l.drop k2 ++ l.take k2)) := (by first | exact Q0.out.below gg | exact (Q0.out.below (bdrew _)).below gg); clear gg) | (go_at_call_of 16 (Value.slice (some ⟨g, 0, none⟩) q kb); refine (wTask_at KN.out (by first | exact P1.out | exact P1.out.drew) _ V HV2.out).mono ?_; rintro e x2 ⟨rfl, gg⟩; have P2 : Hid (Op12 w co sy la mo ad n k res (some ⟨g, 0, none⟩) q kb l x2) := (by first | exact P1.out.below gg | exact P1.out.drew.below gg); have e0 : x2.cell? ⟨w.heap.size, 0, none⟩ = some (.int .i64 co) := P2.out.bc.cell 0; have e1 : x2.cell? ⟨w.heap.size, 1, none⟩ = some (.int .i64 sy) := P2.out.bc.cell 1; have e2 : x2.cell? ⟨w.heap.size, 2, none⟩ = some (.int .i64 la) := P2.out.bc.cell 2; have e3 : x2.cell? ⟨w.heap.size, 3, none⟩ = some (.int .i64 mo) := P2.out.bc.cell 3; have e4 : x2.cell? ⟨w.heap.size, 4, none⟩ = some (.slice ad n k) := P2.out.bc.cell 4; have Q2 : Hid (OwnT x2 (w.heap.size + 1) (.slice am q cm) (l.drop k2 ++ l.take k2)) := (by first | exact Q1.out.below gg | exact (Q1.out.below (bdrew _)).below gg); clear gg))
          all_goals
            go_wp2_with fail
            go_roundg (q - (j + 1))
            case measure => omega
            case rel => exact ⟨j + 1, by omega, by go_num, P2.out, Q2.out⟩
        · go_wp2_with fail
          go_ret
          exact ⟨rfl, P0.out.bel⟩

set_option maxRecDepth 100000 in
theorem lifted (os : Os) (started : os.Started) (H : Type) (enc : TypeId × Value → H) :
    ReturnsInHanded {} Tryz.checked os 8 .any (fun w args => (Rows.waitOrderSpec.pre enc Tryz.prog Tryz.f8 [] false w args ∧ laidMetH Tryz.prog laid5 w) ∧ sizedMet enc Tryz.prog Tryz.f8 (OpenSpec.ofChange Rows.waitOrderSpec) false w args)
      (Rows.waitOrderSpec.post enc Tryz.prog Tryz.f8 false true false false) := by
  refine returnsInHanded_of_change_and (C := Tryz.checked) (X := fun w _ => laidMetH Tryz.prog laid5 w) (fun _ _ _ hh h => h.of_heap hh) own started (by kernel_rfl) Tryz.func8
    (ChangeSpec.witness_shaped (enc := enc) (C := Tryz.checked) (os := os) (X := fun w _ => laidMetH Tryz.prog laid5 w) false (World.doorLaid Tryz.prog 62 os) #[.agg #[.int .i64 0, .int .i64 0, .int .i64 0, .int .i64 0, .slice none 0 0], .slice none 0 0, .int .i64 0] 8 rfl (World.shaped_of_RefB (by kernel_rfl) (by kernel_rfl)) (by kernel_rfl) (by kernel_rfl) (by kernel_rfl) (door_met os _)) ?_
  intro W base args ds gs before hval0 hW _ _ hL _
  have hval : ∀ (j : Nat) t v, Tryz.f8.params[j]? = some t → args[j]? = some v → Value.okWide Tryz.prog W .any base t v := hval0
  have hW' := hW
  obtain ⟨p, q, hA0, hV, rfl, hfz, hnd⟩ := hW
  have hA : DataW.TrodAll enc Tryz.prog W 0 (fun _ => true) true Tryz.f8.params.toList args.toList ds p := hA0
  rw [Tryz.params8] at hA hval
  obtain ⟨v0, vs0, d0, ds0, p0, q0, hargs, rfl, rfl, h0, r0⟩ := trodAll_cons hA
  obtain ⟨v1, vs1, d1, ds1, p1, q1, rfl, rfl, rfl, h1, r1⟩ := trodAll_cons r0
  obtain ⟨v2, vs2, d2, ds2, p2, q2, rfl, rfl, rfl, h2, r2⟩ := trodAll_cons r1
  obtain ⟨rfl, rfl, rfl⟩ := trodAll_nil r2
  obtain rfl : args = #[v0, v1, v2] := by cases args; simp_all
  obtain ⟨rfl, rfl⟩ := trodVars_none hV
  have k0 := h0
  have lt0 : ∀ x ∈ p0, x.block < W.heap.size := by obtain ⟨m, hm⟩ := k0; exact DataW.trod_lt m _ _ _ hm
  obtain ⟨co0, sy0, la0, mo0, s0, n0, m0, z0, rfl, w0, x00, x01, x02, x03⟩ := open_config (hval 0 24 v0 rfl rfl) h0
  obtain ⟨s1, n1, m1, rfl⟩ := okWide_slice Tryz.underlying25 (hval 1 25 v1 rfl rfl)
  have k1 := h1
  have lt1 : ∀ x ∈ p1, x.block < W.heap.size := by obtain ⟨m, hm⟩ := k1; exact DataW.trod_lt m _ _ _ hm
  obtain ⟨z1, w1⟩ := (by obtain ⟨fuel, hf⟩ := h1; exact open_tsks hf : ∃ zs, ATsks W s1 n1 m1 zs)
  obtain ⟨a2, rfl, rfl, rfl, w2⟩ := open_int Tryz.underlying3 (hval 2 3 v2 rfl rfl) h2
  clear hA0 hval0
  simp only [List.append_nil] at hW'
  refine (walk co0 sy0 la0 mo0 s0 n0 m0 z0 s1 n1 m1 z1 a2 W (env_of_laid hL) w0 x00 x01 x02 x03 w1 w2).mono fun e W' ⟨he, bel⟩ => ?_
  subst he
  exact ⟨_, rfl, _, _, _, [], _, [], hW', trodAll_mk1 (shut_bool Tryz.underlying4 _), (trodAll_cons_mk (Below.trod laidOut (by kernel_rfl) (of_decide_eq_true (by kernel_rfl)) k0 bel lt0) (trodAll_cons_mk (Below.trod laidOut (by kernel_rfl) (of_decide_eq_true (by kernel_rfl)) k1 bel lt1) (trodAll_cons_mk (shut_int Tryz.underlying3 w2) trodAll_mk0))), rfl, bel.frame _, fun h => by cases h⟩

theorem closed : joinedFacts Tryz.pinned.checked.prog 8 Tryz.f8 Rows.waitOrderSpec Rows.waitOrderRow = true := by
  generalize hP : Tryz.pinned.checked.prog = P
  simp only [joinedFacts, Bool.and_eq_true]
  subst hP
  refine ⟨⟨⟨⟨⟨⟨⟨⟨⟨⟨⟨⟨⟨⟨⟨⟨⟨⟨⟨⟨⟨⟨⟨⟨⟨⟨⟨⟨⟨⟨⟨?k1, ?k2⟩, ?k3⟩, ?k4⟩, ?k5⟩, ?k6⟩, ?k7⟩, ?k8⟩, ?k9⟩, ?k10⟩, ?k11⟩, ?k12⟩, ?k13⟩, ?k14⟩, ?k15⟩, ?k16⟩, ?k17⟩, ?k18⟩, ?k19⟩, ?k20⟩, ?k21⟩, ?k22⟩, ?k23⟩, ?k24⟩, ?k25⟩, ?k26⟩, ?k27⟩, ?k28⟩, ?k29⟩, ?k30⟩, ?k31⟩, ?k32⟩
  case k26 => exact head_enter
  case k27 => show (false == Tryz.prog.liftsFinal) = true; rw [head_lifts]; rfl
  case k28 => exact head_make
  all_goals kernel_rfl
theorem over : Rows.waitOrderRow.holds Tryz.pinned (OpenSpec.ofChange Rows.waitOrderSpec) :=
  OpenClaim.holds_of_wide 8 Tryz.f8 rfl rfl rfl rfl rfl rfl rfl ⟨rfl, rfl, rfl, rfl, rfl⟩ rfl rfl rfl rfl rfl (by kernel_rfl) Tryz.func8 closed
    (of_decide_eq_true (by kernel_rfl)) (by unfold Func.isWrapper; first | (rw [if_pos (by decide +kernel)]; kernel_rfl) | (rw [if_neg (by decide +kernel)]; exact ⟨rfl, rfl⟩))
    (fun os started H enc _ => lifted os started H enc)

theorem proved : Rows.WaitOrderCardSaid :=
  Claim7.holds_tied_plain_at .later [] [.data, .data, .data, .sentinel, .sentinel] true (true, "4ddcd03471c152e483e2d1372070b2dd351fc06eba3ed385e3ebe4df4fc3b5c0") true
    over (fun _ h => by cases h) (by kernel_rfl) (fun _ h => by cases h) waitOrder_row_tie rfl ⟨rfl, rfl⟩ head_main rfl
    (fun f fn hf hfn => by
      obtain rfl : f = 8 := Option.some.inj ((show Tryz.prog.funcNamed "hortator/hortatorlaw12.WaitOrder" = some 8 by kernel_rfl).symm.trans hf) |>.symm
      obtain rfl : fn = Tryz.f8 := (Option.some.inj (Tryz.func8.symm.trans hfn)).symm
      exact ⟨by kernel_rfl, fun j t ht => by
        rw [Tryz.params8] at ht
        match j, ht with
        | 0, ht => obtain rfl : t = 24 := by simpa using ht.symm
                   exact (show Tryz.prog.wantsStandIn 24 = false by kernel_rfl)
        | 1, ht => obtain rfl : t = 25 := by simpa using ht.symm
                   exact (show Tryz.prog.wantsStandIn 25 = false by kernel_rfl)
        | 2, ht => obtain rfl : t = 3 := by simpa using ht.symm
                   exact (show Tryz.prog.wantsStandIn 3 = false by kernel_rfl)
        | (_ + 3), ht => simp at ht⟩)
    (by kernel_rfl)
end Go.Proofs.YtakdliecjfeedaaGreatDoor.waitOrder
