/-
PROVED: the statement hortatorlaw12.LoadNone answers true over the landed packages: tasks that may not be, plans that are not as many: nothing is told.
  CONDITIONS: the listed variables of strconv and math/bits hold what the program's text lays (the card ties them).
-/
import Derived.Test.YtakdliecjfeedaaGreatDoorRows
import Derived.Test.YtakdliecjfeedaaGreatDoorTie
import Derived.Test.YtakdliecjfeedaaGreatDoorCards
import Derived.WalkKit
import Derived.ProofKit
import Derived.OpenShut
import Derived.ShutString
import Derived.ChangeOld
import Derived.Below
import Derived.SevenTiedAt
import Derived.Test.YtakdliecjfeedaaGreatDoorLaid
import Derived.Test.YtakdliecjfeedaaGreatDoorHead
import Derived.Carry
import Derived.Deep.Cut
import Derived.Deep.CutRange
import Derived.Deep.RegionWith
import Derived.Deep.RegionHeld3
import Derived.Deep.LoopGhost
import Derived.Deep.QuietTactic
import Derived.BigQuiet
import Derived.Test.YtakdliecjfeedaaGreatDoorOpen13
import Derived.Test.YtakdliecjfeedaaGreatDoorBegun12
import Derived.Test.YtakdliecjfeedaaGreatDoorArgT
import Derived.Test.YtakdliecjfeedaaGreatDoorAppNil
namespace Go.Proofs.YtakdliecjfeedaaGreatDoor.loadNone
open Go.ChangeShapes Go.WideShapes Go.ChangeAt Go.RowKit
open Go.ChangeMaps (open_string shut_string)
set_option linter.unusedVariables false

theorem own : ownKnob Tryz.prog.godebug = none := by kernel_rfl
theorem laidOut : laidOutB Tryz.prog = true := by kernel_rfl

set_option maxHeartbeats 8000000 in
set_option maxRecDepth 100000 in
theorem walk (co0 sy0 la0 mo0 : Int) (s0 : Option Addr) (n0 m0 : Nat) (z0 : List Int) (s1 : Option Addr) (n1 m1 : Nat) (z1 : List TI) (w : World) (hE : Env w) (w0 : AInts w s0 n0 m0 z0) (x00 : (Lit.int .i64 co0).wf = true) (x01 : (Lit.int .i64 sy0).wf = true) (x02 : (Lit.int .i64 la0).wf = true) (x03 : (Lit.int .i64 mo0).wf = true) (w1 : ATsks w s1 n1 m1 z1) :
    Calls Tryz.prog 10 #[.agg #[.int .i64 co0, .int .i64 sy0, .int .i64 la0, .int .i64 mo0, .slice s0 n0 m0], .slice s1 n1 m1] w fun e w' => e = .returned (.bool true) ∧ Below w.heap.size w w' := by
  have HE : Hid (Env w) := hE
  have AC : Hid (AInts w s0 n0 m0 z0) := w0
  have AT : Hid (ATsks w s1 n1 m1 z1) := w1
  clear hE w0 w1
  have BW : Hid (Below w.heap.size w (w.alloc (.cells #[.int .i64 co0, .int .i64 sy0, .int .i64 la0, .int .i64 mo0, .slice s0 n0 m0] 24))) := balloc _ _
  have bc : Blk (w.alloc (.cells #[.int .i64 co0, .int .i64 sy0, .int .i64 la0, .int .i64 mo0, .slice s0 n0 m0] 24)) w.heap.size #[.int .i64 co0, .int .i64 sy0, .int .i64 la0, .int .i64 mo0, .slice s0 n0 m0] 24 := heap_alloc_new _ _
  go_enter Tryz.func10, Tryz.ntmps10
  go_wp2_with fail
  generalize hW : w.alloc _ = W at BW bc ⊢
  clear hW
  refine (begun12_any W (HE.out.below BW.out)).mono ?_
  rintro e v1 ⟨rfl, g1⟩
  have G1 : Hid (Below w.heap.size w v1) := btrans BW.out g1
  have bc1 := bc.below g1
  clear g1 bc
  have c0 := bc1.cell 0
  have fc0 := bc1.frozen 0
  have c1 := bc1.cell 1
  have fc1 := bc1.frozen 1
  have c2 := bc1.cell 2
  have fc2 := bc1.frozen 2
  have c3 := bc1.cell 3
  have fc3 := bc1.frozen 3
  have c4 := bc1.cell 4
  have fc4 := bc1.frozen 4
  simp at c0 c1 c2 c3 c4
  go_wp2_with fail
  refine (cfg12_any co0 sy0 la0 mo0 s0 n0 m0 z0 v1 (AC.out.below G1.out)).mono ?_
  rintro e v2 ⟨co, sy, la, mo, ad, n, k, res, rfl, hcf, hrn, own2, g2⟩
  have hv1 := bc1.lt
  have G2 := btrans G1.out g2
  have bc2 := bc1.below g2
  clear c0 fc0 c1 fc1 c2 fc2 c3 fc3 c4 fc4 bc1 g2
  have c0 := bc2.cell 0
  have fc0 := bc2.frozen 0
  have c1 := bc2.cell 1
  have fc1 := bc2.frozen 1
  have c2 := bc2.cell 2
  have fc2 := bc2.frozen 2
  have c3 := bc2.cell 3
  have fc3 := bc2.frozen 3
  have c4 := bc2.cell 4
  have fc4 := bc2.frozen 4
  simp at c0 c1 c2 c3 c4
  have bc3 := set5_box bc2 (.int .i64 co) (.int .i64 sy) (.int .i64 la) (.int .i64 mo) (.slice ad n k)
  have o5 := only5 v2 w.heap.size (.int .i64 co) (.int .i64 sy) (.int .i64 la) (.int .i64 mo) (.slice ad n k)
  have own3 := own_off own2 o5 (fun j hj => by have := (own2.lt j hj).1; simp; omega)
  have G3 := set5_bel G2 (Nat.le_refl _) (.int .i64 co) (.int .i64 sy) (.int .i64 la) (.int .i64 mo) (.slice ad n k)
  go_wp2_with fail
  generalize hZ : World.setCell _ _ _ = v3 at bc3 own3 G3 ⊢
  clear hZ o5 own2 G2 bc2 hv1 c0 fc0 c1 fc1 c2 fc2 c3 fc3 c4 fc4
  have HI3 : Hid (Ints v3 (.slice ad n k) res) := own_ints (by rw [hrn]; exact own3)
  have hv3 := bc3.lt
  have HG3 : Hid (Below w.heap.size w v3) := G3
  have HB3 : Hid (Blk v3 w.heap.size #[.int .i64 co, .int .i64 sy, .int .i64 la, .int .i64 mo, .slice ad n k] 24) := bc3
  clear own3 bc3 G3
  refine (tsk12_any co sy la mo ad n k s1 n1 m1 z1 v3 (AT.out.below HG3.out)).mono ?_
  rintro e v4 ⟨b, q, kb, l, rfl, hlq, q12, hall, ot, g4⟩
  have KN : Hid (Kn12 co sy la mo n res q l) := ⟨hcf, hrn, hlq, q12, hall⟩
  have O4 : Hid (Op12 w co sy la mo ad n k res b q kb l v4) := ⟨HB3.out.below g4, HI3.out.below g4, ot.mono (by omega), btrans HG3.out g4⟩
  clear hcf hrn hlq hall ot g4 HI3 HG3 HB3 G1 BW HE AC AT hv3
  obtain ⟨N, hNN⟩ : ∃ N : Nat, co = N := ⟨co.toNat, by have := (cfgB_iff.1 KN.out.cfg).1; simp only at this; omega⟩
  subst hNN
  have c0 : v4.cell? ⟨w.heap.size, 0, none⟩ = some (.int .i64 N) := O4.out.bc.cell 0
  have c1 : v4.cell? ⟨w.heap.size, 1, none⟩ = some (.int .i64 sy) := O4.out.bc.cell 1
  have c2 : v4.cell? ⟨w.heap.size, 2, none⟩ = some (.int .i64 la) := O4.out.bc.cell 2
  have c3 : v4.cell? ⟨w.heap.size, 3, none⟩ = some (.int .i64 mo) := O4.out.bc.cell 3
  have c4 : v4.cell? ⟨w.heap.size, 4, none⟩ = some (.slice ad n k) := O4.out.bc.cell 4
  go_wp2_with fail
  refine (plans_at KN.out rfl none 0 0 [] (⟨rfl, by omega, fun i y hi => by simp at hi⟩) O4.out).mono ?_
  rintro e v5 ⟨pb, pk, ps, rfl, kp, op, op2, g5⟩
  have KP : Hid (Kn13 N l q ps) := kp
  have P0 : Hid (Op13 w N sy la mo ad n k res b q kb l pb pk ps v5) := op
  have hN6 := kp.n6
  have hq12 := KN.out.q12
  have HOP : Hid (OwnP v5 v4.heap.size (.slice pb q pk) ps) := op2
  have G5 : Hid (Below v4.heap.size v4 v5) := g5
  clear kp op op2 g5 c0 c1 c2 c3 c4
  have BT0 : Hid (Blk (v5.alloc (.cells #[.int .i64 5, .int .i64 4, .int .i64 9, .slice none 0 0] 34)) v5.heap.size #[.int .i64 5, .int .i64 4, .int .i64 9, .slice none 0 0] 34) := heap_alloc_new _ _
  have P1 : Hid (Op13 w N sy la mo ad n k res b q kb l pb pk ps (v5.alloc (.cells #[.int .i64 5, .int .i64 4, .int .i64 9, .slice none 0 0] 34))) := P0.out.below (balloc _ _)
  have GP : Hid (Below v4.heap.size v4 (v5.alloc (.cells #[.int .i64 5, .int .i64 4, .int .i64 9, .slice none 0 0] 34))) := btrans G5.out (balloc _ _)
  have PLP : Hid ((v5.alloc (.cells #[.int .i64 5, .int .i64 4, .int .i64 9, .slice none 0 0] 34)).ownsRow v4.heap.size 49 2 (.slice pb q pk) q (plC ps)) := by have := own_below HOP.out.own (balloc v5 (.cells #[.int .i64 5, .int .i64 4, .int .i64 9, .slice none 0 0] 34)); rw [KP.out.len] at this; exact this
  have hv5 : w.heap.size < v5.heap.size := P0.out.op.bc.lt
  obtain ⟨i0, hi0, hz0, hz1, hz2⟩ := info_parts infoT
  obtain ⟨ip, hip, hp0, hp1, hp2⟩ := info_parts infoPl
  go_upto_region 8 with fail
  generalize hW6 : v5.alloc _ = W6 at BT0 P1 GP PLP ⊢
  generalize hgb : v5.heap.size = gb at BT0 ⊢
  clear hW6 P0
  go_cut [9] from 22 to 26 (fun x wx => ∃ am cm, x = .slice am (q + 1) cm ∧ Hid (OwnT wx (w.heap.size + 1) (.slice am (q + 1) cm) (l ++ [(⟨5, 4, 9, .slice none 0 0, []⟩ : TV)])) ∧ Hid (Op13 w N sy la mo ad n k res b q kb l pb pk ps wx) ∧ Hid (Below v4.heap.size v4 wx) ∧ Hid (wx.ownsRow v4.heap.size 49 2 (.slice pb q pk) q (plC ps)))
  case first =>
    have SEC : Hid (∀ y ∈ (l ++ [(⟨5, 4, 9, .slice none 0 0, []⟩ : TV)]), W6.ownsRow (w.heap.size + 1) 39 3 y.u y.m.length (secC y.m)) := fun y hy => by
      rcases List.mem_append.1 hy with hy | hy
      · exact P1.out.op.own.sec y hy
      · simp at hy; subst hy; exact World.ownsRow_nil _ _ _ _
    have L1 : Hid ((tvC l).length = q * 4) := by unfold Hid; rw [tvC_length, KN.out.lq]
    have U1 : Hid (∀ u ∈ tvC l, u.oneCell' = true) := P1.out.op.own.one
    have sv7 := BT0.out.lt
    have sv8 := P1.out.op.bc.lt
    have sv9 := P1.out.op.bel.size
    have hgb2 : w.heap.size < gb := by rw [← hgb]; exact hv5
    rcases P1.out.op.own.own.2 with ⟨ev, _⟩ | ⟨g, c9, cur, ev, hgB, _, qk, kbm, _⟩
    · simp only [Value.slice.injEq] at ev
      obtain ⟨rfl, rfl, rfl⟩ := ev
      have hl0 : l = [] := List.length_eq_zero_iff.1 KN.out.lq
      subst hl0
      have x0 : W6.cell? ⟨gb, 0, none⟩ = some (.int .i64 5) := BT0.out.cell 0
      have x1 : W6.cell? ⟨gb, 1, none⟩ = some (.int .i64 4) := BT0.out.cell 1
      have x2 : W6.cell? ⟨gb, 2, none⟩ = some (.int .i64 9) := BT0.out.cell 2
      have x3 : W6.cell? ⟨gb, 3, none⟩ = some (.slice none 0 0) := BT0.out.cell 3
      go_wp2_with fail
      go_region_law (first
        | (refine step_append_nils W6.drew (by rfl) (.const (.slice none 0 0)) (.tmp 22) 25 (by rfl) 34 i0 Tryz.underlying25 hi0 (by rfl) (by rfl) ?_)
        | (refine step_append_nils ((W6.alloc (.cells #[.int .i64 5, .int .i64 4, .int .i64 9, .slice none 0 0] 34)).drew) (by rfl) (.const (.slice none 0 0)) (.tmp 22) 25 (by rfl) 34 i0 Tryz.underlying25 hi0 (by rfl) (by rfl) ?_)
        | (refine step_append_at ((W6.alloc (.cells #[.int .i64 5, .int .i64 4, .int .i64 9, .slice none 0 0] 34)).drew) (by rfl) (.tmp 23) (.tmp 25) 25 (by rfl) W6.heap.size 34 i0 _ 4 48 Tryz.underlying25 hi0 hz0 hz1 hz2 rfl (by omega) (.slice none 0 0) 0 [] (by rfl) (World.ownsRow_nil _ _ _ _) ⟨W6.heap.size, 0, none⟩ 1 1 [.int .i64 5, .int .i64 4, .int .i64 9, .slice none 0 0] (by rfl) rfl (fun j u hu => cell_keep (cell_four W6 _ _ _ _ _ j u hu) (bdrew _)) (by intro u hu; simp at hu; rcases hu with rfl | rfl | rfl | rfl <;> rfl) (by unfold maxLen; omega) (by omega) (by simp) ?_; intro y2 v8 own2 gr2 at2; obtain ⟨am, cm, e⟩ := own_form own2; subst e; have R8 : Hid (OwnT v8 (w.heap.size + 1) (.slice am (0 + 1) cm) ([] ++ [⟨5, 4, 9, .slice none 0 0, []⟩])) := (OwnT.nil W6.drew (w.heap.size + 1)).snoc (x := ⟨5, 4, 9, .slice none 0 0, []⟩) (World.ownsRow_nil _ _ _ _) (ownT_mono own2 (by omega)) gr2 tsk_ty; have g8 := ((btrans (balloc W6 (.cells #[.int .i64 5, .int .i64 4, .int .i64 9, .slice none 0 0] 34)) (bdrew _)).trans (gr_bel (B := W6.heap.size) gr2 (fun k hk => by have h0 : (none : Option Nat) = some k := hk; cases h0) (by simp))); have T8 : Hid (Op13 w N sy la mo ad n k res none 0 0 [] pb pk ps v8) := P1.out.below g8; have G8 : Hid (Below v4.heap.size v4 v8) := btrans GP.out g8; have PL8 : Hid (v8.ownsRow v4.heap.size 49 2 (.slice pb 0 pk) 0 (plC ps)) := own_below PLP.out g8; clear own2 gr2 at2)
        | fail)
      all_goals
        go_wp2_with fail
        go_meet
        exact ⟨am, cm, rfl, R8.out, T8.out, G8.out, PL8.out⟩
    · simp only [Value.slice.injEq] at ev
      obtain ⟨rfl, -, rfl⟩ := ev
      have qk2 : q ≤ kb := by have := KN.out.lq; omega
      have kbm2 : kb ≤ 9223372036854775807 := by unfold maxLen at kbm; omega
      clear qk kbm
      have N7 : Hid (NewsT W6 ⟨g, 0, none⟩ l) := P1.out.op.own.news
      have x0 : W6.cell? ⟨gb, 0, none⟩ = some (.int .i64 5) := BT0.out.cell 0
      have x1 : W6.cell? ⟨gb, 1, none⟩ = some (.int .i64 4) := BT0.out.cell 1
      have x2 : W6.cell? ⟨gb, 2, none⟩ = some (.int .i64 9) := BT0.out.cell 2
      have x3 : W6.cell? ⟨gb, 3, none⟩ = some (.slice none 0 0) := BT0.out.cell 3
      go_wp2_with fail
      go_region_law (first
        | (refine step_append_at W6.drew (by rfl) (.const (.slice none 0 0)) (.tmp 22) 25 (by rfl) W6.heap.size 34 i0 _ 4 48 Tryz.underlying25 hi0 hz0 hz1 hz2 rfl (by omega) (.slice none 0 0) 0 [] (by rfl) (World.ownsRow_nil _ _ _ _) ⟨g, 0, none⟩ q kb (tvC l) (by rfl) L1.out (N7.out.below (bdrew W6)) U1.out (by unfold maxLen; omega) (by omega) (by simp) ?_; intro y1 w1 own1 gr1 at1; rw [Nat.zero_add, List.nil_append] at own1; have OW : Hid (w1.ownsRow W6.heap.size 34 4 y1 q (tvC l)) := own1; have GR : Hid (W6.drew.grownBy w1 none) := gr1; have B1 : Hid (Below W6.heap.size W6 w1) := ((bdrew W6)).trans (gr_bel gr1 (fun k hk => by have h0 : (none : Option Nat) = some k := hk; cases h0) (by simp)); have s71 : W6.heap.size ≤ w1.heap.size := B1.out.size; skip; have z0 : w1.cell? ⟨gb, 0, none⟩ = some (.int .i64 5) := (BT0.out.below B1.out).cell 0; have z1 : w1.cell? ⟨gb, 1, none⟩ = some (.int .i64 4) := (BT0.out.below B1.out).cell 1; have z2 : w1.cell? ⟨gb, 2, none⟩ = some (.int .i64 9) := (BT0.out.below B1.out).cell 2; have z3 : w1.cell? ⟨gb, 3, none⟩ = some (.slice none 0 0) := (BT0.out.below B1.out).cell 3; clear own1 gr1 at1)
        | (refine step_append_at ((W6.alloc (.cells #[.int .i64 5, .int .i64 4, .int .i64 9, .slice none 0 0] 34)).drew) (by rfl) (.const (.slice none 0 0)) (.tmp 22) 25 (by rfl) W6.heap.size 34 i0 _ 4 48 Tryz.underlying25 hi0 hz0 hz1 hz2 rfl (by omega) (.slice none 0 0) 0 [] (by rfl) (World.ownsRow_nil _ _ _ _) ⟨g, 0, none⟩ q kb (tvC l) (by rfl) L1.out (N7.out.below (btrans (balloc W6 (.cells #[.int .i64 5, .int .i64 4, .int .i64 9, .slice none 0 0] 34)) (bdrew _))) U1.out (by unfold maxLen; omega) (by omega) (by simp) ?_; intro y1 w1 own1 gr1 at1; rw [Nat.zero_add, List.nil_append] at own1; have OW : Hid (w1.ownsRow W6.heap.size 34 4 y1 q (tvC l)) := own1; have GR : Hid (((W6.alloc (.cells #[.int .i64 5, .int .i64 4, .int .i64 9, .slice none 0 0] 34)).drew).grownBy w1 none) := gr1; have B1 : Hid (Below W6.heap.size W6 w1) := ((btrans (balloc W6 (.cells #[.int .i64 5, .int .i64 4, .int .i64 9, .slice none 0 0] 34)) (bdrew _))).trans (gr_bel gr1 (fun k hk => by have h0 : (none : Option Nat) = some k := hk; cases h0) (by simp)); have s71 : W6.heap.size ≤ w1.heap.size := B1.out.size; have LC : Hid (∀ j u, ([.int .i64 5, .int .i64 4, .int .i64 9, .slice none 0 0] : List Value)[j]? = some u → w1.cell? ((⟨W6.heap.size, 0, none⟩ : Addr).add j) = some u) := (fun j u hu => (gr1.cell_far _ (by rw [addr_add]; simp) (by simp [Value.ownBlock])).trans ((cell_keep (cell_four W6 _ _ _ _ _ j u hu) (bdrew _)))); have z0 : w1.cell? ⟨gb, 0, none⟩ = some (.int .i64 5) := (BT0.out.below B1.out).cell 0; have z1 : w1.cell? ⟨gb, 1, none⟩ = some (.int .i64 4) := (BT0.out.below B1.out).cell 1; have z2 : w1.cell? ⟨gb, 2, none⟩ = some (.int .i64 9) := (BT0.out.below B1.out).cell 2; have z3 : w1.cell? ⟨gb, 3, none⟩ = some (.slice none 0 0) := (BT0.out.below B1.out).cell 3; clear own1 gr1 at1)
        | (refine step_append_at (w1.alloc (.cells #[.int .i64 5, .int .i64 4, .int .i64 9, .slice none 0 0] 34)) (by rfl) (.tmp 23) (.tmp 25) 25 (by rfl) W6.heap.size 34 i0 _ 4 48 Tryz.underlying25 hi0 hz0 hz1 hz2 rfl (by omega) y1 q (tvC l) (by rfl) (own_below OW.out (balloc w1 (.cells #[.int .i64 5, .int .i64 4, .int .i64 9, .slice none 0 0] 34))) ⟨w1.heap.size, 0, none⟩ 1 1 [.int .i64 5, .int .i64 4, .int .i64 9, .slice none 0 0] (by rfl) rfl (cell_four _ _ _ _ _ _) (by intro u hu; simp at hu; rcases hu with rfl | rfl | rfl | rfl <;> rfl) (by unfold maxLen; omega) (by omega) (by first | omega | (simp; omega)) ?_; intro y2 v8 own2 gr2 at2; obtain ⟨am, cm, e⟩ := own_form own2; subst e; obtain ⟨o8, g8⟩ := more_end (B := w.heap.size + 1) (x := ⟨5, 4, 9, .slice none 0 0, []⟩) (w1 := w1) KN.out.lq (by omega) SEC.out ((bdrew W6)) (by simp) GR.out OW.out (balloc w1 (.cells #[.int .i64 5, .int .i64 4, .int .i64 9, .slice none 0 0] 34)) gr2 own2; have R8 : Hid (OwnT v8 (w.heap.size + 1) (.slice am (q + 1) cm) (l ++ [(⟨5, 4, 9, .slice none 0 0, []⟩ : TV)])) := o8; have T8 : Hid (Op13 w N sy la mo ad n k res (some ⟨g, 0, none⟩) q kb l pb pk ps v8) := P1.out.below g8; have G8 : Hid (Below v4.heap.size v4 v8) := btrans GP.out g8; have PL8 : Hid (v8.ownsRow v4.heap.size 49 2 (.slice pb q pk) q (plC ps)) := own_below PLP.out g8; clear own2 gr2 at2 o8 g8)
        | (refine step_append_at w1 (by rfl) (.tmp 23) (.tmp 25) 25 (by rfl) W6.heap.size 34 i0 _ 4 48 Tryz.underlying25 hi0 hz0 hz1 hz2 rfl (by omega) y1 q (tvC l) (by rfl) OW.out ⟨W6.heap.size, 0, none⟩ 1 1 [.int .i64 5, .int .i64 4, .int .i64 9, .slice none 0 0] (by rfl) rfl LC.out (by intro u hu; simp at hu; rcases hu with rfl | rfl | rfl | rfl <;> rfl) (by unfold maxLen; omega) (by omega) (by first | omega | (simp; omega)) ?_; intro y2 v8 own2 gr2 at2; obtain ⟨am, cm, e⟩ := own_form own2; subst e; obtain ⟨o8, g8⟩ := more_end (B := w.heap.size + 1) (x := ⟨5, 4, 9, .slice none 0 0, []⟩) (w1 := w1) KN.out.lq (by omega) SEC.out ((btrans (balloc W6 (.cells #[.int .i64 5, .int .i64 4, .int .i64 9, .slice none 0 0] 34)) (bdrew _))) (by simp) GR.out OW.out (Below.refl _ _) gr2 own2; have R8 : Hid (OwnT v8 (w.heap.size + 1) (.slice am (q + 1) cm) (l ++ [(⟨5, 4, 9, .slice none 0 0, []⟩ : TV)])) := o8; have T8 : Hid (Op13 w N sy la mo ad n k res (some ⟨g, 0, none⟩) q kb l pb pk ps v8) := P1.out.below g8; have G8 : Hid (Below v4.heap.size v4 v8) := btrans GP.out g8; have PL8 : Hid (v8.ownsRow v4.heap.size 49 2 (.slice pb q pk) q (plC ps)) := own_below PLP.out g8; clear own2 gr2 at2 o8 g8)
        | fail)
      all_goals
        go_wp2_with fail
        go_meet
        exact ⟨am, cm, rfl, R8.out, T8.out, G8.out, PL8.out⟩
  case rest =>
    obtain ⟨am, cm, rfl, r9, t9, g9, pl9⟩ := hcut
    have R9 : Hid (OwnT wc (w.heap.size + 1) (.slice am (q + 1) cm) (l ++ [(⟨5, 4, 9, .slice none 0 0, []⟩ : TV)])) := r9
    have G9 : Hid (Below v4.heap.size v4 wc) := g9.out
    have PL9 : Hid (wc.ownsRow v4.heap.size 49 2 (.slice pb q pk) q (plC ps)) := pl9.out
    clear r9 t9 g9 pl9 P1 BT0
    have HMF : Hid (mayV res.length (l ++ [(⟨5, 4, 9, .slice none 0 0, []⟩ : TV)]) = false) := mayV_bad (k := q) (x := ⟨5, 4, 9, .slice none 0 0, []⟩) (by rw [List.getElem?_append_right (by rw [KN.out.lq]; exact Nat.le_refl _), KN.out.lq]; simp) (by simp [tskB, TV.tsk, timesB, inB])
    have HLM : Hid ((l ++ [(⟨5, 4, 9, .slice none 0 0, []⟩ : TV)]).length = q + 1) := by unfold Hid; rw [List.length_append, KN.out.lq]; rfl
    have HMM : Hid (∀ x ∈ (l ++ [(⟨5, 4, 9, .slice none 0 0, []⟩ : TV)]), x.m.length ≤ 1000000) := fun x hx => by
      rcases List.mem_append.1 hx with hx | hx
      · exact KN.out.ms x hx
      · simp at hx; subst hx; simp
    have hs4 : w.heap.size < v4.heap.size := O4.out.bc.lt
    go_upto_region 9 with fail
    by_cases hq0 : q = 0
    · have z0 : ((q : Int) == 0) = true := by simp [hq0]
      clear hq0
      refine wp_region_noPanic (wp_region_runsZ (S := (fun w' => w'.cell? ⟨w.heap.size, 0, none⟩ = some (.int .i64 N) ∧ w'.cell? ⟨w.heap.size, 1, none⟩ = some (.int .i64 sy) ∧ w'.cell? ⟨w.heap.size, 2, none⟩ = some (.int .i64 la) ∧ w'.cell? ⟨w.heap.size, 3, none⟩ = some (.int .i64 mo) ∧ w'.cell? ⟨w.heap.size, 4, none⟩ = some (.slice ad n k))) (Z := [35]) (by kernel_rfl) ?_)
      have G0 : Hid (Below v4.heap.size v4 wc.drew) := btrans G9.out (bdrew _)
      have R0 : Hid (OwnT wc.drew (w.heap.size + 1) (.slice am (q + 1) cm) (l ++ [(⟨5, 4, 9, .slice none 0 0, []⟩ : TV)])) := R9.out.below (bdrew _)
      have PL0 : Hid (wc.drew.ownsRow v4.heap.size 49 2 (.slice pb q pk) q (plC ps)) := own_below PL9.out (bdrew _)
      have hS0 : (fun w' => w'.cell? ⟨w.heap.size, 0, none⟩ = some (.int .i64 N) ∧ w'.cell? ⟨w.heap.size, 1, none⟩ = some (.int .i64 sy) ∧ w'.cell? ⟨w.heap.size, 2, none⟩ = some (.int .i64 la) ∧ w'.cell? ⟨w.heap.size, 3, none⟩ = some (.int .i64 mo) ∧ w'.cell? ⟨w.heap.size, 4, none⟩ = some (.slice ad n k)) wc.drew := ⟨(O4.out.below G0.out).bc.cell 0, (O4.out.below G0.out).bc.cell 1, (O4.out.below G0.out).bc.cell 2, (O4.out.below G0.out).bc.cell 3, (O4.out.below G0.out).bc.cell 4⟩
      generalize wc.drew = u0 at G0 R0 PL0 hS0 ⊢
      refine RunsZ.take 12 (i := 0) (v := ?vz0) (nth_z rfl) (by kernel_rfl) (by kernel_rfl) (by kernel_rfl) (by kernel_rfl) (by kernel_rfl) (fun _ _ _ h => h) (Or.inl ⟨by rfl, ?yz0⟩) hS0 ?_
      case yz0 =>
        intro u hu
        try dsimp only at hu
        go_split_ands
        go_simp
        try with_reducible rfl
      simp only [Act.put, List.setIfInBounds_toArray, List.set_cons_zero, List.set_cons_succ]
      refine RunsZ.take 12 (i := 1) (v := ?vz1) (nth_z rfl) (by kernel_rfl) (by kernel_rfl) (by kernel_rfl) (by kernel_rfl) (by kernel_rfl) (fun _ _ _ h => h) (Or.inl ⟨by rfl, ?yz1⟩) hS0 ?_
      case yz1 =>
        intro u hu
        try dsimp only at hu
        go_split_ands
        go_simp
        try with_reducible rfl
      simp only [Act.put, List.setIfInBounds_toArray, List.set_cons_zero, List.set_cons_succ]
      refine RunsZ.take 12 (i := 2) (v := ?vz2) (nth_z rfl) (by kernel_rfl) (by kernel_rfl) (by kernel_rfl) (by kernel_rfl) (by kernel_rfl) (fun _ _ _ h => h) (Or.inl ⟨by rfl, ?yz2⟩) hS0 ?_
      case yz2 =>
        intro u hu
        try dsimp only at hu
        go_split_ands
        go_simp
        try with_reducible rfl
      simp only [Act.put, List.setIfInBounds_toArray, List.set_cons_zero, List.set_cons_succ]
      refine RunsZ.one (i := 3) (by kernel_rfl) (nth_z rfl) (by rfl) (fun K hK => ?_)
      go_simp
      refine (lall_no N sy la mo (.slice ad n k) res am (q + 1) cm (l ++ [(⟨5, 4, 9, .slice none 0 0, []⟩ : TV)]) _ _ _ _ (O4.out.below G0.out).ints KN.out.r6 KN.out.cfg R0.out.tks HLM.out (by omega) HMM.out (.inl HMF.out)).mono ?_
      rintro e u1 ⟨rfl, gg⟩
      have G1 : Hid (Below v4.heap.size v4 u1) := btrans G0.out gg
      have R1 : Hid (OwnT u1 (w.heap.size + 1) (.slice am (q + 1) cm) (l ++ [(⟨5, 4, 9, .slice none 0 0, []⟩ : TV)])) := R0.out.below gg
      have PL1 : Hid (u1.ownsRow v4.heap.size 49 2 (.slice pb q pk) q (plC ps)) := own_below PL0.out gg
      have hS1 : (fun w' => w'.cell? ⟨w.heap.size, 0, none⟩ = some (.int .i64 N) ∧ w'.cell? ⟨w.heap.size, 1, none⟩ = some (.int .i64 sy) ∧ w'.cell? ⟨w.heap.size, 2, none⟩ = some (.int .i64 la) ∧ w'.cell? ⟨w.heap.size, 3, none⟩ = some (.int .i64 mo) ∧ w'.cell? ⟨w.heap.size, 4, none⟩ = some (.slice ad n k)) u1 := ⟨(O4.out.below G1.out).bc.cell 0, (O4.out.below G1.out).bc.cell 1, (O4.out.below G1.out).bc.cell 2, (O4.out.below G1.out).bc.cell 3, (O4.out.below G1.out).bc.cell 4⟩
      first | refine hK.out _ _ (fun _ => hS1) ?_ | (go_wp2_with fail; refine hK.out _ _ (fun _ => hS1) ?_)
      clear hK K gg
      try simp only [Act.put, List.setIfInBounds_toArray, List.set_cons_zero, List.set_cons_succ]
      refine RunsZ.take 12 (i := 4) (v := ?vz4) (nth_z rfl) (by kernel_rfl) (by kernel_rfl) (by kernel_rfl) (by kernel_rfl) (by kernel_rfl) (fun _ _ _ h => h) (Or.inl ⟨by rfl, ?yz4⟩) hS1 ?_
      case yz4 =>
        intro u hu
        try dsimp only at hu
        go_split_ands
        go_simp
        try with_reducible rfl
      simp only [Act.put, List.setIfInBounds_toArray, List.set_cons_zero, List.set_cons_succ]
      refine RunsZ.take 12 (i := 5) (v := ?vz5) (nth_z rfl) (by kernel_rfl) (by kernel_rfl) (by kernel_rfl) (by kernel_rfl) (by kernel_rfl) (fun _ _ _ h => h) (Or.inl ⟨by rfl, ?yz5⟩) hS1 ?_
      case yz5 =>
        intro u hu
        try dsimp only at hu
        go_split_ands
        go_simp
        try with_reducible rfl
      simp only [Act.put, List.setIfInBounds_toArray, List.set_cons_zero, List.set_cons_succ]
      refine RunsZ.take 12 (i := 6) (v := ?vz6) (nth_z rfl) (by kernel_rfl) (by kernel_rfl) (by kernel_rfl) (by kernel_rfl) (by kernel_rfl) (fun _ _ _ h => h) (Or.inl ⟨by rfl, ?yz6⟩) hS1 ?_
      case yz6 =>
        intro u hu
        try dsimp only at hu
        go_split_ands
        go_simp
        try with_reducible rfl
      simp only [Act.put, List.setIfInBounds_toArray, List.set_cons_zero, List.set_cons_succ]
      refine RunsZ.take 12 (i := 7) (v := ?vz7) (nth_z rfl) (by kernel_rfl) (by kernel_rfl) (by kernel_rfl) (by kernel_rfl) (by kernel_rfl) (fun _ _ _ h => h) (Or.inl ⟨by rfl, ?yz7⟩) hS1 ?_
      case yz7 =>
        intro u hu
        try dsimp only at hu
        go_split_ands
        go_simp
        try with_reducible rfl
      simp only [Act.put, List.setIfInBounds_toArray, List.set_cons_zero, List.set_cons_succ]
      refine RunsZ.take 12 (i := 8) (v := ?vz8) (nth_z rfl) (by kernel_rfl) (by kernel_rfl) (by kernel_rfl) (by kernel_rfl) (by kernel_rfl) (fun _ _ _ h => h) (Or.inl ⟨by rfl, ?yz8⟩) hS1 ?_
      case yz8 =>
        intro u hu
        try dsimp only at hu
        go_split_ands
        go_simp
        try with_reducible rfl
      simp only [Act.put, List.setIfInBounds_toArray, List.set_cons_zero, List.set_cons_succ]
      refine RunsZ.take 12 (i := 9) (v := ?vz9) (nth_z rfl) (by kernel_rfl) (by kernel_rfl) (by kernel_rfl) (by kernel_rfl) (by kernel_rfl) (fun _ _ _ h => h) (Or.inl ⟨by rfl, ?yz9⟩) hS1 ?_
      case yz9 =>
        intro u hu
        try dsimp only at hu
        go_split_ands
        go_simp
        try with_reducible rfl
      simp only [Act.put, List.setIfInBounds_toArray, List.set_cons_zero, List.set_cons_succ]
      refine RunsZ.take 12 (i := 10) (v := ?vz10) (nth_z rfl) (by kernel_rfl) (by kernel_rfl) (by kernel_rfl) (by kernel_rfl) (by kernel_rfl) (fun _ _ _ h => h) (Or.inl ⟨by rfl, ?yz10⟩) hS1 ?_
      case yz10 =>
        intro u hu
        try dsimp only at hu
        go_split_ands
        go_simp
        try with_reducible rfl
      simp only [Act.put, List.setIfInBounds_toArray, List.set_cons_zero, List.set_cons_succ]
      refine RunsZ.one (i := 11) (by kernel_rfl) (nth_z rfl) (by rfl) (fun K hK => ?_)
      go_simp
      have G2 : Hid (Below v4.heap.size v4 (u1.alloc (.cells #[.int .i64 0, .slice none 0 0] 49))) := btrans G1.out (balloc _ _)
      have R2 : Hid (OwnT (u1.alloc (.cells #[.int .i64 0, .slice none 0 0] 49)) (w.heap.size + 1) (.slice am (q + 1) cm) (l ++ [(⟨5, 4, 9, .slice none 0 0, []⟩ : TV)])) := R1.out.below (balloc _ _)
      have PL2 : Hid ((u1.alloc (.cells #[.int .i64 0, .slice none 0 0] 49)).ownsRow v4.heap.size 49 2 (.slice pb q pk) q (plC ps)) := own_below PL1.out (balloc _ _)
      have hS2 : (fun w' => w'.cell? ⟨w.heap.size, 0, none⟩ = some (.int .i64 N) ∧ w'.cell? ⟨w.heap.size, 1, none⟩ = some (.int .i64 sy) ∧ w'.cell? ⟨w.heap.size, 2, none⟩ = some (.int .i64 la) ∧ w'.cell? ⟨w.heap.size, 3, none⟩ = some (.int .i64 mo) ∧ w'.cell? ⟨w.heap.size, 4, none⟩ = some (.slice ad n k)) (u1.alloc (.cells #[.int .i64 0, .slice none 0 0] 49)) := ⟨(O4.out.below G2.out).bc.cell 0, (O4.out.below G2.out).bc.cell 1, (O4.out.below G2.out).bc.cell 2, (O4.out.below G2.out).bc.cell 3, (O4.out.below G2.out).bc.cell 4⟩
      refine hK.out _ _ (fun _ => hS2) ?_
      clear hK K
      try simp only [Act.put, List.setIfInBounds_toArray, List.set_cons_zero, List.set_cons_succ]
      have su1 := G1.out.size
      refine RunsZ.one (i := 12) (by kernel_rfl) (nth_z rfl) (by rfl) (fun K hK => ?_)
      refine wp_append_at (u1.alloc (.cells #[.int .i64 0, .slice none 0 0] 49)) (.tmp 36) (.tmp 38) 41 (by rfl) v4.heap.size 49 ip _ 2 32 Tryz.underlying41 hip hp0 hp1 hp2 rfl (by omega) (.slice pb q pk) q (plC ps) (by rfl) PL2.out ⟨u1.heap.size, 0, none⟩ 1 1 [.int .i64 0, .slice none 0 0] (by rfl) rfl (cell_two _ _ _ _) (by intro u hu; simp at hu; rcases hu with rfl | rfl <;> rfl) (by unfold maxLen; omega) (by omega) (by simp; omega) ?_
      intro u7 w7 own7 gr7 at7
      obtain ⟨a7, c7, e7⟩ := own_form own7
      subst e7
      have G3 : Hid (Below v4.heap.size v4 w7) := G2.out.trans (gr_bel gr7 (fun k hk => (PL2.out.lt k hk).1) (by simp; omega))
      have R3 : Hid (OwnT w7 (w.heap.size + 1) (.slice am (q + 1) cm) (l ++ [(⟨5, 4, 9, .slice none 0 0, []⟩ : TV)])) := R2.out.keepP PL2.out gr7
      have hS3 : (fun w' => w'.cell? ⟨w.heap.size, 0, none⟩ = some (.int .i64 N) ∧ w'.cell? ⟨w.heap.size, 1, none⟩ = some (.int .i64 sy) ∧ w'.cell? ⟨w.heap.size, 2, none⟩ = some (.int .i64 la) ∧ w'.cell? ⟨w.heap.size, 3, none⟩ = some (.int .i64 mo) ∧ w'.cell? ⟨w.heap.size, 4, none⟩ = some (.slice ad n k)) w7 := ⟨(O4.out.below G3.out).bc.cell 0, (O4.out.below G3.out).bc.cell 1, (O4.out.below G3.out).bc.cell 2, (O4.out.below G3.out).bc.cell 3, (O4.out.below G3.out).bc.cell 4⟩
      clear own7 gr7 at7
      refine hK.out _ _ (fun _ => hS3) ?_
      clear hK K
      try simp only [Act.put, List.setIfInBounds_toArray, List.set_cons_zero, List.set_cons_succ]
      refine RunsZ.one (i := 13) (by kernel_rfl) (nth_z rfl) (by rfl) (fun K hK => ?_)
      go_simp
      refine (lall_no N sy la mo (.slice ad n k) res am (q + 1) cm (l ++ [(⟨5, 4, 9, .slice none 0 0, []⟩ : TV)]) _ _ _ _ (O4.out.below G3.out).ints KN.out.r6 KN.out.cfg R3.out.tks HLM.out (by omega) HMM.out (.inl HMF.out)).mono ?_
      rintro e u4 ⟨rfl, gg⟩
      have G4 : Hid (Below v4.heap.size v4 u4) := btrans G3.out gg
      have hS4 : (fun w' => w'.cell? ⟨w.heap.size, 0, none⟩ = some (.int .i64 N) ∧ w'.cell? ⟨w.heap.size, 1, none⟩ = some (.int .i64 sy) ∧ w'.cell? ⟨w.heap.size, 2, none⟩ = some (.int .i64 la) ∧ w'.cell? ⟨w.heap.size, 3, none⟩ = some (.int .i64 mo) ∧ w'.cell? ⟨w.heap.size, 4, none⟩ = some (.slice ad n k)) u4 := ⟨(O4.out.below G4.out).bc.cell 0, (O4.out.below G4.out).bc.cell 1, (O4.out.below G4.out).bc.cell 2, (O4.out.below G4.out).bc.cell 3, (O4.out.below G4.out).bc.cell 4⟩
      first | refine hK.out _ _ (fun _ => hS4) ?_ | (go_wp2_with fail; refine hK.out _ _ (fun _ => hS4) ?_)
      clear hK K gg
      try simp only [Act.put, List.setIfInBounds_toArray, List.set_cons_zero, List.set_cons_succ]
      refine RunsZ.take 12 (i := 14) (v := ?vz14) (nth_z rfl) (by kernel_rfl) (by kernel_rfl) (by kernel_rfl) (by kernel_rfl) (by kernel_rfl) (fun _ _ _ h => h) (Or.inl ⟨by rfl, ?yz14⟩) hS4 ?_
      case yz14 =>
        intro u hu
        try dsimp only at hu
        go_split_ands
        go_simp
        try with_reducible rfl
      simp only [Act.put, List.setIfInBounds_toArray, List.set_cons_zero, List.set_cons_succ]
      refine RunsZ.take 12 (i := 15) (v := ?vz15) (nth_z rfl) (by kernel_rfl) (by kernel_rfl) (by kernel_rfl) (by kernel_rfl) (by kernel_rfl) (fun _ _ _ h => h) (Or.inl ⟨by rfl, ?yz15⟩) hS4 ?_
      case yz15 =>
        intro u hu
        try dsimp only at hu
        go_split_ands
        go_simp
        try with_reducible rfl
      simp only [Act.put, List.setIfInBounds_toArray, List.set_cons_zero, List.set_cons_succ]
      refine RunsZ.take 12 (i := 16) (v := ?vz16) (nth_z rfl) (by kernel_rfl) (by kernel_rfl) (by kernel_rfl) (by kernel_rfl) (by kernel_rfl) (fun _ _ _ h => h) (Or.inl ⟨by rfl, ?yz16⟩) hS4 ?_
      case yz16 =>
        intro u hu
        try dsimp only at hu
        go_split_ands
        go_simp
        try with_reducible rfl
      simp only [Act.put, List.setIfInBounds_toArray, List.set_cons_zero, List.set_cons_succ]
      refine RunsZ.take 12 (i := 17) (v := ?vz17) (nth_z rfl) (by kernel_rfl) (by kernel_rfl) (by kernel_rfl) (by kernel_rfl) (by kernel_rfl) (fun _ _ _ h => h) (Or.inl ⟨by rfl, ?yz17⟩) hS4 ?_
      case yz17 =>
        intro u hu
        try dsimp only at hu
        go_split_ands
        go_simp
        try with_reducible rfl
      simp only [Act.put, List.setIfInBounds_toArray, List.set_cons_zero, List.set_cons_succ]
      refine RunsZ.take 12 (i := 18) (v := ?vz18) (nth_z rfl) (by kernel_rfl) (by kernel_rfl) (by kernel_rfl) (by kernel_rfl) (by kernel_rfl) (fun _ _ _ h => h) (Or.inl ⟨by rfl, ?yz18⟩) hS4 ?_
      case yz18 =>
        intro u hu
        try dsimp only at hu
        go_split_ands
        go_simp
        try with_reducible rfl
      simp only [Act.put, List.setIfInBounds_toArray, List.set_cons_zero, List.set_cons_succ]
      refine RunsZ.take 12 (i := 19) (v := ?vz19) (nth_z rfl) (by kernel_rfl) (by kernel_rfl) (by kernel_rfl) (by kernel_rfl) (by kernel_rfl) (fun _ _ _ h => h) (Or.inl ⟨by rfl, ?yz19⟩) hS4 ?_
      case yz19 =>
        intro u hu
        try dsimp only at hu
        go_split_ands
        go_simp
        try with_reducible rfl
      simp only [Act.put, List.setIfInBounds_toArray, List.set_cons_zero, List.set_cons_succ]
      refine RunsZ.take 12 (i := 20) (v := ?vz20) (nth_z rfl) (by kernel_rfl) (by kernel_rfl) (by kernel_rfl) (by kernel_rfl) (by kernel_rfl) (fun _ _ _ h => h) (Or.inl ⟨by rfl, ?yz20⟩) hS4 ?_
      case yz20 =>
        intro u hu
        try dsimp only at hu
        go_split_ands
        go_simp
        try with_reducible rfl
      simp only [Act.put, List.setIfInBounds_toArray, List.set_cons_zero, List.set_cons_succ]
      refine RunsZ.take 12 (i := 21) (v := ?vz21) (nth_z rfl) (by kernel_rfl) (by kernel_rfl) (by kernel_rfl) (by kernel_rfl) (by kernel_rfl) (fun _ _ _ h => h) (Or.inl ⟨by rfl, ?yz21⟩) hS4 ?_
      case yz21 =>
        intro u hu
        try dsimp only at hu
        go_split_ands
        go_simp
        try with_reducible rfl
      simp only [Act.put, List.setIfInBounds_toArray, List.set_cons_zero, List.set_cons_succ]
      refine RunsZ.take 12 (i := 22) (v := undef) (nth_z rfl) (by kernel_rfl) (by kernel_rfl) (by kernel_rfl) (by kernel_rfl) (by kernel_rfl) (fun _ _ _ h => h) (Or.inr ⟨by rfl, rfl⟩) hS4 ?_
      simp only [Act.put, List.setIfInBounds_toArray, List.set_cons_zero, List.set_cons_succ]
      refine RunsZ.take 12 (i := 23) (v := undef) (nth_z rfl) (by kernel_rfl) (by kernel_rfl) (by kernel_rfl) (by kernel_rfl) (by kernel_rfl) (fun _ _ _ h => h) (Or.inr ⟨by rfl, rfl⟩) hS4 ?_
      simp only [Act.put, List.setIfInBounds_toArray, List.set_cons_zero, List.set_cons_succ]
      refine RunsZ.take 12 (i := 24) (v := undef) (nth_z rfl) (by kernel_rfl) (by kernel_rfl) (by kernel_rfl) (by kernel_rfl) (by kernel_rfl) (fun _ _ _ h => h) (Or.inr ⟨by rfl, rfl⟩) hS4 ?_
      simp only [Act.put, List.setIfInBounds_toArray, List.set_cons_zero, List.set_cons_succ]
      refine RunsZ.take 12 (i := 25) (v := undef) (nth_z rfl) (by kernel_rfl) (by kernel_rfl) (by kernel_rfl) (by kernel_rfl) (by kernel_rfl) (fun _ _ _ h => h) (Or.inr ⟨by rfl, rfl⟩) hS4 ?_
      simp only [Act.put, List.setIfInBounds_toArray, List.set_cons_zero, List.set_cons_succ]
      refine RunsZ.take 12 (i := 26) (v := undef) (nth_z rfl) (by kernel_rfl) (by kernel_rfl) (by kernel_rfl) (by kernel_rfl) (by kernel_rfl) (fun _ _ _ h => h) (Or.inr ⟨by rfl, rfl⟩) hS4 ?_
      simp only [Act.put, List.setIfInBounds_toArray, List.set_cons_zero, List.set_cons_succ]
      refine RunsZ.take 12 (i := 27) (v := undef) (nth_z rfl) (by kernel_rfl) (by kernel_rfl) (by kernel_rfl) (by kernel_rfl) (by kernel_rfl) (fun _ _ _ h => h) (Or.inr ⟨by rfl, rfl⟩) hS4 ?_
      simp only [Act.put, List.setIfInBounds_toArray, List.set_cons_zero, List.set_cons_succ]
      refine RunsZ.take 12 (i := 28) (v := undef) (nth_z rfl) (by kernel_rfl) (by kernel_rfl) (by kernel_rfl) (by kernel_rfl) (by kernel_rfl) (fun _ _ _ h => h) (Or.inr ⟨by rfl, rfl⟩) hS4 ?_
      simp only [Act.put, List.setIfInBounds_toArray, List.set_cons_zero, List.set_cons_succ]
      refine RunsZ.take 12 (i := 29) (v := ?vz29) (nth_z rfl) (by kernel_rfl) (by kernel_rfl) (by kernel_rfl) (by kernel_rfl) (by kernel_rfl) (fun _ _ _ h => h) (Or.inl ⟨by rfl, ?yz29⟩) hS4 ?_
      case yz29 =>
        intro u hu
        try dsimp only at hu
        go_split_ands
        go_simp
        try with_reducible rfl
      simp only [Act.put, List.setIfInBounds_toArray, List.set_cons_zero, List.set_cons_succ]
      refine RunsZ.take 12 (i := 30) (v := ?vz30) (nth_z rfl) (by kernel_rfl) (by kernel_rfl) (by kernel_rfl) (by kernel_rfl) (by kernel_rfl) (fun _ _ _ h => h) (Or.inl ⟨by rfl, ?yz30⟩) hS4 ?_
      case yz30 =>
        intro u hu
        try dsimp only at hu
        go_split_ands
        go_simp
        try with_reducible rfl
      simp only [Act.put, List.setIfInBounds_toArray, List.set_cons_zero, List.set_cons_succ]
      refine RunsZ.take 12 (i := 31) (v := ?vz31) (nth_z rfl) (by kernel_rfl) (by kernel_rfl) (by kernel_rfl) (by kernel_rfl) (by kernel_rfl) (fun _ _ _ h => h) (Or.inl ⟨by rfl, ?yz31⟩) hS4 ?_
      case yz31 =>
        intro u hu
        try dsimp only at hu
        go_split_ands
        go_simp
        try with_reducible rfl
      simp only [Act.put, List.setIfInBounds_toArray, List.set_cons_zero, List.set_cons_succ]
      refine RunsZ.one (i := 32) (by kernel_rfl) (nth_z rfl) (by rfl) (fun K hK => ?_)
      go_simp
      refine (share_any (.slice none 0 0) [] _ (.inl ⟨rfl, _, _, rfl⟩) (by simp) (by simp)).mono ?_
      rintro e u6 ⟨rfl, gg⟩
      have G6 : Hid (Below v4.heap.size v4 u6) := btrans G4.out gg
      have hS6 : (fun w' => w'.cell? ⟨w.heap.size, 0, none⟩ = some (.int .i64 N) ∧ w'.cell? ⟨w.heap.size, 1, none⟩ = some (.int .i64 sy) ∧ w'.cell? ⟨w.heap.size, 2, none⟩ = some (.int .i64 la) ∧ w'.cell? ⟨w.heap.size, 3, none⟩ = some (.int .i64 mo) ∧ w'.cell? ⟨w.heap.size, 4, none⟩ = some (.slice ad n k)) u6 := ⟨(O4.out.below G6.out).bc.cell 0, (O4.out.below G6.out).bc.cell 1, (O4.out.below G6.out).bc.cell 2, (O4.out.below G6.out).bc.cell 3, (O4.out.below G6.out).bc.cell 4⟩
      first | refine hK.out _ _ (fun _ => hS6) ?_ | (go_wp2_with fail; refine hK.out _ _ (fun _ => hS6) ?_)
      clear hK K gg
      try simp only [Act.put, List.setIfInBounds_toArray, List.set_cons_zero, List.set_cons_succ]
      refine RunsZ.take 12 (i := 33) (v := ?vz33) (nth_z rfl) (by kernel_rfl) (by kernel_rfl) (by kernel_rfl) (by kernel_rfl) (by kernel_rfl) (fun _ _ _ h => h) (Or.inl ⟨by rfl, ?yz33⟩) hS6 ?_
      case yz33 =>
        intro u hu
        try dsimp only at hu
        go_split_ands
        go_simp
        try with_reducible rfl
      simp only [Act.put, List.setIfInBounds_toArray, List.set_cons_zero, List.set_cons_succ]
      refine RunsZ.take 12 (i := 34) (v := ?vz34) (nth_z rfl) (by kernel_rfl) (by kernel_rfl) (by kernel_rfl) (by kernel_rfl) (by kernel_rfl) (fun _ _ _ h => h) (Or.inl ⟨by rfl, ?yz34⟩) hS6 ?_
      case yz34 =>
        intro u hu
        try dsimp only at hu
        go_split_ands
        go_simp
        try with_reducible rfl
      simp only [Act.put, List.setIfInBounds_toArray, List.set_cons_zero, List.set_cons_succ]
      refine RunsZ.one (i := 35) (by kernel_rfl) (nth_z rfl) (by rfl) (fun K hK => ?_)
      go_simp
      refine hK.out _ _ (fun h => absurd (by decide) h) ?_
      clear hK K
      try simp only [Act.put, List.setIfInBounds_toArray, List.set_cons_zero, List.set_cons_succ]
      refine RunsZ.done (by kernel_rfl) (NoPanic.normal ?_)
      go_wp2_with fail
      go_ret
      exact ⟨rfl, (O4.out.below G6.out).bel⟩
    · have z0 : ((q : Int) == 0) = false := by simp [hq0]
      obtain ⟨gp, ep, hpk, hpk2⟩ : ∃ gp, pb = some ⟨gp, 0, none⟩ ∧ q ≤ pk ∧ pk ≤ 9223372036854775807 := own_at PL9.out (by omega)
      subst ep
      have hq1 : (1 : Int) ≤ (q : Int) := by omega
      have hq2 : (q : Int) ≤ (pk : Int) := by omega
      have hq3 : (1 : Int) ≤ (pk : Int) := by omega
      have HP1 : pk = 1 ∨ ¬ pk = 1 := by omega
      rcases HP1 with hk1 | hk1
      · subst hk1
        refine wp_region_noPanic (wp_region_runsZ (S := (fun w' => w'.cell? ⟨w.heap.size, 0, none⟩ = some (.int .i64 N) ∧ w'.cell? ⟨w.heap.size, 1, none⟩ = some (.int .i64 sy) ∧ w'.cell? ⟨w.heap.size, 2, none⟩ = some (.int .i64 la) ∧ w'.cell? ⟨w.heap.size, 3, none⟩ = some (.int .i64 mo) ∧ w'.cell? ⟨w.heap.size, 4, none⟩ = some (.slice ad n k))) (Z := [35]) (by kernel_rfl) ?_)
        have G0 : Hid (Below v4.heap.size v4 wc.drew) := btrans G9.out (bdrew _)
        have R0 : Hid (OwnT wc.drew (w.heap.size + 1) (.slice am (q + 1) cm) (l ++ [(⟨5, 4, 9, .slice none 0 0, []⟩ : TV)])) := R9.out.below (bdrew _)
        have PL0 : Hid (wc.drew.ownsRow v4.heap.size 49 2 (.slice (some ⟨gp, 0, none⟩) q 1) q (plC ps)) := own_below PL9.out (bdrew _)
        have hS0 : (fun w' => w'.cell? ⟨w.heap.size, 0, none⟩ = some (.int .i64 N) ∧ w'.cell? ⟨w.heap.size, 1, none⟩ = some (.int .i64 sy) ∧ w'.cell? ⟨w.heap.size, 2, none⟩ = some (.int .i64 la) ∧ w'.cell? ⟨w.heap.size, 3, none⟩ = some (.int .i64 mo) ∧ w'.cell? ⟨w.heap.size, 4, none⟩ = some (.slice ad n k)) wc.drew := ⟨(O4.out.below G0.out).bc.cell 0, (O4.out.below G0.out).bc.cell 1, (O4.out.below G0.out).bc.cell 2, (O4.out.below G0.out).bc.cell 3, (O4.out.below G0.out).bc.cell 4⟩
        generalize wc.drew = u0 at G0 R0 PL0 hS0 ⊢
        refine RunsZ.take 12 (i := 0) (v := ?vp0) (nth_z rfl) (by kernel_rfl) (by kernel_rfl) (by kernel_rfl) (by kernel_rfl) (by kernel_rfl) (fun _ _ _ h => h) (Or.inl ⟨by rfl, ?yp0⟩) hS0 ?_
        case yp0 =>
          intro u hu
          try dsimp only at hu
          go_split_ands
          go_simp
          try with_reducible rfl
        simp only [Act.put, List.setIfInBounds_toArray, List.set_cons_zero, List.set_cons_succ]
        refine RunsZ.take 12 (i := 1) (v := ?vp1) (nth_z rfl) (by kernel_rfl) (by kernel_rfl) (by kernel_rfl) (by kernel_rfl) (by kernel_rfl) (fun _ _ _ h => h) (Or.inl ⟨by rfl, ?yp1⟩) hS0 ?_
        case yp1 =>
          intro u hu
          try dsimp only at hu
          go_split_ands
          go_simp
          try with_reducible rfl
        simp only [Act.put, List.setIfInBounds_toArray, List.set_cons_zero, List.set_cons_succ]
        refine RunsZ.take 12 (i := 2) (v := ?vp2) (nth_z rfl) (by kernel_rfl) (by kernel_rfl) (by kernel_rfl) (by kernel_rfl) (by kernel_rfl) (fun _ _ _ h => h) (Or.inl ⟨by rfl, ?yp2⟩) hS0 ?_
        case yp2 =>
          intro u hu
          try dsimp only at hu
          go_split_ands
          go_simp
          try with_reducible rfl
        simp only [Act.put, List.setIfInBounds_toArray, List.set_cons_zero, List.set_cons_succ]
        refine RunsZ.one (i := 3) (by kernel_rfl) (nth_z rfl) (by rfl) (fun K hK => ?_)
        go_simp
        refine (lall_no N sy la mo (.slice ad n k) res am (q + 1) cm (l ++ [(⟨5, 4, 9, .slice none 0 0, []⟩ : TV)]) _ _ _ _ (O4.out.below G0.out).ints KN.out.r6 KN.out.cfg R0.out.tks HLM.out (by omega) HMM.out (.inl HMF.out)).mono ?_
        rintro e u1 ⟨rfl, gg⟩
        have G1 : Hid (Below v4.heap.size v4 u1) := btrans G0.out gg
        have R1 : Hid (OwnT u1 (w.heap.size + 1) (.slice am (q + 1) cm) (l ++ [(⟨5, 4, 9, .slice none 0 0, []⟩ : TV)])) := R0.out.below gg
        have PL1 : Hid (u1.ownsRow v4.heap.size 49 2 (.slice (some ⟨gp, 0, none⟩) q 1) q (plC ps)) := own_below PL0.out gg
        have hS1 : (fun w' => w'.cell? ⟨w.heap.size, 0, none⟩ = some (.int .i64 N) ∧ w'.cell? ⟨w.heap.size, 1, none⟩ = some (.int .i64 sy) ∧ w'.cell? ⟨w.heap.size, 2, none⟩ = some (.int .i64 la) ∧ w'.cell? ⟨w.heap.size, 3, none⟩ = some (.int .i64 mo) ∧ w'.cell? ⟨w.heap.size, 4, none⟩ = some (.slice ad n k)) u1 := ⟨(O4.out.below G1.out).bc.cell 0, (O4.out.below G1.out).bc.cell 1, (O4.out.below G1.out).bc.cell 2, (O4.out.below G1.out).bc.cell 3, (O4.out.below G1.out).bc.cell 4⟩
        first | refine hK.out _ _ (fun _ => hS1) ?_ | (go_wp2_with fail; refine hK.out _ _ (fun _ => hS1) ?_)
        clear hK K gg
        try simp only [Act.put, List.setIfInBounds_toArray, List.set_cons_zero, List.set_cons_succ]
        refine RunsZ.take 12 (i := 4) (v := ?vp4) (nth_z rfl) (by kernel_rfl) (by kernel_rfl) (by kernel_rfl) (by kernel_rfl) (by kernel_rfl) (fun _ _ _ h => h) (Or.inl ⟨by rfl, ?yp4⟩) hS1 ?_
        case yp4 =>
          intro u hu
          try dsimp only at hu
          go_split_ands
          go_simp
          try with_reducible rfl
        simp only [Act.put, List.setIfInBounds_toArray, List.set_cons_zero, List.set_cons_succ]
        refine RunsZ.take 12 (i := 5) (v := ?vp5) (nth_z rfl) (by kernel_rfl) (by kernel_rfl) (by kernel_rfl) (by kernel_rfl) (by kernel_rfl) (fun _ _ _ h => h) (Or.inl ⟨by rfl, ?yp5⟩) hS1 ?_
        case yp5 =>
          intro u hu
          try dsimp only at hu
          go_split_ands
          go_simp
          try with_reducible rfl
        simp only [Act.put, List.setIfInBounds_toArray, List.set_cons_zero, List.set_cons_succ]
        refine RunsZ.take 12 (i := 6) (v := ?vp6) (nth_z rfl) (by kernel_rfl) (by kernel_rfl) (by kernel_rfl) (by kernel_rfl) (by kernel_rfl) (fun _ _ _ h => h) (Or.inl ⟨by rfl, ?yp6⟩) hS1 ?_
        case yp6 =>
          intro u hu
          try dsimp only at hu
          go_split_ands
          go_simp
          try with_reducible rfl
        simp only [Act.put, List.setIfInBounds_toArray, List.set_cons_zero, List.set_cons_succ]
        refine RunsZ.take 12 (i := 7) (v := ?vp7) (nth_z rfl) (by kernel_rfl) (by kernel_rfl) (by kernel_rfl) (by kernel_rfl) (by kernel_rfl) (fun _ _ _ h => h) (Or.inl ⟨by rfl, ?yp7⟩) hS1 ?_
        case yp7 =>
          intro u hu
          try dsimp only at hu
          go_split_ands
          go_simp
          try with_reducible rfl
        simp only [Act.put, List.setIfInBounds_toArray, List.set_cons_zero, List.set_cons_succ]
        refine RunsZ.take 12 (i := 8) (v := ?vp8) (nth_z rfl) (by kernel_rfl) (by kernel_rfl) (by kernel_rfl) (by kernel_rfl) (by kernel_rfl) (fun _ _ _ h => h) (Or.inl ⟨by rfl, ?yp8⟩) hS1 ?_
        case yp8 =>
          intro u hu
          try dsimp only at hu
          go_split_ands
          go_simp
          try with_reducible rfl
        simp only [Act.put, List.setIfInBounds_toArray, List.set_cons_zero, List.set_cons_succ]
        refine RunsZ.take 12 (i := 9) (v := ?vp9) (nth_z rfl) (by kernel_rfl) (by kernel_rfl) (by kernel_rfl) (by kernel_rfl) (by kernel_rfl) (fun _ _ _ h => h) (Or.inl ⟨by rfl, ?yp9⟩) hS1 ?_
        case yp9 =>
          intro u hu
          try dsimp only at hu
          go_split_ands
          go_simp
          try with_reducible rfl
        simp only [Act.put, List.setIfInBounds_toArray, List.set_cons_zero, List.set_cons_succ]
        refine RunsZ.take 12 (i := 10) (v := ?vp10) (nth_z rfl) (by kernel_rfl) (by kernel_rfl) (by kernel_rfl) (by kernel_rfl) (by kernel_rfl) (fun _ _ _ h => h) (Or.inl ⟨by rfl, ?yp10⟩) hS1 ?_
        case yp10 =>
          intro u hu
          try dsimp only at hu
          go_split_ands
          go_simp
          try with_reducible rfl
        simp only [Act.put, List.setIfInBounds_toArray, List.set_cons_zero, List.set_cons_succ]
        refine RunsZ.one (i := 11) (by kernel_rfl) (nth_z rfl) (by rfl) (fun K hK => ?_)
        go_simp
        have G2 : Hid (Below v4.heap.size v4 (u1.alloc (.cells #[.int .i64 0, .slice none 0 0] 49))) := btrans G1.out (balloc _ _)
        have R2 : Hid (OwnT (u1.alloc (.cells #[.int .i64 0, .slice none 0 0] 49)) (w.heap.size + 1) (.slice am (q + 1) cm) (l ++ [(⟨5, 4, 9, .slice none 0 0, []⟩ : TV)])) := R1.out.below (balloc _ _)
        have PL2 : Hid ((u1.alloc (.cells #[.int .i64 0, .slice none 0 0] 49)).ownsRow v4.heap.size 49 2 (.slice (some ⟨gp, 0, none⟩) q 1) q (plC ps)) := own_below PL1.out (balloc _ _)
        have hS2 : (fun w' => w'.cell? ⟨w.heap.size, 0, none⟩ = some (.int .i64 N) ∧ w'.cell? ⟨w.heap.size, 1, none⟩ = some (.int .i64 sy) ∧ w'.cell? ⟨w.heap.size, 2, none⟩ = some (.int .i64 la) ∧ w'.cell? ⟨w.heap.size, 3, none⟩ = some (.int .i64 mo) ∧ w'.cell? ⟨w.heap.size, 4, none⟩ = some (.slice ad n k)) (u1.alloc (.cells #[.int .i64 0, .slice none 0 0] 49)) := ⟨(O4.out.below G2.out).bc.cell 0, (O4.out.below G2.out).bc.cell 1, (O4.out.below G2.out).bc.cell 2, (O4.out.below G2.out).bc.cell 3, (O4.out.below G2.out).bc.cell 4⟩
        refine hK.out _ _ (fun _ => hS2) ?_
        clear hK K
        try simp only [Act.put, List.setIfInBounds_toArray, List.set_cons_zero, List.set_cons_succ]
        have su1 := G1.out.size
        refine RunsZ.one (i := 12) (by kernel_rfl) (nth_z rfl) (by rfl) (fun K hK => ?_)
        refine wp_append_at (u1.alloc (.cells #[.int .i64 0, .slice none 0 0] 49)) (.tmp 36) (.tmp 38) 41 (by rfl) v4.heap.size 49 ip _ 2 32 Tryz.underlying41 hip hp0 hp1 hp2 rfl (by omega) (.slice (some ⟨gp, 0, none⟩) q 1) q (plC ps) (by rfl) PL2.out ⟨u1.heap.size, 0, none⟩ 1 1 [.int .i64 0, .slice none 0 0] (by rfl) rfl (cell_two _ _ _ _) (by intro u hu; simp at hu; rcases hu with rfl | rfl <;> rfl) (by unfold maxLen; omega) (by omega) (by simp; omega) ?_
        intro u7 w7 own7 gr7 at7
        obtain ⟨a7, c7, e7⟩ := own_form own7
        subst e7
        have G3 : Hid (Below v4.heap.size v4 w7) := G2.out.trans (gr_bel gr7 (fun k hk => (PL2.out.lt k hk).1) (by simp; omega))
        have R3 : Hid (OwnT w7 (w.heap.size + 1) (.slice am (q + 1) cm) (l ++ [(⟨5, 4, 9, .slice none 0 0, []⟩ : TV)])) := R2.out.keepP PL2.out gr7
        have hS3 : (fun w' => w'.cell? ⟨w.heap.size, 0, none⟩ = some (.int .i64 N) ∧ w'.cell? ⟨w.heap.size, 1, none⟩ = some (.int .i64 sy) ∧ w'.cell? ⟨w.heap.size, 2, none⟩ = some (.int .i64 la) ∧ w'.cell? ⟨w.heap.size, 3, none⟩ = some (.int .i64 mo) ∧ w'.cell? ⟨w.heap.size, 4, none⟩ = some (.slice ad n k)) w7 := ⟨(O4.out.below G3.out).bc.cell 0, (O4.out.below G3.out).bc.cell 1, (O4.out.below G3.out).bc.cell 2, (O4.out.below G3.out).bc.cell 3, (O4.out.below G3.out).bc.cell 4⟩
        clear own7 gr7 at7
        refine hK.out _ _ (fun _ => hS3) ?_
        clear hK K
        try simp only [Act.put, List.setIfInBounds_toArray, List.set_cons_zero, List.set_cons_succ]
        refine RunsZ.one (i := 13) (by kernel_rfl) (nth_z rfl) (by rfl) (fun K hK => ?_)
        go_simp
        refine (lall_no N sy la mo (.slice ad n k) res am (q + 1) cm (l ++ [(⟨5, 4, 9, .slice none 0 0, []⟩ : TV)]) _ _ _ _ (O4.out.below G3.out).ints KN.out.r6 KN.out.cfg R3.out.tks HLM.out (by omega) HMM.out (.inl HMF.out)).mono ?_
        rintro e u4 ⟨rfl, gg⟩
        have G4 : Hid (Below v4.heap.size v4 u4) := btrans G3.out gg
        have hS4 : (fun w' => w'.cell? ⟨w.heap.size, 0, none⟩ = some (.int .i64 N) ∧ w'.cell? ⟨w.heap.size, 1, none⟩ = some (.int .i64 sy) ∧ w'.cell? ⟨w.heap.size, 2, none⟩ = some (.int .i64 la) ∧ w'.cell? ⟨w.heap.size, 3, none⟩ = some (.int .i64 mo) ∧ w'.cell? ⟨w.heap.size, 4, none⟩ = some (.slice ad n k)) u4 := ⟨(O4.out.below G4.out).bc.cell 0, (O4.out.below G4.out).bc.cell 1, (O4.out.below G4.out).bc.cell 2, (O4.out.below G4.out).bc.cell 3, (O4.out.below G4.out).bc.cell 4⟩
        first | refine hK.out _ _ (fun _ => hS4) ?_ | (go_wp2_with fail; refine hK.out _ _ (fun _ => hS4) ?_)
        clear hK K gg
        try simp only [Act.put, List.setIfInBounds_toArray, List.set_cons_zero, List.set_cons_succ]
        refine RunsZ.take 12 (i := 14) (v := ?vp14) (nth_z rfl) (by kernel_rfl) (by kernel_rfl) (by kernel_rfl) (by kernel_rfl) (by kernel_rfl) (fun _ _ _ h => h) (Or.inl ⟨by rfl, ?yp14⟩) hS4 ?_
        case yp14 =>
          intro u hu
          try dsimp only at hu
          go_split_ands
          go_simp
          try with_reducible rfl
        simp only [Act.put, List.setIfInBounds_toArray, List.set_cons_zero, List.set_cons_succ]
        refine RunsZ.take 12 (i := 15) (v := ?vp15) (nth_z rfl) (by kernel_rfl) (by kernel_rfl) (by kernel_rfl) (by kernel_rfl) (by kernel_rfl) (fun _ _ _ h => h) (Or.inl ⟨by rfl, ?yp15⟩) hS4 ?_
        case yp15 =>
          intro u hu
          try dsimp only at hu
          go_split_ands
          go_simp
          try with_reducible rfl
        simp only [Act.put, List.setIfInBounds_toArray, List.set_cons_zero, List.set_cons_succ]
        refine RunsZ.take 12 (i := 16) (v := ?vp16) (nth_z rfl) (by kernel_rfl) (by kernel_rfl) (by kernel_rfl) (by kernel_rfl) (by kernel_rfl) (fun _ _ _ h => h) (Or.inl ⟨by rfl, ?yp16⟩) hS4 ?_
        case yp16 =>
          intro u hu
          try dsimp only at hu
          go_split_ands
          go_simp
          try with_reducible rfl
        simp only [Act.put, List.setIfInBounds_toArray, List.set_cons_zero, List.set_cons_succ]
        refine RunsZ.take 12 (i := 17) (v := ?vp17) (nth_z rfl) (by kernel_rfl) (by kernel_rfl) (by kernel_rfl) (by kernel_rfl) (by kernel_rfl) (fun _ _ _ h => h) (Or.inl ⟨by rfl, ?yp17⟩) hS4 ?_
        case yp17 =>
          intro u hu
          try dsimp only at hu
          go_split_ands
          go_simp
          try with_reducible rfl
        simp only [Act.put, List.setIfInBounds_toArray, List.set_cons_zero, List.set_cons_succ]
        refine RunsZ.take 12 (i := 18) (v := ?vp18) (nth_z rfl) (by kernel_rfl) (by kernel_rfl) (by kernel_rfl) (by kernel_rfl) (by kernel_rfl) (fun _ _ _ h => h) (Or.inl ⟨by rfl, ?yp18⟩) hS4 ?_
        case yp18 =>
          intro u hu
          try dsimp only at hu
          go_split_ands
          go_simp
          try with_reducible rfl
        simp only [Act.put, List.setIfInBounds_toArray, List.set_cons_zero, List.set_cons_succ]
        refine RunsZ.take 12 (i := 19) (v := ?vp19) (nth_z rfl) (by kernel_rfl) (by kernel_rfl) (by kernel_rfl) (by kernel_rfl) (by kernel_rfl) (fun _ _ _ h => h) (Or.inl ⟨by rfl, ?yp19⟩) hS4 ?_
        case yp19 =>
          intro u hu
          try dsimp only at hu
          go_split_ands
          go_simp
          try with_reducible rfl
        simp only [Act.put, List.setIfInBounds_toArray, List.set_cons_zero, List.set_cons_succ]
        refine RunsZ.take 12 (i := 20) (v := ?vp20) (nth_z rfl) (by kernel_rfl) (by kernel_rfl) (by kernel_rfl) (by kernel_rfl) (by kernel_rfl) (fun _ _ _ h => h) (Or.inl ⟨by rfl, ?yp20⟩) hS4 ?_
        case yp20 =>
          intro u hu
          try dsimp only at hu
          go_split_ands
          go_simp
          try with_reducible rfl
        simp only [Act.put, List.setIfInBounds_toArray, List.set_cons_zero, List.set_cons_succ]
        refine RunsZ.take 12 (i := 21) (v := ?vp21) (nth_z rfl) (by kernel_rfl) (by kernel_rfl) (by kernel_rfl) (by kernel_rfl) (by kernel_rfl) (fun _ _ _ h => h) (Or.inl ⟨by rfl, ?yp21⟩) hS4 ?_
        case yp21 =>
          intro u hu
          try dsimp only at hu
          go_split_ands
          go_simp
          try with_reducible rfl
        simp only [Act.put, List.setIfInBounds_toArray, List.set_cons_zero, List.set_cons_succ]
        refine RunsZ.take 12 (i := 22) (v := ?vp22) (nth_z rfl) (by kernel_rfl) (by kernel_rfl) (by kernel_rfl) (by kernel_rfl) (by kernel_rfl) (fun _ _ _ h => h) (Or.inl ⟨by rfl, ?yp22⟩) hS4 ?_
        case yp22 =>
          intro u hu
          try dsimp only at hu
          go_split_ands
          go_simp
          try with_reducible rfl
        simp only [Act.put, List.setIfInBounds_toArray, List.set_cons_zero, List.set_cons_succ]
        refine RunsZ.take 12 (i := 23) (v := ?vp23) (nth_z rfl) (by kernel_rfl) (by kernel_rfl) (by kernel_rfl) (by kernel_rfl) (by kernel_rfl) (fun _ _ _ h => h) (Or.inl ⟨by rfl, ?yp23⟩) hS4 ?_
        case yp23 =>
          intro u hu
          try dsimp only at hu
          go_split_ands
          go_simp
          try with_reducible rfl
        simp only [Act.put, List.setIfInBounds_toArray, List.set_cons_zero, List.set_cons_succ]
        refine RunsZ.take 12 (i := 24) (v := ?vp24) (nth_z rfl) (by kernel_rfl) (by kernel_rfl) (by kernel_rfl) (by kernel_rfl) (by kernel_rfl) (fun _ _ _ h => h) (Or.inl ⟨by rfl, ?yp24⟩) hS4 ?_
        case yp24 =>
          intro u hu
          try dsimp only at hu
          go_split_ands
          go_simp
          try with_reducible rfl
        simp only [Act.put, List.setIfInBounds_toArray, List.set_cons_zero, List.set_cons_succ]
        refine RunsZ.take 12 (i := 25) (v := ?vp25) (nth_z rfl) (by kernel_rfl) (by kernel_rfl) (by kernel_rfl) (by kernel_rfl) (by kernel_rfl) (fun _ _ _ h => h) (Or.inl ⟨by rfl, ?yp25⟩) hS4 ?_
        case yp25 =>
          intro u hu
          try dsimp only at hu
          go_split_ands
          go_simp
          try with_reducible rfl
        simp only [Act.put, List.setIfInBounds_toArray, List.set_cons_zero, List.set_cons_succ]
        refine RunsZ.one (i := 26) (by kernel_rfl) (nth_z rfl) (by rfl) (fun K hK => ?_)
        go_simp
        refine (lall_no N sy la mo (.slice ad n k) res b (q) kb l _ _ _ _ (O4.out.below G4.out).ints KN.out.r6 KN.out.cfg (O4.out.below G4.out).own.tks KN.out.lq (by omega) KN.out.ms (.inr (by omega))).mono ?_
        rintro e u5 ⟨rfl, gg⟩
        have G5' : Hid (Below v4.heap.size v4 u5) := btrans G4.out gg
        clear G5
        have G5 := G5'
        have hS5 : (fun w' => w'.cell? ⟨w.heap.size, 0, none⟩ = some (.int .i64 N) ∧ w'.cell? ⟨w.heap.size, 1, none⟩ = some (.int .i64 sy) ∧ w'.cell? ⟨w.heap.size, 2, none⟩ = some (.int .i64 la) ∧ w'.cell? ⟨w.heap.size, 3, none⟩ = some (.int .i64 mo) ∧ w'.cell? ⟨w.heap.size, 4, none⟩ = some (.slice ad n k)) u5 := ⟨(O4.out.below G5.out).bc.cell 0, (O4.out.below G5.out).bc.cell 1, (O4.out.below G5.out).bc.cell 2, (O4.out.below G5.out).bc.cell 3, (O4.out.below G5.out).bc.cell 4⟩
        first | refine hK.out _ _ (fun _ => hS5) ?_ | (go_wp2_with fail; refine hK.out _ _ (fun _ => hS5) ?_)
        clear hK K gg
        try simp only [Act.put, List.setIfInBounds_toArray, List.set_cons_zero, List.set_cons_succ]
        refine RunsZ.take 12 (i := 27) (v := ?vp27) (nth_z rfl) (by kernel_rfl) (by kernel_rfl) (by kernel_rfl) (by kernel_rfl) (by kernel_rfl) (fun _ _ _ h => h) (Or.inl ⟨by rfl, ?yp27⟩) hS5 ?_
        case yp27 =>
          intro u hu
          try dsimp only at hu
          go_split_ands
          go_simp
          try with_reducible rfl
        simp only [Act.put, List.setIfInBounds_toArray, List.set_cons_zero, List.set_cons_succ]
        refine RunsZ.take 12 (i := 28) (v := ?vp28) (nth_z rfl) (by kernel_rfl) (by kernel_rfl) (by kernel_rfl) (by kernel_rfl) (by kernel_rfl) (fun _ _ _ h => h) (Or.inl ⟨by rfl, ?yp28⟩) hS5 ?_
        case yp28 =>
          intro u hu
          try dsimp only at hu
          go_split_ands
          go_simp
          try with_reducible rfl
        simp only [Act.put, List.setIfInBounds_toArray, List.set_cons_zero, List.set_cons_succ]
        refine RunsZ.take 12 (i := 29) (v := ?vp29) (nth_z rfl) (by kernel_rfl) (by kernel_rfl) (by kernel_rfl) (by kernel_rfl) (by kernel_rfl) (fun _ _ _ h => h) (Or.inl ⟨by rfl, ?yp29⟩) hS5 ?_
        case yp29 =>
          intro u hu
          try dsimp only at hu
          go_split_ands
          go_simp
          try with_reducible rfl
        simp only [Act.put, List.setIfInBounds_toArray, List.set_cons_zero, List.set_cons_succ]
        refine RunsZ.take 12 (i := 30) (v := ?vp30) (nth_z rfl) (by kernel_rfl) (by kernel_rfl) (by kernel_rfl) (by kernel_rfl) (by kernel_rfl) (fun _ _ _ h => h) (Or.inl ⟨by rfl, ?yp30⟩) hS5 ?_
        case yp30 =>
          intro u hu
          try dsimp only at hu
          go_split_ands
          go_simp
          try with_reducible rfl
        simp only [Act.put, List.setIfInBounds_toArray, List.set_cons_zero, List.set_cons_succ]
        refine RunsZ.take 12 (i := 31) (v := ?vp31) (nth_z rfl) (by kernel_rfl) (by kernel_rfl) (by kernel_rfl) (by kernel_rfl) (by kernel_rfl) (fun _ _ _ h => h) (Or.inl ⟨by rfl, ?yp31⟩) hS5 ?_
        case yp31 =>
          intro u hu
          try dsimp only at hu
          go_split_ands
          go_simp
          try with_reducible rfl
        simp only [Act.put, List.setIfInBounds_toArray, List.set_cons_zero, List.set_cons_succ]
        refine RunsZ.one (i := 32) (by kernel_rfl) (nth_z rfl) (by rfl) (fun K hK => ?_)
        go_simp
        refine (share_any (.slice none 0 0) [] _ (.inl ⟨rfl, _, _, rfl⟩) (by simp) (by simp)).mono ?_
        rintro e u6 ⟨rfl, gg⟩
        have G6 : Hid (Below v4.heap.size v4 u6) := btrans G5.out gg
        have hS6 : (fun w' => w'.cell? ⟨w.heap.size, 0, none⟩ = some (.int .i64 N) ∧ w'.cell? ⟨w.heap.size, 1, none⟩ = some (.int .i64 sy) ∧ w'.cell? ⟨w.heap.size, 2, none⟩ = some (.int .i64 la) ∧ w'.cell? ⟨w.heap.size, 3, none⟩ = some (.int .i64 mo) ∧ w'.cell? ⟨w.heap.size, 4, none⟩ = some (.slice ad n k)) u6 := ⟨(O4.out.below G6.out).bc.cell 0, (O4.out.below G6.out).bc.cell 1, (O4.out.below G6.out).bc.cell 2, (O4.out.below G6.out).bc.cell 3, (O4.out.below G6.out).bc.cell 4⟩
        first | refine hK.out _ _ (fun _ => hS6) ?_ | (go_wp2_with fail; refine hK.out _ _ (fun _ => hS6) ?_)
        clear hK K gg
        try simp only [Act.put, List.setIfInBounds_toArray, List.set_cons_zero, List.set_cons_succ]
        refine RunsZ.take 12 (i := 33) (v := ?vp33) (nth_z rfl) (by kernel_rfl) (by kernel_rfl) (by kernel_rfl) (by kernel_rfl) (by kernel_rfl) (fun _ _ _ h => h) (Or.inl ⟨by rfl, ?yp33⟩) hS6 ?_
        case yp33 =>
          intro u hu
          try dsimp only at hu
          go_split_ands
          go_simp
          try with_reducible rfl
        simp only [Act.put, List.setIfInBounds_toArray, List.set_cons_zero, List.set_cons_succ]
        refine RunsZ.take 12 (i := 34) (v := ?vp34) (nth_z rfl) (by kernel_rfl) (by kernel_rfl) (by kernel_rfl) (by kernel_rfl) (by kernel_rfl) (fun _ _ _ h => h) (Or.inl ⟨by rfl, ?yp34⟩) hS6 ?_
        case yp34 =>
          intro u hu
          try dsimp only at hu
          go_split_ands
          go_simp
          try with_reducible rfl
        simp only [Act.put, List.setIfInBounds_toArray, List.set_cons_zero, List.set_cons_succ]
        refine RunsZ.one (i := 35) (by kernel_rfl) (nth_z rfl) (by rfl) (fun K hK => ?_)
        go_simp
        refine hK.out _ _ (fun h => absurd (by decide) h) ?_
        clear hK K
        try simp only [Act.put, List.setIfInBounds_toArray, List.set_cons_zero, List.set_cons_succ]
        refine RunsZ.done (by kernel_rfl) (NoPanic.normal ?_)
        go_wp2_with fail
        go_ret
        exact ⟨rfl, (O4.out.below G6.out).bel⟩
      · refine wp_region_noPanic (wp_region_runsZ (S := (fun w' => w'.cell? ⟨w.heap.size, 0, none⟩ = some (.int .i64 N) ∧ w'.cell? ⟨w.heap.size, 1, none⟩ = some (.int .i64 sy) ∧ w'.cell? ⟨w.heap.size, 2, none⟩ = some (.int .i64 la) ∧ w'.cell? ⟨w.heap.size, 3, none⟩ = some (.int .i64 mo) ∧ w'.cell? ⟨w.heap.size, 4, none⟩ = some (.slice ad n k))) (Z := [35]) (by kernel_rfl) ?_)
        have G0 : Hid (Below v4.heap.size v4 wc.drew) := btrans G9.out (bdrew _)
        have R0 : Hid (OwnT wc.drew (w.heap.size + 1) (.slice am (q + 1) cm) (l ++ [(⟨5, 4, 9, .slice none 0 0, []⟩ : TV)])) := R9.out.below (bdrew _)
        have PL0 : Hid (wc.drew.ownsRow v4.heap.size 49 2 (.slice (some ⟨gp, 0, none⟩) q pk) q (plC ps)) := own_below PL9.out (bdrew _)
        have hS0 : (fun w' => w'.cell? ⟨w.heap.size, 0, none⟩ = some (.int .i64 N) ∧ w'.cell? ⟨w.heap.size, 1, none⟩ = some (.int .i64 sy) ∧ w'.cell? ⟨w.heap.size, 2, none⟩ = some (.int .i64 la) ∧ w'.cell? ⟨w.heap.size, 3, none⟩ = some (.int .i64 mo) ∧ w'.cell? ⟨w.heap.size, 4, none⟩ = some (.slice ad n k)) wc.drew := ⟨(O4.out.below G0.out).bc.cell 0, (O4.out.below G0.out).bc.cell 1, (O4.out.below G0.out).bc.cell 2, (O4.out.below G0.out).bc.cell 3, (O4.out.below G0.out).bc.cell 4⟩
        generalize wc.drew = u0 at G0 R0 PL0 hS0 ⊢
        refine RunsZ.take 12 (i := 0) (v := ?vr0) (nth_z rfl) (by kernel_rfl) (by kernel_rfl) (by kernel_rfl) (by kernel_rfl) (by kernel_rfl) (fun _ _ _ h => h) (Or.inl ⟨by rfl, ?yr0⟩) hS0 ?_
        case yr0 =>
          intro u hu
          try dsimp only at hu
          go_split_ands
          go_simp
          try with_reducible rfl
        simp only [Act.put, List.setIfInBounds_toArray, List.set_cons_zero, List.set_cons_succ]
        refine RunsZ.take 12 (i := 1) (v := ?vr1) (nth_z rfl) (by kernel_rfl) (by kernel_rfl) (by kernel_rfl) (by kernel_rfl) (by kernel_rfl) (fun _ _ _ h => h) (Or.inl ⟨by rfl, ?yr1⟩) hS0 ?_
        case yr1 =>
          intro u hu
          try dsimp only at hu
          go_split_ands
          go_simp
          try with_reducible rfl
        simp only [Act.put, List.setIfInBounds_toArray, List.set_cons_zero, List.set_cons_succ]
        refine RunsZ.take 12 (i := 2) (v := ?vr2) (nth_z rfl) (by kernel_rfl) (by kernel_rfl) (by kernel_rfl) (by kernel_rfl) (by kernel_rfl) (fun _ _ _ h => h) (Or.inl ⟨by rfl, ?yr2⟩) hS0 ?_
        case yr2 =>
          intro u hu
          try dsimp only at hu
          go_split_ands
          go_simp
          try with_reducible rfl
        simp only [Act.put, List.setIfInBounds_toArray, List.set_cons_zero, List.set_cons_succ]
        refine RunsZ.one (i := 3) (by kernel_rfl) (nth_z rfl) (by rfl) (fun K hK => ?_)
        go_simp
        refine (lall_no N sy la mo (.slice ad n k) res am (q + 1) cm (l ++ [(⟨5, 4, 9, .slice none 0 0, []⟩ : TV)]) _ _ _ _ (O4.out.below G0.out).ints KN.out.r6 KN.out.cfg R0.out.tks HLM.out (by omega) HMM.out (.inl HMF.out)).mono ?_
        rintro e u1 ⟨rfl, gg⟩
        have G1 : Hid (Below v4.heap.size v4 u1) := btrans G0.out gg
        have R1 : Hid (OwnT u1 (w.heap.size + 1) (.slice am (q + 1) cm) (l ++ [(⟨5, 4, 9, .slice none 0 0, []⟩ : TV)])) := R0.out.below gg
        have PL1 : Hid (u1.ownsRow v4.heap.size 49 2 (.slice (some ⟨gp, 0, none⟩) q pk) q (plC ps)) := own_below PL0.out gg
        have hS1 : (fun w' => w'.cell? ⟨w.heap.size, 0, none⟩ = some (.int .i64 N) ∧ w'.cell? ⟨w.heap.size, 1, none⟩ = some (.int .i64 sy) ∧ w'.cell? ⟨w.heap.size, 2, none⟩ = some (.int .i64 la) ∧ w'.cell? ⟨w.heap.size, 3, none⟩ = some (.int .i64 mo) ∧ w'.cell? ⟨w.heap.size, 4, none⟩ = some (.slice ad n k)) u1 := ⟨(O4.out.below G1.out).bc.cell 0, (O4.out.below G1.out).bc.cell 1, (O4.out.below G1.out).bc.cell 2, (O4.out.below G1.out).bc.cell 3, (O4.out.below G1.out).bc.cell 4⟩
        first | refine hK.out _ _ (fun _ => hS1) ?_ | (go_wp2_with fail; refine hK.out _ _ (fun _ => hS1) ?_)
        clear hK K gg
        try simp only [Act.put, List.setIfInBounds_toArray, List.set_cons_zero, List.set_cons_succ]
        refine RunsZ.take 12 (i := 4) (v := ?vr4) (nth_z rfl) (by kernel_rfl) (by kernel_rfl) (by kernel_rfl) (by kernel_rfl) (by kernel_rfl) (fun _ _ _ h => h) (Or.inl ⟨by rfl, ?yr4⟩) hS1 ?_
        case yr4 =>
          intro u hu
          try dsimp only at hu
          go_split_ands
          go_simp
          try with_reducible rfl
        simp only [Act.put, List.setIfInBounds_toArray, List.set_cons_zero, List.set_cons_succ]
        refine RunsZ.take 12 (i := 5) (v := ?vr5) (nth_z rfl) (by kernel_rfl) (by kernel_rfl) (by kernel_rfl) (by kernel_rfl) (by kernel_rfl) (fun _ _ _ h => h) (Or.inl ⟨by rfl, ?yr5⟩) hS1 ?_
        case yr5 =>
          intro u hu
          try dsimp only at hu
          go_split_ands
          go_simp
          try with_reducible rfl
        simp only [Act.put, List.setIfInBounds_toArray, List.set_cons_zero, List.set_cons_succ]
        refine RunsZ.take 12 (i := 6) (v := ?vr6) (nth_z rfl) (by kernel_rfl) (by kernel_rfl) (by kernel_rfl) (by kernel_rfl) (by kernel_rfl) (fun _ _ _ h => h) (Or.inl ⟨by rfl, ?yr6⟩) hS1 ?_
        case yr6 =>
          intro u hu
          try dsimp only at hu
          go_split_ands
          go_simp
          try with_reducible rfl
        simp only [Act.put, List.setIfInBounds_toArray, List.set_cons_zero, List.set_cons_succ]
        refine RunsZ.take 12 (i := 7) (v := ?vr7) (nth_z rfl) (by kernel_rfl) (by kernel_rfl) (by kernel_rfl) (by kernel_rfl) (by kernel_rfl) (fun _ _ _ h => h) (Or.inl ⟨by rfl, ?yr7⟩) hS1 ?_
        case yr7 =>
          intro u hu
          try dsimp only at hu
          go_split_ands
          go_simp
          try with_reducible rfl
        simp only [Act.put, List.setIfInBounds_toArray, List.set_cons_zero, List.set_cons_succ]
        refine RunsZ.take 12 (i := 8) (v := ?vr8) (nth_z rfl) (by kernel_rfl) (by kernel_rfl) (by kernel_rfl) (by kernel_rfl) (by kernel_rfl) (fun _ _ _ h => h) (Or.inl ⟨by rfl, ?yr8⟩) hS1 ?_
        case yr8 =>
          intro u hu
          try dsimp only at hu
          go_split_ands
          go_simp
          try with_reducible rfl
        simp only [Act.put, List.setIfInBounds_toArray, List.set_cons_zero, List.set_cons_succ]
        refine RunsZ.take 12 (i := 9) (v := ?vr9) (nth_z rfl) (by kernel_rfl) (by kernel_rfl) (by kernel_rfl) (by kernel_rfl) (by kernel_rfl) (fun _ _ _ h => h) (Or.inl ⟨by rfl, ?yr9⟩) hS1 ?_
        case yr9 =>
          intro u hu
          try dsimp only at hu
          go_split_ands
          go_simp
          try with_reducible rfl
        simp only [Act.put, List.setIfInBounds_toArray, List.set_cons_zero, List.set_cons_succ]
        refine RunsZ.take 12 (i := 10) (v := ?vr10) (nth_z rfl) (by kernel_rfl) (by kernel_rfl) (by kernel_rfl) (by kernel_rfl) (by kernel_rfl) (fun _ _ _ h => h) (Or.inl ⟨by rfl, ?yr10⟩) hS1 ?_
        case yr10 =>
          intro u hu
          try dsimp only at hu
          go_split_ands
          go_simp
          try with_reducible rfl
        simp only [Act.put, List.setIfInBounds_toArray, List.set_cons_zero, List.set_cons_succ]
        refine RunsZ.one (i := 11) (by kernel_rfl) (nth_z rfl) (by rfl) (fun K hK => ?_)
        go_simp
        have G2 : Hid (Below v4.heap.size v4 (u1.alloc (.cells #[.int .i64 0, .slice none 0 0] 49))) := btrans G1.out (balloc _ _)
        have R2 : Hid (OwnT (u1.alloc (.cells #[.int .i64 0, .slice none 0 0] 49)) (w.heap.size + 1) (.slice am (q + 1) cm) (l ++ [(⟨5, 4, 9, .slice none 0 0, []⟩ : TV)])) := R1.out.below (balloc _ _)
        have PL2 : Hid ((u1.alloc (.cells #[.int .i64 0, .slice none 0 0] 49)).ownsRow v4.heap.size 49 2 (.slice (some ⟨gp, 0, none⟩) q pk) q (plC ps)) := own_below PL1.out (balloc _ _)
        have hS2 : (fun w' => w'.cell? ⟨w.heap.size, 0, none⟩ = some (.int .i64 N) ∧ w'.cell? ⟨w.heap.size, 1, none⟩ = some (.int .i64 sy) ∧ w'.cell? ⟨w.heap.size, 2, none⟩ = some (.int .i64 la) ∧ w'.cell? ⟨w.heap.size, 3, none⟩ = some (.int .i64 mo) ∧ w'.cell? ⟨w.heap.size, 4, none⟩ = some (.slice ad n k)) (u1.alloc (.cells #[.int .i64 0, .slice none 0 0] 49)) := ⟨(O4.out.below G2.out).bc.cell 0, (O4.out.below G2.out).bc.cell 1, (O4.out.below G2.out).bc.cell 2, (O4.out.below G2.out).bc.cell 3, (O4.out.below G2.out).bc.cell 4⟩
        refine hK.out _ _ (fun _ => hS2) ?_
        clear hK K
        try simp only [Act.put, List.setIfInBounds_toArray, List.set_cons_zero, List.set_cons_succ]
        have su1 := G1.out.size
        refine RunsZ.one (i := 12) (by kernel_rfl) (nth_z rfl) (by rfl) (fun K hK => ?_)
        refine wp_append_at (u1.alloc (.cells #[.int .i64 0, .slice none 0 0] 49)) (.tmp 36) (.tmp 38) 41 (by rfl) v4.heap.size 49 ip _ 2 32 Tryz.underlying41 hip hp0 hp1 hp2 rfl (by omega) (.slice (some ⟨gp, 0, none⟩) q pk) q (plC ps) (by rfl) PL2.out ⟨u1.heap.size, 0, none⟩ 1 1 [.int .i64 0, .slice none 0 0] (by rfl) rfl (cell_two _ _ _ _) (by intro u hu; simp at hu; rcases hu with rfl | rfl <;> rfl) (by unfold maxLen; omega) (by omega) (by simp; omega) ?_
        intro u7 w7 own7 gr7 at7
        obtain ⟨a7, c7, e7⟩ := own_form own7
        subst e7
        have G3 : Hid (Below v4.heap.size v4 w7) := G2.out.trans (gr_bel gr7 (fun k hk => (PL2.out.lt k hk).1) (by simp; omega))
        have R3 : Hid (OwnT w7 (w.heap.size + 1) (.slice am (q + 1) cm) (l ++ [(⟨5, 4, 9, .slice none 0 0, []⟩ : TV)])) := R2.out.keepP PL2.out gr7
        have hS3 : (fun w' => w'.cell? ⟨w.heap.size, 0, none⟩ = some (.int .i64 N) ∧ w'.cell? ⟨w.heap.size, 1, none⟩ = some (.int .i64 sy) ∧ w'.cell? ⟨w.heap.size, 2, none⟩ = some (.int .i64 la) ∧ w'.cell? ⟨w.heap.size, 3, none⟩ = some (.int .i64 mo) ∧ w'.cell? ⟨w.heap.size, 4, none⟩ = some (.slice ad n k)) w7 := ⟨(O4.out.below G3.out).bc.cell 0, (O4.out.below G3.out).bc.cell 1, (O4.out.below G3.out).bc.cell 2, (O4.out.below G3.out).bc.cell 3, (O4.out.below G3.out).bc.cell 4⟩
        clear own7 gr7 at7
        refine hK.out _ _ (fun _ => hS3) ?_
        clear hK K
        try simp only [Act.put, List.setIfInBounds_toArray, List.set_cons_zero, List.set_cons_succ]
        refine RunsZ.one (i := 13) (by kernel_rfl) (nth_z rfl) (by rfl) (fun K hK => ?_)
        go_simp
        refine (lall_no N sy la mo (.slice ad n k) res am (q + 1) cm (l ++ [(⟨5, 4, 9, .slice none 0 0, []⟩ : TV)]) _ _ _ _ (O4.out.below G3.out).ints KN.out.r6 KN.out.cfg R3.out.tks HLM.out (by omega) HMM.out (.inl HMF.out)).mono ?_
        rintro e u4 ⟨rfl, gg⟩
        have G4 : Hid (Below v4.heap.size v4 u4) := btrans G3.out gg
        have hS4 : (fun w' => w'.cell? ⟨w.heap.size, 0, none⟩ = some (.int .i64 N) ∧ w'.cell? ⟨w.heap.size, 1, none⟩ = some (.int .i64 sy) ∧ w'.cell? ⟨w.heap.size, 2, none⟩ = some (.int .i64 la) ∧ w'.cell? ⟨w.heap.size, 3, none⟩ = some (.int .i64 mo) ∧ w'.cell? ⟨w.heap.size, 4, none⟩ = some (.slice ad n k)) u4 := ⟨(O4.out.below G4.out).bc.cell 0, (O4.out.below G4.out).bc.cell 1, (O4.out.below G4.out).bc.cell 2, (O4.out.below G4.out).bc.cell 3, (O4.out.below G4.out).bc.cell 4⟩
        first | refine hK.out _ _ (fun _ => hS4) ?_ | (go_wp2_with fail; refine hK.out _ _ (fun _ => hS4) ?_)
        clear hK K gg
        try simp only [Act.put, List.setIfInBounds_toArray, List.set_cons_zero, List.set_cons_succ]
        refine RunsZ.take 12 (i := 14) (v := ?vr14) (nth_z rfl) (by kernel_rfl) (by kernel_rfl) (by kernel_rfl) (by kernel_rfl) (by kernel_rfl) (fun _ _ _ h => h) (Or.inl ⟨by rfl, ?yr14⟩) hS4 ?_
        case yr14 =>
          intro u hu
          try dsimp only at hu
          go_split_ands
          go_simp
          try with_reducible rfl
        simp only [Act.put, List.setIfInBounds_toArray, List.set_cons_zero, List.set_cons_succ]
        refine RunsZ.take 12 (i := 15) (v := ?vr15) (nth_z rfl) (by kernel_rfl) (by kernel_rfl) (by kernel_rfl) (by kernel_rfl) (by kernel_rfl) (fun _ _ _ h => h) (Or.inl ⟨by rfl, ?yr15⟩) hS4 ?_
        case yr15 =>
          intro u hu
          try dsimp only at hu
          go_split_ands
          go_simp
          try with_reducible rfl
        simp only [Act.put, List.setIfInBounds_toArray, List.set_cons_zero, List.set_cons_succ]
        refine RunsZ.take 12 (i := 16) (v := ?vr16) (nth_z rfl) (by kernel_rfl) (by kernel_rfl) (by kernel_rfl) (by kernel_rfl) (by kernel_rfl) (fun _ _ _ h => h) (Or.inl ⟨by rfl, ?yr16⟩) hS4 ?_
        case yr16 =>
          intro u hu
          try dsimp only at hu
          go_split_ands
          go_simp
          try with_reducible rfl
        simp only [Act.put, List.setIfInBounds_toArray, List.set_cons_zero, List.set_cons_succ]
        refine RunsZ.take 12 (i := 17) (v := ?vr17) (nth_z rfl) (by kernel_rfl) (by kernel_rfl) (by kernel_rfl) (by kernel_rfl) (by kernel_rfl) (fun _ _ _ h => h) (Or.inl ⟨by rfl, ?yr17⟩) hS4 ?_
        case yr17 =>
          intro u hu
          try dsimp only at hu
          go_split_ands
          go_simp
          try with_reducible rfl
        simp only [Act.put, List.setIfInBounds_toArray, List.set_cons_zero, List.set_cons_succ]
        refine RunsZ.take 12 (i := 18) (v := ?vr18) (nth_z rfl) (by kernel_rfl) (by kernel_rfl) (by kernel_rfl) (by kernel_rfl) (by kernel_rfl) (fun _ _ _ h => h) (Or.inl ⟨by rfl, ?yr18⟩) hS4 ?_
        case yr18 =>
          intro u hu
          try dsimp only at hu
          go_split_ands
          go_simp
          try with_reducible rfl
        simp only [Act.put, List.setIfInBounds_toArray, List.set_cons_zero, List.set_cons_succ]
        refine RunsZ.take 12 (i := 19) (v := ?vr19) (nth_z rfl) (by kernel_rfl) (by kernel_rfl) (by kernel_rfl) (by kernel_rfl) (by kernel_rfl) (fun _ _ _ h => h) (Or.inl ⟨by rfl, ?yr19⟩) hS4 ?_
        case yr19 =>
          intro u hu
          try dsimp only at hu
          go_split_ands
          go_simp
          try with_reducible rfl
        simp only [Act.put, List.setIfInBounds_toArray, List.set_cons_zero, List.set_cons_succ]
        refine RunsZ.take 12 (i := 20) (v := ?vr20) (nth_z rfl) (by kernel_rfl) (by kernel_rfl) (by kernel_rfl) (by kernel_rfl) (by kernel_rfl) (fun _ _ _ h => h) (Or.inl ⟨by rfl, ?yr20⟩) hS4 ?_
        case yr20 =>
          intro u hu
          try dsimp only at hu
          go_split_ands
          go_simp
          try with_reducible rfl
        simp only [Act.put, List.setIfInBounds_toArray, List.set_cons_zero, List.set_cons_succ]
        refine RunsZ.take 12 (i := 21) (v := ?vr21) (nth_z rfl) (by kernel_rfl) (by kernel_rfl) (by kernel_rfl) (by kernel_rfl) (by kernel_rfl) (fun _ _ _ h => h) (Or.inl ⟨by rfl, ?yr21⟩) hS4 ?_
        case yr21 =>
          intro u hu
          try dsimp only at hu
          go_split_ands
          go_simp
          try with_reducible rfl
        simp only [Act.put, List.setIfInBounds_toArray, List.set_cons_zero, List.set_cons_succ]
        refine RunsZ.take 12 (i := 22) (v := ?vr22) (nth_z rfl) (by kernel_rfl) (by kernel_rfl) (by kernel_rfl) (by kernel_rfl) (by kernel_rfl) (fun _ _ _ h => h) (Or.inl ⟨by rfl, ?yr22⟩) hS4 ?_
        case yr22 =>
          intro u hu
          try dsimp only at hu
          go_split_ands
          go_simp
          try with_reducible rfl
        simp only [Act.put, List.setIfInBounds_toArray, List.set_cons_zero, List.set_cons_succ]
        refine RunsZ.take 12 (i := 23) (v := ?vr23) (nth_z rfl) (by kernel_rfl) (by kernel_rfl) (by kernel_rfl) (by kernel_rfl) (by kernel_rfl) (fun _ _ _ h => h) (Or.inl ⟨by rfl, ?yr23⟩) hS4 ?_
        case yr23 =>
          intro u hu
          try dsimp only at hu
          go_split_ands
          go_simp
          try with_reducible rfl
        simp only [Act.put, List.setIfInBounds_toArray, List.set_cons_zero, List.set_cons_succ]
        refine RunsZ.take 12 (i := 24) (v := ?vr24) (nth_z rfl) (by kernel_rfl) (by kernel_rfl) (by kernel_rfl) (by kernel_rfl) (by kernel_rfl) (fun _ _ _ h => h) (Or.inl ⟨by rfl, ?yr24⟩) hS4 ?_
        case yr24 =>
          intro u hu
          try dsimp only at hu
          go_split_ands
          go_simp
          try with_reducible rfl
        simp only [Act.put, List.setIfInBounds_toArray, List.set_cons_zero, List.set_cons_succ]
        refine RunsZ.take 12 (i := 25) (v := ?vr25) (nth_z rfl) (by kernel_rfl) (by kernel_rfl) (by kernel_rfl) (by kernel_rfl) (by kernel_rfl) (fun _ _ _ h => h) (Or.inl ⟨by rfl, ?yr25⟩) hS4 ?_
        case yr25 =>
          intro u hu
          try dsimp only at hu
          go_split_ands
          go_simp
          try with_reducible rfl
        simp only [Act.put, List.setIfInBounds_toArray, List.set_cons_zero, List.set_cons_succ]
        refine RunsZ.one (i := 26) (by kernel_rfl) (nth_z rfl) (by rfl) (fun K hK => ?_)
        go_simp
        refine (lall_no N sy la mo (.slice ad n k) res b (q) kb l _ _ _ _ (O4.out.below G4.out).ints KN.out.r6 KN.out.cfg (O4.out.below G4.out).own.tks KN.out.lq (by omega) KN.out.ms (.inr (by omega))).mono ?_
        rintro e u5 ⟨rfl, gg⟩
        have G5' : Hid (Below v4.heap.size v4 u5) := btrans G4.out gg
        clear G5
        have G5 := G5'
        have hS5 : (fun w' => w'.cell? ⟨w.heap.size, 0, none⟩ = some (.int .i64 N) ∧ w'.cell? ⟨w.heap.size, 1, none⟩ = some (.int .i64 sy) ∧ w'.cell? ⟨w.heap.size, 2, none⟩ = some (.int .i64 la) ∧ w'.cell? ⟨w.heap.size, 3, none⟩ = some (.int .i64 mo) ∧ w'.cell? ⟨w.heap.size, 4, none⟩ = some (.slice ad n k)) u5 := ⟨(O4.out.below G5.out).bc.cell 0, (O4.out.below G5.out).bc.cell 1, (O4.out.below G5.out).bc.cell 2, (O4.out.below G5.out).bc.cell 3, (O4.out.below G5.out).bc.cell 4⟩
        first | refine hK.out _ _ (fun _ => hS5) ?_ | (go_wp2_with fail; refine hK.out _ _ (fun _ => hS5) ?_)
        clear hK K gg
        try simp only [Act.put, List.setIfInBounds_toArray, List.set_cons_zero, List.set_cons_succ]
        refine RunsZ.take 12 (i := 27) (v := ?vr27) (nth_z rfl) (by kernel_rfl) (by kernel_rfl) (by kernel_rfl) (by kernel_rfl) (by kernel_rfl) (fun _ _ _ h => h) (Or.inl ⟨by rfl, ?yr27⟩) hS5 ?_
        case yr27 =>
          intro u hu
          try dsimp only at hu
          go_split_ands
          go_simp
          try with_reducible rfl
        simp only [Act.put, List.setIfInBounds_toArray, List.set_cons_zero, List.set_cons_succ]
        refine RunsZ.take 12 (i := 28) (v := ?vr28) (nth_z rfl) (by kernel_rfl) (by kernel_rfl) (by kernel_rfl) (by kernel_rfl) (by kernel_rfl) (fun _ _ _ h => h) (Or.inl ⟨by rfl, ?yr28⟩) hS5 ?_
        case yr28 =>
          intro u hu
          try dsimp only at hu
          go_split_ands
          go_simp
          try with_reducible rfl
        simp only [Act.put, List.setIfInBounds_toArray, List.set_cons_zero, List.set_cons_succ]
        refine RunsZ.take 12 (i := 29) (v := ?vr29) (nth_z rfl) (by kernel_rfl) (by kernel_rfl) (by kernel_rfl) (by kernel_rfl) (by kernel_rfl) (fun _ _ _ h => h) (Or.inl ⟨by rfl, ?yr29⟩) hS5 ?_
        case yr29 =>
          intro u hu
          try dsimp only at hu
          go_split_ands
          go_simp
          try with_reducible rfl
        simp only [Act.put, List.setIfInBounds_toArray, List.set_cons_zero, List.set_cons_succ]
        refine RunsZ.take 12 (i := 30) (v := ?vr30) (nth_z rfl) (by kernel_rfl) (by kernel_rfl) (by kernel_rfl) (by kernel_rfl) (by kernel_rfl) (fun _ _ _ h => h) (Or.inl ⟨by rfl, ?yr30⟩) hS5 ?_
        case yr30 =>
          intro u hu
          try dsimp only at hu
          go_split_ands
          go_simp
          try with_reducible rfl
        simp only [Act.put, List.setIfInBounds_toArray, List.set_cons_zero, List.set_cons_succ]
        refine RunsZ.take 12 (i := 31) (v := ?vr31) (nth_z rfl) (by kernel_rfl) (by kernel_rfl) (by kernel_rfl) (by kernel_rfl) (by kernel_rfl) (fun _ _ _ h => h) (Or.inl ⟨by rfl, ?yr31⟩) hS5 ?_
        case yr31 =>
          intro u hu
          try dsimp only at hu
          go_split_ands
          go_simp
          try with_reducible rfl
        simp only [Act.put, List.setIfInBounds_toArray, List.set_cons_zero, List.set_cons_succ]
        refine RunsZ.one (i := 32) (by kernel_rfl) (nth_z rfl) (by rfl) (fun K hK => ?_)
        go_simp
        refine (share_any (.slice none 0 0) [] _ (.inl ⟨rfl, _, _, rfl⟩) (by simp) (by simp)).mono ?_
        rintro e u6 ⟨rfl, gg⟩
        have G6 : Hid (Below v4.heap.size v4 u6) := btrans G5.out gg
        have hS6 : (fun w' => w'.cell? ⟨w.heap.size, 0, none⟩ = some (.int .i64 N) ∧ w'.cell? ⟨w.heap.size, 1, none⟩ = some (.int .i64 sy) ∧ w'.cell? ⟨w.heap.size, 2, none⟩ = some (.int .i64 la) ∧ w'.cell? ⟨w.heap.size, 3, none⟩ = some (.int .i64 mo) ∧ w'.cell? ⟨w.heap.size, 4, none⟩ = some (.slice ad n k)) u6 := ⟨(O4.out.below G6.out).bc.cell 0, (O4.out.below G6.out).bc.cell 1, (O4.out.below G6.out).bc.cell 2, (O4.out.below G6.out).bc.cell 3, (O4.out.below G6.out).bc.cell 4⟩
        first | refine hK.out _ _ (fun _ => hS6) ?_ | (go_wp2_with fail; refine hK.out _ _ (fun _ => hS6) ?_)
        clear hK K gg
        try simp only [Act.put, List.setIfInBounds_toArray, List.set_cons_zero, List.set_cons_succ]
        refine RunsZ.take 12 (i := 33) (v := ?vr33) (nth_z rfl) (by kernel_rfl) (by kernel_rfl) (by kernel_rfl) (by kernel_rfl) (by kernel_rfl) (fun _ _ _ h => h) (Or.inl ⟨by rfl, ?yr33⟩) hS6 ?_
        case yr33 =>
          intro u hu
          try dsimp only at hu
          go_split_ands
          go_simp
          try with_reducible rfl
        simp only [Act.put, List.setIfInBounds_toArray, List.set_cons_zero, List.set_cons_succ]
        refine RunsZ.take 12 (i := 34) (v := ?vr34) (nth_z rfl) (by kernel_rfl) (by kernel_rfl) (by kernel_rfl) (by kernel_rfl) (by kernel_rfl) (fun _ _ _ h => h) (Or.inl ⟨by rfl, ?yr34⟩) hS6 ?_
        case yr34 =>
          intro u hu
          try dsimp only at hu
          go_split_ands
          go_simp
          try with_reducible rfl
        simp only [Act.put, List.setIfInBounds_toArray, List.set_cons_zero, List.set_cons_succ]
        refine RunsZ.one (i := 35) (by kernel_rfl) (nth_z rfl) (by rfl) (fun K hK => ?_)
        go_simp
        refine hK.out _ _ (fun h => absurd (by decide) h) ?_
        clear hK K
        try simp only [Act.put, List.setIfInBounds_toArray, List.set_cons_zero, List.set_cons_succ]
        refine RunsZ.done (by kernel_rfl) (NoPanic.normal ?_)
        go_wp2_with fail
        go_ret
        exact ⟨rfl, (O4.out.below G6.out).bel⟩

set_option maxRecDepth 100000 in
theorem lifted (os : Os) (started : os.Started) (H : Type) (enc : TypeId × Value → H) :
    ReturnsInHanded {} Tryz.checked os 10 .any (fun w args => (Rows.loadNoneSpec.pre enc Tryz.prog Tryz.f10 [] false w args ∧ laidMetH Tryz.prog laid5 w) ∧ sizedMet enc Tryz.prog Tryz.f10 (OpenSpec.ofChange Rows.loadNoneSpec) false w args)
      (Rows.loadNoneSpec.post enc Tryz.prog Tryz.f10 false true false false) := by
  refine returnsInHanded_of_change_and (C := Tryz.checked) (X := fun w _ => laidMetH Tryz.prog laid5 w) (fun _ _ _ hh h => h.of_heap hh) own started (by kernel_rfl) Tryz.func10
    (ChangeSpec.witness_shaped (enc := enc) (C := Tryz.checked) (os := os) (X := fun w _ => laidMetH Tryz.prog laid5 w) false (World.doorLaid Tryz.prog 62 os) #[.agg #[.int .i64 0, .int .i64 0, .int .i64 0, .int .i64 0, .slice none 0 0], .slice none 0 0] 8 rfl (World.shaped_of_RefB (by kernel_rfl) (by kernel_rfl)) (by kernel_rfl) (by kernel_rfl) (by kernel_rfl) (door_met os _)) ?_
  intro W base args ds gs before hval0 hW _ _ hL _
  have hval : ∀ (j : Nat) t v, Tryz.f10.params[j]? = some t → args[j]? = some v → Value.okWide Tryz.prog W .any base t v := hval0
  have hW' := hW
  obtain ⟨p, q, hA0, hV, rfl, hfz, hnd⟩ := hW
  have hA : DataW.TrodAll enc Tryz.prog W 0 (fun _ => true) true Tryz.f10.params.toList args.toList ds p := hA0
  rw [Tryz.params10] at hA hval
  obtain ⟨v0, vs0, d0, ds0, p0, q0, hargs, rfl, rfl, h0, r0⟩ := trodAll_cons hA
  obtain ⟨v1, vs1, d1, ds1, p1, q1, rfl, rfl, rfl, h1, r1⟩ := trodAll_cons r0
  obtain ⟨rfl, rfl, rfl⟩ := trodAll_nil r1
  obtain rfl : args = #[v0, v1] := by cases args; simp_all
  obtain ⟨rfl, rfl⟩ := trodVars_none hV
  have k0 := h0
  have lt0 : ∀ x ∈ p0, x.block < W.heap.size := by obtain ⟨m, hm⟩ := k0; exact DataW.trod_lt m _ _ _ hm
  obtain ⟨co0, sy0, la0, mo0, s0, n0, m0, z0, rfl, w0, x00, x01, x02, x03⟩ := open_config (hval 0 24 v0 rfl rfl) h0
  obtain ⟨s1, n1, m1, rfl⟩ := okWide_slice Tryz.underlying25 (hval 1 25 v1 rfl rfl)
  have k1 := h1
  have lt1 : ∀ x ∈ p1, x.block < W.heap.size := by obtain ⟨m, hm⟩ := k1; exact DataW.trod_lt m _ _ _ hm
  obtain ⟨z1, w1⟩ := (by obtain ⟨fuel, hf⟩ := h1; exact open_tsks hf : ∃ zs, ATsks W s1 n1 m1 zs)
  clear hA0 hval0
  simp only [List.append_nil] at hW'
  refine (walk co0 sy0 la0 mo0 s0 n0 m0 z0 s1 n1 m1 z1 W (env_of_laid hL) w0 x00 x01 x02 x03 w1).mono fun e W' ⟨he, bel⟩ => ?_
  subst he
  exact ⟨_, rfl, _, _, _, [], _, [], hW', trodAll_mk1 (shut_bool Tryz.underlying4 _), (trodAll_cons_mk (Below.trod laidOut (by kernel_rfl) (of_decide_eq_true (by kernel_rfl)) k0 bel lt0) (trodAll_cons_mk (Below.trod laidOut (by kernel_rfl) (of_decide_eq_true (by kernel_rfl)) k1 bel lt1) trodAll_mk0)), rfl, bel.frame _, fun h => by cases h⟩

theorem closed : joinedFacts Tryz.pinned.checked.prog 10 Tryz.f10 Rows.loadNoneSpec Rows.loadNoneRow = true := by
  generalize hP : Tryz.pinned.checked.prog = P
  simp only [joinedFacts, Bool.and_eq_true]
  subst hP
  refine ⟨⟨⟨⟨⟨⟨⟨⟨⟨⟨⟨⟨⟨⟨⟨⟨⟨⟨⟨⟨⟨⟨⟨⟨⟨⟨⟨⟨⟨⟨⟨?k1, ?k2⟩, ?k3⟩, ?k4⟩, ?k5⟩, ?k6⟩, ?k7⟩, ?k8⟩, ?k9⟩, ?k10⟩, ?k11⟩, ?k12⟩, ?k13⟩, ?k14⟩, ?k15⟩, ?k16⟩, ?k17⟩, ?k18⟩, ?k19⟩, ?k20⟩, ?k21⟩, ?k22⟩, ?k23⟩, ?k24⟩, ?k25⟩, ?k26⟩, ?k27⟩, ?k28⟩, ?k29⟩, ?k30⟩, ?k31⟩, ?k32⟩
  case k26 => exact head_enter
  case k27 => show (false == Tryz.prog.liftsFinal) = true; rw [head_lifts]; rfl
  case k28 => exact head_make
  all_goals kernel_rfl
theorem over : Rows.loadNoneRow.holds Tryz.pinned (OpenSpec.ofChange Rows.loadNoneSpec) :=
  OpenClaim.holds_of_wide 10 Tryz.f10 rfl rfl rfl rfl rfl rfl rfl ⟨rfl, rfl, rfl, rfl, rfl⟩ rfl rfl rfl rfl rfl (by kernel_rfl) Tryz.func10 closed
    (of_decide_eq_true (by kernel_rfl)) (by unfold Func.isWrapper; first | (rw [if_pos (by decide +kernel)]; kernel_rfl) | (rw [if_neg (by decide +kernel)]; exact ⟨rfl, rfl⟩))
    (fun os started H enc _ => lifted os started H enc)

theorem proved : Rows.LoadNoneCardSaid :=
  Claim7.holds_tied_plain_at .later [] [.data, .data, .data, .sentinel, .sentinel] true (true, "4ddcd03471c152e483e2d1372070b2dd351fc06eba3ed385e3ebe4df4fc3b5c0") true
    over (fun _ h => by cases h) (by kernel_rfl) (fun _ h => by cases h) loadNone_row_tie rfl ⟨rfl, rfl⟩ head_main rfl
    (fun f fn hf hfn => by
      obtain rfl : f = 10 := Option.some.inj ((show Tryz.prog.funcNamed "hortator/hortatorlaw12.LoadNone" = some 10 by kernel_rfl).symm.trans hf) |>.symm
      obtain rfl : fn = Tryz.f10 := (Option.some.inj (Tryz.func10.symm.trans hfn)).symm
      exact ⟨by kernel_rfl, fun j t ht => by
        rw [Tryz.params10] at ht
        match j, ht with
        | 0, ht => obtain rfl : t = 24 := by simpa using ht.symm
                   exact (show Tryz.prog.wantsStandIn 24 = false by kernel_rfl)
        | 1, ht => obtain rfl : t = 25 := by simpa using ht.symm
                   exact (show Tryz.prog.wantsStandIn 25 = false by kernel_rfl)
        | (_ + 2), ht => simp at ht⟩)
    (by kernel_rfl)
end Go.Proofs.YtakdliecjfeedaaGreatDoor.loadNone
