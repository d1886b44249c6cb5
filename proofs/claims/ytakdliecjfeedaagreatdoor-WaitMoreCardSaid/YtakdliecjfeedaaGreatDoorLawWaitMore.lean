/-
PROVED: the statement hortatorlaw12.WaitMore answers true over the landed packages: with a task more nobody waits shorter; at another agent nobody waits longer.
  CONDITIONS: the listed variables of strconv and math/bits hold what the program's text lays (the card ties them).
-/
import Derived.Test.YtakdliecjfeedaaGreatDoorRows
import Derived.Test.YtakdliecjfeedaaGreatDoorTie
import Derived.Test.YtakdliecjfeedaaGreatDoorCards
import Derived.WalkKit
import Derived.ProofKit
import Derived.OpenShut
import Derived.ShutString
import Derived.ChangeOld
import Derived.Below
import Derived.SevenTiedAt
import Derived.Test.YtakdliecjfeedaaGreatDoorLaid
import Derived.Test.YtakdliecjfeedaaGreatDoorHead
import Derived.Carry
import Derived.Deep.Cut
import Derived.Deep.CutRange
import Derived.Deep.RegionWith
import Derived.Deep.RegionHeld3
import Derived.Deep.LoopGhost
import Derived.Deep.QuietTactic
import Derived.BigQuiet
import Derived.Test.YtakdliecjfeedaaGreatDoorAppNil
import Derived.Test.YtakdliecjfeedaaGreatDoorBegun12
namespace Go.Proofs.YtakdliecjfeedaaGreatDoor.waitMore
open Go.ChangeShapes Go.WideShapes Go.ChangeAt Go.RowKit
open Go.ChangeMaps (open_string shut_string)
set_option linter.unusedVariables false

theorem own : ownKnob Tryz.prog.godebug = none := by kernel_rfl
theorem laidOut : laidOutB Tryz.prog = true := by kernel_rfl

set_option maxHeartbeats 8000000 in
set_option maxRecDepth 100000 in
theorem walk (co0 sy0 la0 mo0 : Int) (s0 : Option Addr) (n0 m0 : Nat) (z0 : List Int) (s1 : Option Addr) (n1 m1 : Nat) (z1 : List TI) (c2 d2 t2 : Int) (s2 : Option Addr) (n2 m2 : Nat) (z2 : List Sec) (w : World) (hE : Env w) (w0 : AInts w s0 n0 m0 z0) (x00 : (Lit.int .i64 co0).wf = true) (x01 : (Lit.int .i64 sy0).wf = true) (x02 : (Lit.int .i64 la0).wf = true) (x03 : (Lit.int .i64 mo0).wf = true) (w1 : ATsks w s1 n1 m1 z1) (w2 : ASecs w s2 n2 m2 z2) (x20 : (Lit.int .i64 c2).wf = true) (x21 : (Lit.int .i64 d2).wf = true) (x22 : (Lit.int .i64 t2).wf = true) :
    Calls Tryz.prog 4 #[.agg #[.int .i64 co0, .int .i64 sy0, .int .i64 la0, .int .i64 mo0, .slice s0 n0 m0], .slice s1 n1 m1, .agg #[.int .i64 c2, .int .i64 d2, .int .i64 t2, .slice s2 n2 m2]] w fun e w' => e = .returned (.bool true) ∧ Below w.heap.size w w' := by
  obtain ⟨i0, hi0, hz0, hz1, hz2⟩ := info_parts infoT
  have HE : Hid (Env w) := hE
  have AC : Hid (AInts w s0 n0 m0 z0) := w0
  have AT : Hid (ATsks w s1 n1 m1 z1) := w1
  have AX : Hid (ASecs w s2 n2 m2 z2) := w2
  clear hE w0 w1 w2
  have BW : Hid (Below w.heap.size w ((w.alloc (.cells #[.int .i64 co0, .int .i64 sy0, .int .i64 la0, .int .i64 mo0, .slice s0 n0 m0] 24)).alloc (.cells #[.int .i64 c2, .int .i64 d2, .int .i64 t2, .slice s2 n2 m2] 34))) := btrans (balloc _ _) (balloc _ _)
  have bt : Blk ((w.alloc (.cells #[.int .i64 co0, .int .i64 sy0, .int .i64 la0, .int .i64 mo0, .slice s0 n0 m0] 24)).alloc (.cells #[.int .i64 c2, .int .i64 d2, .int .i64 t2, .slice s2 n2 m2] 34)) (w.heap.size + 1) #[.int .i64 c2, .int .i64 d2, .int .i64 t2, .slice s2 n2 m2] 34 := blkTwo _ _ _ _
  have bc : Blk ((w.alloc (.cells #[.int .i64 co0, .int .i64 sy0, .int .i64 la0, .int .i64 mo0, .slice s0 n0 m0] 24)).alloc (.cells #[.int .i64 c2, .int .i64 d2, .int .i64 t2, .slice s2 n2 m2] 34)) w.heap.size #[.int .i64 co0, .int .i64 sy0, .int .i64 la0, .int .i64 mo0, .slice s0 n0 m0] 24 := (show Blk (w.alloc (.cells #[.int .i64 co0, .int .i64 sy0, .int .i64 la0, .int .i64 mo0, .slice s0 n0 m0] 24)) w.heap.size #[.int .i64 co0, .int .i64 sy0, .int .i64 la0, .int .i64 mo0, .slice s0 n0 m0] 24 from heap_alloc_new _ _).below (balloc _ _)
  go_enter Tryz.func4, Tryz.ntmps4
  go_wp2_with fail
  generalize hW : (w.alloc _).alloc _ = W at BW bc bt ⊢
  clear hW
  have hsW := bt.lt
  refine (begun12_any W (HE.out.below BW.out)).mono ?_
  rintro e v1 ⟨rfl, g1⟩
  have G1 : Hid (Below w.heap.size w v1) := btrans BW.out g1
  have bc1 := bc.below g1
  have bt1 := bt.below g1
  clear g1 bc bt
  have p0 := bc1.cell 0
  have fp0 := bc1.frozen 0
  have p1 := bc1.cell 1
  have fp1 := bc1.frozen 1
  have p2 := bc1.cell 2
  have fp2 := bc1.frozen 2
  have p3 := bc1.cell 3
  have fp3 := bc1.frozen 3
  have p4 := bc1.cell 4
  have fp4 := bc1.frozen 4
  simp at p0 p1 p2 p3 p4
  go_wp2_with fail
  refine (cfg12_any co0 sy0 la0 mo0 s0 n0 m0 z0 v1 (AC.out.below G1.out)).mono ?_
  rintro e v2 ⟨co, sy, la, mo, ad, n, k, res, rfl, hcf, hrn, own2, g2⟩
  have hv1 := bt1.lt
  have G2 := btrans G1.out g2
  have bc2 := bc1.below g2
  have bt2 := bt1.below g2
  clear p0 fp0 p1 fp1 p2 fp2 p3 fp3 p4 fp4 bc1 bt1 g2
  have p0 := bc2.cell 0
  have fp0 := bc2.frozen 0
  have p1 := bc2.cell 1
  have fp1 := bc2.frozen 1
  have p2 := bc2.cell 2
  have fp2 := bc2.frozen 2
  have p3 := bc2.cell 3
  have fp3 := bc2.frozen 3
  have p4 := bc2.cell 4
  have fp4 := bc2.frozen 4
  simp at p0 p1 p2 p3 p4
  have bc3 := set5_box bc2 (.int .i64 co) (.int .i64 sy) (.int .i64 la) (.int .i64 mo) (.slice ad n k)
  have o5 := only5 v2 w.heap.size (.int .i64 co) (.int .i64 sy) (.int .i64 la) (.int .i64 mo) (.slice ad n k)
  have own3 := own_only own2 o5 (by simp; omega)
  have bt3 := bt2.only o5 (by simp)
  have G3 := set5_bel G2 (Nat.le_refl _) (.int .i64 co) (.int .i64 sy) (.int .i64 la) (.int .i64 mo) (.slice ad n k)
  go_wp2_with fail
  generalize hZ : World.setCell _ _ _ = v3 at bc3 bt3 own3 G3 ⊢
  clear hZ o5 own2 G2 bc2 bt2 p0 fp0 p1 fp1 p2 fp2 p3 fp3 p4 fp4
  have hv3 := bt3.lt
  have HG3 : Hid (Below w.heap.size w v3) := G3
  have HB3 : Hid (Blk v3 w.heap.size #[.int .i64 co, .int .i64 sy, .int .i64 la, .int .i64 mo, .slice ad n k] 24) := bc3
  have HT3 : Hid (Blk v3 (w.heap.size + 1) #[.int .i64 c2, .int .i64 d2, .int .i64 t2, .slice s2 n2 m2] 34) := bt3
  have HI3 : Hid (v3.ownsRow v1.heap.size 3 1 (.slice ad n k) n (res.map mkI)) := own3
  clear own3 bc3 bt3 G3
  refine (tsk12_any co sy la mo ad n k s1 n1 m1 z1 v3 (AT.out.below HG3.out)).mono ?_
  rintro e v4 ⟨b, q, kb, l, rfl, hlq, q12, hall, ot, g4⟩
  have KN : Hid (Kn12 co sy la mo n res q l) := ⟨hcf, hrn, hlq, q12, hall⟩
  have HRN : Hid (res.length = n) := hrn
  have HO4 : Hid (OwnT v4 v3.heap.size (.slice b q kb) l) := ot
  have HG4 : Hid (Below w.heap.size w v4) := btrans HG3.out g4
  have HB4 : Hid (Blk v4 w.heap.size #[.int .i64 co, .int .i64 sy, .int .i64 la, .int .i64 mo, .slice ad n k] 24) := HB3.out.below g4
  have bt4 := HT3.out.below g4
  have HI4 : Hid (v4.ownsRow v1.heap.size 3 1 (.slice ad n k) n (res.map mkI)) := own_below HI3.out g4
  have s34 := g4.size
  clear hcf hrn hlq hall ot g4 HB3 HT3 HI3
  have y0 := bt4.cell 0
  have fy0 := bt4.frozen 0
  have y1 := bt4.cell 1
  have fy1 := bt4.frozen 1
  have y2 := bt4.cell 2
  have fy2 := bt4.frozen 2
  have y3 := bt4.cell 3
  have fy3 := bt4.frozen 3
  simp at y0 y1 y2 y3
  go_wp2_with fail
  refine (ltask_any c2 d2 t2 s2 n2 m2 z2 v4 (AX.out.below HG4.out)).mono ?_
  rintro e v5 ⟨u, rfl, own5, g5⟩
  have hr : (z2.take 4).length ≤ 4 := by rw [List.length_take]; omega
  generalize z2.take 4 = m at own5 hr
  obtain ⟨a5, q5, rfl⟩ := own_form own5
  have bt5 := bt4.below g5
  have bc5 := HB4.out.below g5
  have oi5 := own_below HI4.out g5
  have ot5 := HO4.out.below g5
  have G5 := btrans HG4.out g5
  clear y0 fy0 y1 fy1 y2 fy2 y3 fy3 bt4 g5
  have y0 := bt5.cell 0
  have fy0 := bt5.frozen 0
  have y1 := bt5.cell 1
  have fy1 := bt5.frozen 1
  have y2 := bt5.cell 2
  have fy2 := bt5.frozen 2
  have y3 := bt5.cell 3
  have fy3 := bt5.frozen 3
  simp at y0 y1 y2 y3
  have p0 := bc5.cell 0
  have p1 := bc5.cell 1
  have p2 := bc5.cell 2
  have p3 := bc5.cell 3
  have p4 := bc5.cell 4
  simp at p0 p1 p2 p3 p4
  have bt6 := set4_box bt5 (.int .i64 c2) (.int .i64 d2) (.int .i64 t2) (.slice a5 m.length q5)
  have o6 := only4 v5 (w.heap.size + 1) (.int .i64 c2) (.int .i64 d2) (.int .i64 t2) (.slice a5 m.length q5)
  have bc6 := bc5.only o6 (by simp)
  have oi6 := own_only oi5 o6 (by simp; omega)
  have ot6 := ot5.off o6 (by simp; omega)
  have ox6 := own_only own5 o6 (by simp; omega)
  have G6 := set4_bel G5 (show w.heap.size ≤ w.heap.size + 1 by omega) (.int .i64 c2) (.int .i64 d2) (.int .i64 t2) (.slice a5 m.length q5)
  go_wp2_with fail
  generalize hZ : World.setCell _ _ _ = v6 at bt6 bc6 oi6 ot6 ox6 G6 ⊢
  clear hZ o6 bt5 bc5 oi5 ot5 own5 G5 y0 fy0 y1 fy1 y2 fy2 y3 fy3 p0 p1 p2 p3 p4
  have T6 : Hid (Ot12 w co sy la mo ad n k res b q kb l ⟨c2, d2, t2, .slice a5 m.length q5, m⟩ v6) := ⟨⟨bc6, own_ints (by rw [HRN.out]; exact oi6), ot6.mono (by omega), G6⟩, bt6, ownT_mono ox6 (by omega)⟩
  clear bt6 bc6 oi6 ot6 ox6 G6 HO4 HG4 HB4 HI4 HG3 AC AT AX HE G1 BW
  refine (refTask_any co sy la mo ad n k c2 d2 t2 _ m v6 (own_secs T6.out.sec) (by omega)).mono ?_
  rintro e v7 ⟨rfl, g7⟩
  have T7 : Hid (Ot12 w co sy la mo ad n k res b q kb l ⟨c2, d2, t2, .slice a5 m.length q5, m⟩ v7) := T6.out.below g7
  clear g7 T6
  cases hb : tskB n ⟨c2, d2, t2, m⟩
  · clear hb
    go_wp2_with fail
    go_ret
    exact ⟨rfl, T7.out.op.bel⟩
  · have HB : Hid (tskB n ⟨c2, d2, t2, m⟩ = true) := hb
    clear hb
    by_cases h12 : q = 12
    · have e12 : ((q : Int) == 12) = true := by simp; omega
      clear h12
      go_wp2_with fail
      go_ret
      exact ⟨rfl, T7.out.op.bel⟩
    · have e12 : ((q : Int) == 12) = false := by simp; omega
      have q11 : q < 12 := by omega
      clear h12
      go_upto_region 9 with fail
      go_cut [9] from 34 to 39 (fun x wx => ∃ am cm, x = .slice am (q + 1) cm ∧ Hid (OwnT wx (w.heap.size + 1) (.slice am (q + 1) cm) (l ++ [⟨c2, d2, t2, .slice a5 m.length q5, m⟩])) ∧ Hid (Ot12 w co sy la mo ad n k res b q kb l ⟨c2, d2, t2, .slice a5 m.length q5, m⟩ wx))
      case first =>
        have SEC : Hid (∀ y ∈ l ++ [⟨c2, d2, t2, .slice a5 m.length q5, m⟩], v7.ownsRow (w.heap.size + 1) 39 3 y.u y.m.length (secC y.m)) := fun y hy => by
          rcases List.mem_append.1 hy with hy | hy
          · exact T7.out.op.own.sec y hy
          · simp at hy; subst hy; exact T7.out.sec
        have L1 : Hid ((tvC l).length = q * 4) := by unfold Hid; rw [tvC_length, KN.out.lq]
        have U1 : Hid (∀ u ∈ tvC l, u.oneCell' = true) := T7.out.op.own.one
        have sv7 := T7.out.bt.lt
        rcases T7.out.op.own.own.2 with ⟨ev, _⟩ | ⟨g, c9, cur, ev, hgB, _, qk, kbm, _⟩
        · simp only [Value.slice.injEq] at ev
          obtain ⟨rfl, rfl, rfl⟩ := ev
          have hl0 : l = [] := List.length_eq_zero_iff.1 KN.out.lq
          subst hl0
          have x0 : v7.cell? ⟨w.heap.size + 1, 0, none⟩ = some (.int .i64 c2) := T7.out.bt.cell 0
          have x1 : v7.cell? ⟨w.heap.size + 1, 1, none⟩ = some (.int .i64 d2) := T7.out.bt.cell 1
          have x2 : v7.cell? ⟨w.heap.size + 1, 2, none⟩ = some (.int .i64 t2) := T7.out.bt.cell 2
          have x3 : v7.cell? ⟨w.heap.size + 1, 3, none⟩ = some (.slice a5 m.length q5) := T7.out.bt.cell 3
          go_wp2_with fail
          go_region_law (first
            | (refine step_append_nils v7.drew (by rfl) (.const (.slice none 0 0)) (.tmp 34) 25 (by rfl) 34 i0 Tryz.underlying25 hi0 (by rfl) (by rfl) ?_)
            | (refine step_append_nils ((v7.alloc (.cells #[.int .i64 c2, .int .i64 d2, .int .i64 t2, .slice a5 m.length q5] 34)).drew) (by rfl) (.const (.slice none 0 0)) (.tmp 34) 25 (by rfl) 34 i0 Tryz.underlying25 hi0 (by rfl) (by rfl) ?_)
            | (refine step_append_at ((v7.alloc (.cells #[.int .i64 c2, .int .i64 d2, .int .i64 t2, .slice a5 m.length q5] 34)).drew) (by rfl) (.tmp 35) (.tmp 37) 25 (by rfl) v7.heap.size 34 i0 _ 4 48 Tryz.underlying25 hi0 hz0 hz1 hz2 rfl (by omega) (.slice none 0 0) 0 [] (by rfl) (World.ownsRow_nil _ _ _ _) ⟨v7.heap.size, 0, none⟩ 1 1 [.int .i64 c2, .int .i64 d2, .int .i64 t2, .slice a5 m.length q5] (by rfl) rfl (fun j u hu => cell_keep (cell_four v7 _ _ _ _ _ j u hu) (bdrew _)) (by intro u hu; simp at hu; rcases hu with rfl | rfl | rfl | rfl <;> rfl) (by unfold maxLen; omega) (by omega) (by simp) ?_; intro y2 v8 own2 gr2 at2; obtain ⟨am, cm, e⟩ := own_form own2; subst e; have R8 : Hid (OwnT v8 (w.heap.size + 1) (.slice am (0 + 1) cm) ([] ++ [⟨c2, d2, t2, .slice a5 m.length q5, m⟩])) := (OwnT.nil v7.drew (w.heap.size + 1)).snoc (x := ⟨c2, d2, t2, .slice a5 m.length q5, m⟩) (own_below T7.out.sec (bdrew _)) (ownT_mono own2 (by omega)) gr2 tsk_ty; have T8 : Hid (Ot12 w co sy la mo ad n k res none 0 0 [] ⟨c2, d2, t2, .slice a5 m.length q5, m⟩ v8) := T7.out.below ((btrans (balloc v7 (.cells #[.int .i64 c2, .int .i64 d2, .int .i64 t2, .slice a5 m.length q5] 34)) (bdrew _)).trans (gr_bel gr2 (fun k hk => by have h0 : (none : Option Nat) = some k := hk; cases h0) (by simp))); clear own2 gr2 at2)
            | fail)
          all_goals
            go_wp2_with fail
            go_meet
            exact ⟨am, cm, rfl, R8.out, T8.out⟩
        · simp only [Value.slice.injEq] at ev
          obtain ⟨rfl, -, rfl⟩ := ev
          have qk2 : q ≤ kb := by have := KN.out.lq; omega
          have kbm2 : kb ≤ 9223372036854775807 := by unfold maxLen at kbm; omega
          clear qk kbm
          have N7 : Hid (NewsT v7 ⟨g, 0, none⟩ l) := T7.out.op.own.news
          have x0 : v7.cell? ⟨w.heap.size + 1, 0, none⟩ = some (.int .i64 c2) := T7.out.bt.cell 0
          have x1 : v7.cell? ⟨w.heap.size + 1, 1, none⟩ = some (.int .i64 d2) := T7.out.bt.cell 1
          have x2 : v7.cell? ⟨w.heap.size + 1, 2, none⟩ = some (.int .i64 t2) := T7.out.bt.cell 2
          have x3 : v7.cell? ⟨w.heap.size + 1, 3, none⟩ = some (.slice a5 m.length q5) := T7.out.bt.cell 3
          go_wp2_with fail
          go_region_law (first
            | (refine step_append_at v7.drew (by rfl) (.const (.slice none 0 0)) (.tmp 34) 25 (by rfl) v7.heap.size 34 i0 _ 4 48 Tryz.underlying25 hi0 hz0 hz1 hz2 rfl (by omega) (.slice none 0 0) 0 [] (by rfl) (World.ownsRow_nil _ _ _ _) ⟨g, 0, none⟩ q kb (tvC l) (by rfl) L1.out (N7.out.below (bdrew v7)) U1.out (by unfold maxLen; omega) (by omega) (by simp) ?_; intro y1 w1 own1 gr1 at1; rw [Nat.zero_add, List.nil_append] at own1; have OW : Hid (w1.ownsRow v7.heap.size 34 4 y1 q (tvC l)) := own1; have GR : Hid (v7.drew.grownBy w1 none) := gr1; have B1 : Hid (Below v7.heap.size v7 w1) := ((bdrew v7)).trans (gr_bel gr1 (fun k hk => by have h0 : (none : Option Nat) = some k := hk; cases h0) (by simp)); have s71 : v7.heap.size ≤ w1.heap.size := B1.out.size; skip; have z0 : w1.cell? ⟨w.heap.size + 1, 0, none⟩ = some (.int .i64 c2) := (T7.out.below B1.out).bt.cell 0; have z1 : w1.cell? ⟨w.heap.size + 1, 1, none⟩ = some (.int .i64 d2) := (T7.out.below B1.out).bt.cell 1; have z2 : w1.cell? ⟨w.heap.size + 1, 2, none⟩ = some (.int .i64 t2) := (T7.out.below B1.out).bt.cell 2; have z3 : w1.cell? ⟨w.heap.size + 1, 3, none⟩ = some (.slice a5 m.length q5) := (T7.out.below B1.out).bt.cell 3; clear own1 gr1 at1)
            | (refine step_append_at ((v7.alloc (.cells #[.int .i64 c2, .int .i64 d2, .int .i64 t2, .slice a5 m.length q5] 34)).drew) (by rfl) (.const (.slice none 0 0)) (.tmp 34) 25 (by rfl) v7.heap.size 34 i0 _ 4 48 Tryz.underlying25 hi0 hz0 hz1 hz2 rfl (by omega) (.slice none 0 0) 0 [] (by rfl) (World.ownsRow_nil _ _ _ _) ⟨g, 0, none⟩ q kb (tvC l) (by rfl) L1.out (N7.out.below (btrans (balloc v7 (.cells #[.int .i64 c2, .int .i64 d2, .int .i64 t2, .slice a5 m.length q5] 34)) (bdrew _))) U1.out (by unfold maxLen; omega) (by omega) (by simp) ?_; intro y1 w1 own1 gr1 at1; rw [Nat.zero_add, List.nil_append] at own1; have OW : Hid (w1.ownsRow v7.heap.size 34 4 y1 q (tvC l)) := own1; have GR : Hid (((v7.alloc (.cells #[.int .i64 c2, .int .i64 d2, .int .i64 t2, .slice a5 m.length q5] 34)).drew).grownBy w1 none) := gr1; have B1 : Hid (Below v7.heap.size v7 w1) := ((btrans (balloc v7 (.cells #[.int .i64 c2, .int .i64 d2, .int .i64 t2, .slice a5 m.length q5] 34)) (bdrew _))).trans (gr_bel gr1 (fun k hk => by have h0 : (none : Option Nat) = some k := hk; cases h0) (by simp)); have s71 : v7.heap.size ≤ w1.heap.size := B1.out.size; have LC : Hid (∀ j u, ([.int .i64 c2, .int .i64 d2, .int .i64 t2, .slice a5 m.length q5] : List Value)[j]? = some u → w1.cell? ((⟨v7.heap.size, 0, none⟩ : Addr).add j) = some u) := (fun j u hu => (gr1.cell_far _ (by rw [addr_add]; simp) (by simp [Value.ownBlock])).trans ((cell_keep (cell_four v7 _ _ _ _ _ j u hu) (bdrew _)))); have z0 : w1.cell? ⟨w.heap.size + 1, 0, none⟩ = some (.int .i64 c2) := (T7.out.below B1.out).bt.cell 0; have z1 : w1.cell? ⟨w.heap.size + 1, 1, none⟩ = some (.int .i64 d2) := (T7.out.below B1.out).bt.cell 1; have z2 : w1.cell? ⟨w.heap.size + 1, 2, none⟩ = some (.int .i64 t2) := (T7.out.below B1.out).bt.cell 2; have z3 : w1.cell? ⟨w.heap.size + 1, 3, none⟩ = some (.slice a5 m.length q5) := (T7.out.below B1.out).bt.cell 3; clear own1 gr1 at1)
            | (refine step_append_at (w1.alloc (.cells #[.int .i64 c2, .int .i64 d2, .int .i64 t2, .slice a5 m.length q5] 34)) (by rfl) (.tmp 35) (.tmp 37) 25 (by rfl) v7.heap.size 34 i0 _ 4 48 Tryz.underlying25 hi0 hz0 hz1 hz2 rfl (by omega) y1 q (tvC l) (by rfl) (own_below OW.out (balloc w1 (.cells #[.int .i64 c2, .int .i64 d2, .int .i64 t2, .slice a5 m.length q5] 34))) ⟨w1.heap.size, 0, none⟩ 1 1 [.int .i64 c2, .int .i64 d2, .int .i64 t2, .slice a5 m.length q5] (by rfl) rfl (cell_four _ _ _ _ _ _) (by intro u hu; simp at hu; rcases hu with rfl | rfl | rfl | rfl <;> rfl) (by unfold maxLen; omega) (by omega) (by first | omega | (simp; omega)) ?_; intro y2 v8 own2 gr2 at2; obtain ⟨am, cm, e⟩ := own_form own2; subst e; obtain ⟨o8, g8⟩ := more_end (B := w.heap.size + 1) (x := ⟨c2, d2, t2, .slice a5 m.length q5, m⟩) (w1 := w1) KN.out.lq (by omega) SEC.out ((bdrew v7)) (by simp) GR.out OW.out (balloc w1 (.cells #[.int .i64 c2, .int .i64 d2, .int .i64 t2, .slice a5 m.length q5] 34)) gr2 own2; have R8 : Hid (OwnT v8 (w.heap.size + 1) (.slice am (q + 1) cm) (l ++ [⟨c2, d2, t2, .slice a5 m.length q5, m⟩])) := o8; have T8 : Hid (Ot12 w co sy la mo ad n k res (some ⟨g, 0, none⟩) q kb l ⟨c2, d2, t2, .slice a5 m.length q5, m⟩ v8) := T7.out.below g8; clear own2 gr2 at2 o8 g8)
            | (refine step_append_at w1 (by rfl) (.tmp 35) (.tmp 37) 25 (by rfl) v7.heap.size 34 i0 _ 4 48 Tryz.underlying25 hi0 hz0 hz1 hz2 rfl (by omega) y1 q (tvC l) (by rfl) OW.out ⟨v7.heap.size, 0, none⟩ 1 1 [.int .i64 c2, .int .i64 d2, .int .i64 t2, .slice a5 m.length q5] (by rfl) rfl LC.out (by intro u hu; simp at hu; rcases hu with rfl | rfl | rfl | rfl <;> rfl) (by unfold maxLen; omega) (by omega) (by first | omega | (simp; omega)) ?_; intro y2 v8 own2 gr2 at2; obtain ⟨am, cm, e⟩ := own_form own2; subst e; obtain ⟨o8, g8⟩ := more_end (B := w.heap.size + 1) (x := ⟨c2, d2, t2, .slice a5 m.length q5, m⟩) (w1 := w1) KN.out.lq (by omega) SEC.out ((btrans (balloc v7 (.cells #[.int .i64 c2, .int .i64 d2, .int .i64 t2, .slice a5 m.length q5] 34)) (bdrew _))) (by simp) GR.out OW.out (Below.refl _ _) gr2 own2; have R8 : Hid (OwnT v8 (w.heap.size + 1) (.slice am (q + 1) cm) (l ++ [⟨c2, d2, t2, .slice a5 m.length q5, m⟩])) := o8; have T8 : Hid (Ot12 w co sy la mo ad n k res (some ⟨g, 0, none⟩) q kb l ⟨c2, d2, t2, .slice a5 m.length q5, m⟩ v8) := T7.out.below g8; clear own2 gr2 at2 o8 g8)
            | fail)
          all_goals
            go_wp2_with fail
            go_meet
            exact ⟨am, cm, rfl, R8.out, T8.out⟩
      case rest =>
        obtain ⟨am, cm, rfl, r8, t8⟩ := hcut
        have R9 : Hid (OwnT wc (w.heap.size + 1) (.slice am (q + 1) cm) (l ++ [⟨c2, d2, t2, .slice a5 m.length q5, m⟩])) := r8
        have T9 : Hid (Ot12 w co sy la mo ad n k res b q kb l ⟨c2, d2, t2, .slice a5 m.length q5, m⟩ wc) := t8
        have KM : Hid (Kn12 co sy la mo n res (q + 1) (l ++ [⟨c2, d2, t2, .slice a5 m.length q5, m⟩])) := KN.out.snoc HB.out q11
        clear r8 t8 T7 e12
        go_wp2_with fail
        go_loopg [10] q (fun gk i2 wr => ∃ i : Nat, gk + i = q ∧ i2 = .int .i64 i ∧ Hid (Ot12 w co sy la mo ad n k res b q kb l ⟨c2, d2, t2, .slice a5 m.length q5, m⟩ wr) ∧ Hid (OwnT wr (w.heap.size + 1) (.slice am (q + 1) cm) (l ++ [⟨c2, d2, t2, .slice a5 m.length q5, m⟩])))
        case atStart => exact ⟨0, by omega, rfl, T9.out, R9.out⟩
        case round =>
          obtain ⟨i, k1, rfl, hO, hR⟩ := hrel
          clear T9 R9
          by_cases hlt : i < q
          · obtain ⟨g, eg, qk, kbm, -⟩ := hO.out.op.own.at (by omega)
            subst eg
            have P0 : Hid (Ot12 w co sy la mo ad n k res (some ⟨g, 0, none⟩) q kb l ⟨c2, d2, t2, .slice a5 m.length q5, m⟩ wr) := hO.out
            have Q0 : Hid (OwnT wr (w.heap.size + 1) (.slice am (q + 1) cm) (l ++ [⟨c2, d2, t2, .slice a5 m.length q5, m⟩])) := hR.out
            clear hO hR
            obtain ⟨⟨c, d, t, u, m2⟩, hx⟩ : ∃ x, l[i]? = some x := ⟨_, List.getElem?_eq_getElem (by rw [KN.out.lq]; exact hlt)⟩
            have hu := (P0.out.op.cells hx).2
            obtain ⟨a6, cap6, e6⟩ := hu.form
            simp only at e6
            subst e6
            have HX : Hid (l[i]? = some ⟨c, d, t, .slice a6 m2.length cap6, m2⟩) := hx
            have hts := tv_secs (KN.out.allr _ (List.mem_of_getElem? hx))
            obtain ⟨M, hM⟩ : ∃ M, m2.length = M := ⟨_, rfl⟩
            have HM : Hid (m2.length = M) := hM
            have hM2 : M ≤ 2 := by have := hts.1; simp only at this; omega
            have HRs : Hid (∀ s ∈ m2, 0 ≤ s.res ∧ s.res < res.length) := fun s hs => (hts.2 s hs).1
            obtain ⟨la0, la1⟩ := KN.out.lag
            clear hx hu hts hM
            have q0 : (0 : Int) ≤ (i : Int) := by omega
            have q1 : (i : Int) < (q : Int) := by omega
            go_wp2_with fail
            go_loopg [11] M (fun gk s2 wr => ∃ s : Nat, gk + s = M ∧ s2 = .int .i64 s ∧ Hid (Ot12 w co sy la mo ad n k res (some ⟨g, 0, none⟩) q kb l ⟨c2, d2, t2, .slice a5 m.length q5, m⟩ wr) ∧ Hid (OwnT wr (w.heap.size + 1) (.slice am (q + 1) cm) (l ++ [⟨c2, d2, t2, .slice a5 m.length q5, m⟩])))
            case atStart => exact ⟨0, by omega, rfl, P0.out, Q0.out⟩
            case round =>
              obtain ⟨s, k2, rfl, hP, hQ⟩ := hrel
              have P1 : Hid (Ot12 w co sy la mo ad n k res (some ⟨g, 0, none⟩) q kb l ⟨c2, d2, t2, .slice a5 m.length q5, m⟩ wr) := hP.out
              have Q1 : Hid (OwnT wr (w.heap.size + 1) (.slice am (q + 1) cm) (l ++ [⟨c2, d2, t2, .slice a5 m.length q5, m⟩])) := hQ.out
              clear hP hQ P0 Q0
              have y4 := (P1.out.op.cells HX.out).1.2.2.2
              simp only at y4
              rw [HM.out] at y4
              by_cases hsl : s < M
              · obtain ⟨⟨rr, pp, ln⟩, hy⟩ : ∃ x, m2[s]? = some x := ⟨_, List.getElem?_eq_getElem (by rw [HM.out]; exact hsl)⟩
                have HY : Hid (m2[s]? = some ⟨rr, pp, ln⟩) := hy
                have s0 : (0 : Int) ≤ (s : Int) := by omega
                have s1 : (s : Int) < (M : Int) := by omega
                obtain ⟨A, hA⟩ : ∃ A, secV la res l i s = A := ⟨_, rfl⟩
                have HA : Hid (secV la res l i s = A) := hA
                obtain ⟨L, hL⟩ : ∃ L, lonL res (resAt res rr) m = L := ⟨_, rfl⟩
                have HL : Hid (lonL res (resAt res rr) m = L) := hL
                have HB2 : Hid (secV la res (l ++ [⟨c2, d2, t2, .slice a5 m.length q5, m⟩]) i s = A + L) := by
                  have h := sec_more (la := la) (res := res) (x := ⟨c2, d2, t2, .slice a5 m.length q5, m⟩) HX.out HY.out
                  rw [hA] at h
                  simp only at h
                  rw [hL] at h
                  exact h
                have hA2 := sec_bd (res := res) (l := l) la0 la1 (by have := KN.out.lq; omega) (fun x hx s hs => ((tv_secs (KN.out.allr x hx)).2 s hs).2) i s
                rw [hA] at hA2
                obtain ⟨A0, A1⟩ := hA2
                have hA3 := sec_least (la := la) (res := res) HX.out HY.out (fun x hx s hs => ((tv_secs (KN.out.allr x hx)).2 s hs).2)
                rw [hA] at hA3
                have hL2 := lon_bd (res := res) (ag := resAt res rr) (m := m) (fun s hs => ((tv_secs (KM.out.allr ⟨c2, d2, t2, .slice a5 m.length q5, m⟩ (by simp))).2 s hs).2)
                rw [hL] at hL2
                obtain ⟨L0, L1⟩ := hL2
                obtain ⟨j, zz, hj, hjq, hz, hag⟩ := res_at (res := res) rfl (HRs.out _ (List.mem_of_getElem? hy))
                simp only at hj
                subst hj
                have HZ : Hid (res[j]? = some zz) := hz
                have HAG : Hid (resAt res (j : Int) = zz) := hag
                have hjn : j < n := by rw [← KN.out.rn]; exact hjq
                clear hA hL hy hz hag hjq
                have xa0 : wr.cell? ⟨w.heap.size, 0, none⟩ = some (.int .i64 co) := P1.out.op.bc.cell 0
                have xa1 : wr.cell? ⟨w.heap.size, 1, none⟩ = some (.int .i64 sy) := P1.out.op.bc.cell 1
                have xa2 : wr.cell? ⟨w.heap.size, 2, none⟩ = some (.int .i64 la) := P1.out.op.bc.cell 2
                have xa3 : wr.cell? ⟨w.heap.size, 3, none⟩ = some (.int .i64 mo) := P1.out.op.bc.cell 3
                have xa4 : wr.cell? ⟨w.heap.size, 4, none⟩ = some (.slice ad n k) := P1.out.op.bc.cell 4
                go_wp2_with fail
                go_region_held3 (fun w' => w'.cell? ⟨w.heap.size, 0, none⟩ = some (.int .i64 co) ∧ w'.cell? ⟨w.heap.size, 1, none⟩ = some (.int .i64 sy) ∧ w'.cell? ⟨w.heap.size, 2, none⟩ = some (.int .i64 la) ∧ w'.cell? ⟨w.heap.size, 3, none⟩ = some (.int .i64 mo) ∧ w'.cell? ⟨w.heap.size, 4, none⟩ = some (.slice ad n k)) (first | exact ⟨xa0, xa1, xa2, xa3, xa4⟩ | exact ⟨xb0, xb1, xb2, xb3, xb4⟩ | exact ⟨xc0, xc1, xc2, xc3, xc4⟩ | go_keep) (first | (go_at_call_of 14 (Value.slice (some ⟨g, 0, none⟩) q kb); refine (wSec_at KN.out P2.out.op _ _ A HA.out).mono ?_; rintro e x2 ⟨rfl, gg⟩; have P3 : Hid (Ot12 w co sy la mo ad n k res (some ⟨g, 0, none⟩) q kb l ⟨c2, d2, t2, .slice a5 m.length q5, m⟩ x2) := (by first | exact P2.out.below gg | exact P2.out.drew.below gg); have Q3 : Hid (OwnT x2 (w.heap.size + 1) (.slice am (q + 1) cm) (l ++ [⟨c2, d2, t2, .slice a5 m.length q5, m⟩])) := (by first | exact Q2.out.below gg | exact (Q2.out.below (bdrew _)).below gg); have xc0 : x2.cell? ⟨w.heap.size, 0, none⟩ = some (.int .i64 co) := P3.out.op.bc.cell 0; have xc1 : x2.cell? ⟨w.heap.size, 1, none⟩ = some (.int .i64 sy) := P3.out.op.bc.cell 1; have xc2 : x2.cell? ⟨w.heap.size, 2, none⟩ = some (.int .i64 la) := P3.out.op.bc.cell 2; have xc3 : x2.cell? ⟨w.heap.size, 3, none⟩ = some (.int .i64 mo) := P3.out.op.bc.cell 3; have xc4 : x2.cell? ⟨w.heap.size, 4, none⟩ = some (.slice ad n k) := P3.out.op.bc.cell 4; clear gg) | (go_at_call 14; refine (wSec_on KM.out P2.out.op.ints Q2.out.tks _ _ (A + L) HB2.out).mono ?_; rintro e x2 ⟨rfl, gg⟩; have P3 : Hid (Ot12 w co sy la mo ad n k res (some ⟨g, 0, none⟩) q kb l ⟨c2, d2, t2, .slice a5 m.length q5, m⟩ x2) := (by first | exact P2.out.below gg | exact P2.out.drew.below gg); have Q3 : Hid (OwnT x2 (w.heap.size + 1) (.slice am (q + 1) cm) (l ++ [⟨c2, d2, t2, .slice a5 m.length q5, m⟩])) := (by first | exact Q2.out.below gg | exact (Q2.out.below (bdrew _)).below gg); have xc0 : x2.cell? ⟨w.heap.size, 0, none⟩ = some (.int .i64 co) := P3.out.op.bc.cell 0; have xc1 : x2.cell? ⟨w.heap.size, 1, none⟩ = some (.int .i64 sy) := P3.out.op.bc.cell 1; have xc2 : x2.cell? ⟨w.heap.size, 2, none⟩ = some (.int .i64 la) := P3.out.op.bc.cell 2; have xc3 : x2.cell? ⟨w.heap.size, 3, none⟩ = some (.int .i64 mo) := P3.out.op.bc.cell 3; have xc4 : x2.cell? ⟨w.heap.size, 4, none⟩ = some (.slice ad n k) := P3.out.op.bc.cell 4; clear gg) | (go_at_call_of 14 (Value.slice (some ⟨g, 0, none⟩) q kb); refine (wSec_at KN.out (by first | exact P2.out.op | exact P1.out.op | exact P1.out.op.drew) _ _ A HA.out).mono ?_; rintro e x1 ⟨rfl, gg⟩; have P2 : Hid (Ot12 w co sy la mo ad n k res (some ⟨g, 0, none⟩) q kb l ⟨c2, d2, t2, .slice a5 m.length q5, m⟩ x1) := (by first | exact P1.out.below gg | exact P1.out.drew.below gg); have Q2 : Hid (OwnT x1 (w.heap.size + 1) (.slice am (q + 1) cm) (l ++ [⟨c2, d2, t2, .slice a5 m.length q5, m⟩])) := (by first | exact Q1.out.below gg | exact (Q1.out.below (bdrew _)).below gg); have xb0 : x1.cell? ⟨w.heap.size, 0, none⟩ = some (.int .i64 co) := P2.out.op.bc.cell 0; have xb1 : x1.cell? ⟨w.heap.size, 1, none⟩ = some (.int .i64 sy) := P2.out.op.bc.cell 1; have xb2 : x1.cell? ⟨w.heap.size, 2, none⟩ = some (.int .i64 la) := P2.out.op.bc.cell 2; have xb3 : x1.cell? ⟨w.heap.size, 3, none⟩ = some (.int .i64 mo) := P2.out.op.bc.cell 3; have xb4 : x1.cell? ⟨w.heap.size, 4, none⟩ = some (.slice ad n k) := P2.out.op.bc.cell 4; clear gg) | (go_at_call 14; refine (wSec_on KM.out (by first | exact P1.out.op.ints | exact P1.out.op.drew.ints) (by first | exact Q1.out.tks | exact (Q1.out.below (bdrew _)).tks) _ _ (A + L) HB2.out).mono ?_; rintro e x1 ⟨rfl, gg⟩; have P2 : Hid (Ot12 w co sy la mo ad n k res (some ⟨g, 0, none⟩) q kb l ⟨c2, d2, t2, .slice a5 m.length q5, m⟩ x1) := (by first | exact P1.out.below gg | exact P1.out.drew.below gg); have Q2 : Hid (OwnT x1 (w.heap.size + 1) (.slice am (q + 1) cm) (l ++ [⟨c2, d2, t2, .slice a5 m.length q5, m⟩])) := (by first | exact Q1.out.below gg | exact (Q1.out.below (bdrew _)).below gg); have xb0 : x1.cell? ⟨w.heap.size, 0, none⟩ = some (.int .i64 co) := P2.out.op.bc.cell 0; have xb1 : x1.cell? ⟨w.heap.size, 1, none⟩ = some (.int .i64 sy) := P2.out.op.bc.cell 1; have xb2 : x1.cell? ⟨w.heap.size, 2, none⟩ = some (.int .i64 la) := P2.out.op.bc.cell 2; have xb3 : x1.cell? ⟨w.heap.size, 3, none⟩ = some (.int .i64 mo) := P2.out.op.bc.cell 3; have xb4 : x1.cell? ⟨w.heap.size, 4, none⟩ = some (.slice ad n k) := P2.out.op.bc.cell 4; clear gg))
                have C3 := (P3.out.op.cells HX.out)
                obtain ⟨⟨-, -, -, y5⟩, ys5⟩ := C3
                simp only at y5 ys5
                rw [HM.out] at y5
                obtain ⟨b6, e6, -, y6, -, -⟩ := secs_at ys5 HY.out
                subst e6
                simp only at y6
                obtain ⟨f, ef, -, y7⟩ := ints_at P3.out.op.ints HZ.out
                subst ef
                have j0 : (0 : Int) ≤ (j : Int) := by omega
                have j1 : (j : Int) < (n : Int) := by omega
                go_wp2_with fail
                go_big_quiet (fail)
                have W1 : IntKind.i64.wrap (A + L - A) = L := by rw [show A + L - A = L by omega]; exact IntWalk.i64_in _ (by omega)
                have W2 : IntKind.i64.wrap L = L := IntWalk.i64_in _ (by omega)
                have W3 : IntKind.i64.wrap (2 * la) = 2 * la := IntWalk.i64_in _ (by omega)
                have W4 : IntKind.i64.wrap (2 * la + 1) = 2 * la + 1 := IntWalk.i64_in _ (by omega)
                have e9 : (L != L) = false := by simp
                have e8 : decide (A < 2 * la + 1) = false := by simp; omega
                have xt0 : x2.cell? ⟨w.heap.size + 1, 0, none⟩ = some (.int .i64 c2) := P3.out.bt.cell 0
                have xt1 : x2.cell? ⟨w.heap.size + 1, 1, none⟩ = some (.int .i64 d2) := P3.out.bt.cell 1
                have xt2 : x2.cell? ⟨w.heap.size + 1, 2, none⟩ = some (.int .i64 t2) := P3.out.bt.cell 2
                have xt3 : x2.cell? ⟨w.heap.size + 1, 3, none⟩ = some (.slice a5 m.length q5) := P3.out.bt.cell 3
                go_wp2_with fail
                refine (longest_any co sy la mo _ res c2 d2 t2 _ m zz _ (P3.out.op.ints.below (bdrewN _ _)) KN.out.r6 (own_secs (own_below P3.out.sec (bdrewN _ _))) (KM.out.ms ⟨c2, d2, t2, .slice a5 m.length q5, m⟩ (by simp)) (fun s hs => ((tv_secs (KM.out.allr ⟨c2, d2, t2, .slice a5 m.length q5, m⟩ (by simp))).2 s hs).1)).mono ?_
                rintro e u ⟨rfl, gu⟩
                have P5 : Hid (Ot12 w co sy la mo (some ⟨f, 0, none⟩) n k res (some ⟨g, 0, none⟩) q kb l ⟨c2, d2, t2, .slice a5 m.length q5, m⟩ u) := (P3.out.below (bdrewN _ _)).below gu
                have Q5 : Hid (OwnT u (w.heap.size + 1) (.slice am (q + 1) cm) (l ++ [⟨c2, d2, t2, .slice a5 m.length q5, m⟩])) := (Q3.out.below (bdrewN _ _)).below gu
                rw [← HAG.out, HL.out]
                clear gu P3 Q3 y5 y6 y7 ys5 P2 Q2 xt0 xt1 xt2 xt3 xa0 xa1 xa2 xa3 xa4 xb0 xb1 xb2 xb3 xb4 xc0 xc1 xc2 xc3 xc4
                have x0 : u.cell? ⟨w.heap.size, 2, none⟩ = some (.int .i64 la) := P5.out.op.bc.cell 2
                go_wp2_with fail
                go_roundg (M - (s + 1))
                case measure => omega
                case rel => exact ⟨s + 1, by omega, by go_num, P5.out, Q5.out⟩
              · go_wp2_with fail
                go_roundg (q - (i + 1))
                case measure => omega
                case rel => exact ⟨i + 1, by omega, by go_num, P1.out, Q1.out⟩
          · go_wp2_with fail
            go_ret
            exact ⟨rfl, hO.out.op.bel⟩

set_option maxRecDepth 100000 in
theorem lifted (os : Os) (started : os.Started) (H : Type) (enc : TypeId × Value → H) :
    ReturnsInHanded {} Tryz.checked os 4 .any (fun w args => (Rows.waitMoreSpec.pre enc Tryz.prog Tryz.f4 [] false w args ∧ laidMetH Tryz.prog laid5 w) ∧ sizedMet enc Tryz.prog Tryz.f4 (OpenSpec.ofChange Rows.waitMoreSpec) false w args)
      (Rows.waitMoreSpec.post enc Tryz.prog Tryz.f4 false true false false) := by
  refine returnsInHanded_of_change_and (C := Tryz.checked) (X := fun w _ => laidMetH Tryz.prog laid5 w) (fun _ _ _ hh h => h.of_heap hh) own started (by kernel_rfl) Tryz.func4
    (ChangeSpec.witness_shaped (enc := enc) (C := Tryz.checked) (os := os) (X := fun w _ => laidMetH Tryz.prog laid5 w) false (World.doorLaid Tryz.prog 62 os) #[.agg #[.int .i64 0, .int .i64 0, .int .i64 0, .int .i64 0, .slice none 0 0], .slice none 0 0, .agg #[.int .i64 0, .int .i64 0, .int .i64 0, .slice none 0 0]] 8 rfl (World.shaped_of_RefB (by kernel_rfl) (by kernel_rfl)) (by kernel_rfl) (by kernel_rfl) (by kernel_rfl) (door_met os _)) ?_
  intro W base args ds gs before hval0 hW _ _ hL _
  have hval : ∀ (j : Nat) t v, Tryz.f4.params[j]? = some t → args[j]? = some v → Value.okWide Tryz.prog W .any base t v := hval0
  have hW' := hW
  obtain ⟨p, q, hA0, hV, rfl, hfz, hnd⟩ := hW
  have hA : DataW.TrodAll enc Tryz.prog W 0 (fun _ => true) true Tryz.f4.params.toList args.toList ds p := hA0
  rw [Tryz.params4] at hA hval
  obtain ⟨v0, vs0, d0, ds0, p0, q0, hargs, rfl, rfl, h0, r0⟩ := trodAll_cons hA
  obtain ⟨v1, vs1, d1, ds1, p1, q1, rfl, rfl, rfl, h1, r1⟩ := trodAll_cons r0
  obtain ⟨v2, vs2, d2, ds2, p2, q2, rfl, rfl, rfl, h2, r2⟩ := trodAll_cons r1
  obtain ⟨rfl, rfl, rfl⟩ := trodAll_nil r2
  obtain rfl : args = #[v0, v1, v2] := by cases args; simp_all
  obtain ⟨rfl, rfl⟩ := trodVars_none hV
  have k0 := h0
  have lt0 : ∀ x ∈ p0, x.block < W.heap.size := by obtain ⟨m, hm⟩ := k0; exact DataW.trod_lt m _ _ _ hm
  obtain ⟨co0, sy0, la0, mo0, s0, n0, m0, z0, rfl, w0, x00, x01, x02, x03⟩ := open_config (hval 0 24 v0 rfl rfl) h0
  obtain ⟨s1, n1, m1, rfl⟩ := okWide_slice Tryz.underlying25 (hval 1 25 v1 rfl rfl)
  have k1 := h1
  have lt1 : ∀ x ∈ p1, x.block < W.heap.size := by obtain ⟨m, hm⟩ := k1; exact DataW.trod_lt m _ _ _ hm
  obtain ⟨z1, w1⟩ := (by obtain ⟨fuel, hf⟩ := h1; exact open_tsks hf : ∃ zs, ATsks W s1 n1 m1 zs)
  have k2 := h2
  have lt2 : ∀ x ∈ p2, x.block < W.heap.size := by obtain ⟨m, hm⟩ := k2; exact DataW.trod_lt m _ _ _ hm
  obtain ⟨c2, d2, t2, s2, n2, m2, z2, rfl, w2, x20, x21, x22⟩ := open_task (hval 2 34 v2 rfl rfl) h2
  clear hA0 hval0
  simp only [List.append_nil] at hW'
  refine (walk co0 sy0 la0 mo0 s0 n0 m0 z0 s1 n1 m1 z1 c2 d2 t2 s2 n2 m2 z2 W (env_of_laid hL) w0 x00 x01 x02 x03 w1 w2 x20 x21 x22).mono fun e W' ⟨he, bel⟩ => ?_
  subst he
  exact ⟨_, rfl, _, _, _, [], _, [], hW', trodAll_mk1 (shut_bool Tryz.underlying4 _), (trodAll_cons_mk (Below.trod laidOut (by kernel_rfl) (of_decide_eq_true (by kernel_rfl)) k0 bel lt0) (trodAll_cons_mk (Below.trod laidOut (by kernel_rfl) (of_decide_eq_true (by kernel_rfl)) k1 bel lt1) (trodAll_cons_mk (Below.trod laidOut (by kernel_rfl) (of_decide_eq_true (by kernel_rfl)) k2 bel lt2) trodAll_mk0))), rfl, bel.frame _, fun h => by cases h⟩

theorem closed : joinedFacts Tryz.pinned.checked.prog 4 Tryz.f4 Rows.waitMoreSpec Rows.waitMoreRow = true := by
  generalize hP : Tryz.pinned.checked.prog = P
  simp only [joinedFacts, Bool.and_eq_true]
  subst hP
  refine ⟨⟨⟨⟨⟨⟨⟨⟨⟨⟨⟨⟨⟨⟨⟨⟨⟨⟨⟨⟨⟨⟨⟨⟨⟨⟨⟨⟨⟨⟨⟨?k1, ?k2⟩, ?k3⟩, ?k4⟩, ?k5⟩, ?k6⟩, ?k7⟩, ?k8⟩, ?k9⟩, ?k10⟩, ?k11⟩, ?k12⟩, ?k13⟩, ?k14⟩, ?k15⟩, ?k16⟩, ?k17⟩, ?k18⟩, ?k19⟩, ?k20⟩, ?k21⟩, ?k22⟩, ?k23⟩, ?k24⟩, ?k25⟩, ?k26⟩, ?k27⟩, ?k28⟩, ?k29⟩, ?k30⟩, ?k31⟩, ?k32⟩
  case k26 => exact head_enter
  case k27 => show (false == Tryz.prog.liftsFinal) = true; rw [head_lifts]; rfl
  case k28 => exact head_make
  all_goals kernel_rfl
theorem over : Rows.waitMoreRow.holds Tryz.pinned (OpenSpec.ofChange Rows.waitMoreSpec) :=
  OpenClaim.holds_of_wide 4 Tryz.f4 rfl rfl rfl rfl rfl rfl rfl ⟨rfl, rfl, rfl, rfl, rfl⟩ rfl rfl rfl rfl rfl (by kernel_rfl) Tryz.func4 closed
    (of_decide_eq_true (by kernel_rfl)) (by unfold Func.isWrapper; first | (rw [if_pos (by decide +kernel)]; kernel_rfl) | (rw [if_neg (by decide +kernel)]; exact ⟨rfl, rfl⟩))
    (fun os started H enc _ => lifted os started H enc)

theorem proved : Rows.WaitMoreCardSaid :=
  Claim7.holds_tied_plain_at .later [] [.data, .data, .data, .sentinel, .sentinel] true (true, "4ddcd03471c152e483e2d1372070b2dd351fc06eba3ed385e3ebe4df4fc3b5c0") true
    over (fun _ h => by cases h) (by kernel_rfl) (fun _ h => by cases h) waitMore_row_tie rfl ⟨rfl, rfl⟩ head_main rfl
    (fun f fn hf hfn => by
      obtain rfl : f = 4 := Option.some.inj ((show Tryz.prog.funcNamed "hortator/hortatorlaw12.WaitMore" = some 4 by kernel_rfl).symm.trans hf) |>.symm
      obtain rfl : fn = Tryz.f4 := (Option.some.inj (Tryz.func4.symm.trans hfn)).symm
      exact ⟨by kernel_rfl, fun j t ht => by
        rw [Tryz.params4] at ht
        match j, ht with
        | 0, ht => obtain rfl : t = 24 := by simpa using ht.symm
                   exact (show Tryz.prog.wantsStandIn 24 = false by kernel_rfl)
        | 1, ht => obtain rfl : t = 25 := by simpa using ht.symm
                   exact (show Tryz.prog.wantsStandIn 25 = false by kernel_rfl)
        | 2, ht => obtain rfl : t = 34 := by simpa using ht.symm
                   exact (show Tryz.prog.wantsStandIn 34 = false by kernel_rfl)
        | (_ + 3), ht => simp at ht⟩)
    (by kernel_rfl)
end Go.Proofs.YtakdliecjfeedaaGreatDoor.waitMore
