/-
PROVED: the statement hortatorlaw12.LoadPieces answers true over the landed packages: each piece is asked of its core, with its own time; whole ones with what they wait.
  CONDITIONS: the listed variables of strconv and math/bits hold what the program's text lays (the card ties them).
-/
import Derived.Test.YtakdliecjfeedaaGreatDoorRows
import Derived.Test.YtakdliecjfeedaaGreatDoorTie
import Derived.Test.YtakdliecjfeedaaGreatDoorCards
import Derived.WalkKit
import Derived.ProofKit
import Derived.OpenShut
import Derived.ShutString
import Derived.ChangeOld
import Derived.Below
import Derived.SevenTiedAt
import Derived.Test.YtakdliecjfeedaaGreatDoorLaid
import Derived.Test.YtakdliecjfeedaaGreatDoorHead
import Derived.Carry
import Derived.Deep.Cut
import Derived.Deep.CutRange
import Derived.Deep.RegionWith
import Derived.Deep.RegionHeld3
import Derived.Deep.LoopGhost
import Derived.Deep.QuietTactic
import Derived.BigQuiet
import Derived.Test.YtakdliecjfeedaaGreatDoorPMath
import Derived.Test.YtakdliecjfeedaaGreatDoorBegun12
import Derived.Test.YtakdliecjfeedaaGreatDoorArgT
namespace Go.Proofs.YtakdliecjfeedaaGreatDoor.loadPieces
open Go.ChangeShapes Go.WideShapes Go.ChangeAt Go.RowKit
open Go.ChangeMaps (open_string shut_string)
set_option linter.unusedVariables false

theorem own : ownKnob Tryz.prog.godebug = none := by kernel_rfl
theorem laidOut : laidOutB Tryz.prog = true := by kernel_rfl

set_option maxHeartbeats 8000000 in
set_option maxRecDepth 100000 in
theorem walk (co0 sy0 la0 mo0 : Int) (s0 : Option Addr) (n0 m0 : Nat) (z0 : List Int) (s1 : Option Addr) (n1 m1 : Nat) (z1 : List TI) (s2 : Option Addr) (n2 m2 : Nat) (z2 : List Int) (w : World) (hE : Env w) (w0 : AInts w s0 n0 m0 z0) (x00 : (Lit.int .i64 co0).wf = true) (x01 : (Lit.int .i64 sy0).wf = true) (x02 : (Lit.int .i64 la0).wf = true) (x03 : (Lit.int .i64 mo0).wf = true) (w1 : ATsks w s1 n1 m1 z1) (w2 : ANums w s2 n2 z2) :
    Calls Tryz.prog 9 #[.agg #[.int .i64 co0, .int .i64 sy0, .int .i64 la0, .int .i64 mo0, .slice s0 n0 m0], .slice s1 n1 m1, .slice s2 n2 m2] w fun e w' => e = .returned (.bool true) ∧ Below w.heap.size w w' := by
  have AK : Hid (ANums w s2 n2 z2) := w2
  clear w2
  have HE : Hid (Env w) := hE
  have AC : Hid (AInts w s0 n0 m0 z0) := w0
  have AT : Hid (ATsks w s1 n1 m1 z1) := w1
  clear hE w0 w1
  have BW : Hid (Below w.heap.size w (w.alloc (.cells #[.int .i64 co0, .int .i64 sy0, .int .i64 la0, .int .i64 mo0, .slice s0 n0 m0] 24))) := balloc _ _
  have bc : Blk (w.alloc (.cells #[.int .i64 co0, .int .i64 sy0, .int .i64 la0, .int .i64 mo0, .slice s0 n0 m0] 24)) w.heap.size #[.int .i64 co0, .int .i64 sy0, .int .i64 la0, .int .i64 mo0, .slice s0 n0 m0] 24 := heap_alloc_new _ _
  go_enter Tryz.func9, Tryz.ntmps9
  go_wp2_with fail
  generalize hW : w.alloc _ = W at BW bc ⊢
  clear hW
  refine (begun12_any W (HE.out.below BW.out)).mono ?_
  rintro e v1 ⟨rfl, g1⟩
  have G1 : Hid (Below w.heap.size w v1) := btrans BW.out g1
  have bc1 := bc.below g1
  clear g1 bc
  have c0 := bc1.cell 0
  have fc0 := bc1.frozen 0
  have c1 := bc1.cell 1
  have fc1 := bc1.frozen 1
  have c2 := bc1.cell 2
  have fc2 := bc1.frozen 2
  have c3 := bc1.cell 3
  have fc3 := bc1.frozen 3
  have c4 := bc1.cell 4
  have fc4 := bc1.frozen 4
  simp at c0 c1 c2 c3 c4
  go_wp2_with fail
  refine (cfg12_any co0 sy0 la0 mo0 s0 n0 m0 z0 v1 (AC.out.below G1.out)).mono ?_
  rintro e v2 ⟨co, sy, la, mo, ad, n, k, res, rfl, hcf, hrn, own2, g2⟩
  have hv1 := bc1.lt
  have G2 := btrans G1.out g2
  have bc2 := bc1.below g2
  clear c0 fc0 c1 fc1 c2 fc2 c3 fc3 c4 fc4 bc1 g2
  have c0 := bc2.cell 0
  have fc0 := bc2.frozen 0
  have c1 := bc2.cell 1
  have fc1 := bc2.frozen 1
  have c2 := bc2.cell 2
  have fc2 := bc2.frozen 2
  have c3 := bc2.cell 3
  have fc3 := bc2.frozen 3
  have c4 := bc2.cell 4
  have fc4 := bc2.frozen 4
  simp at c0 c1 c2 c3 c4
  have bc3 := set5_box bc2 (.int .i64 co) (.int .i64 sy) (.int .i64 la) (.int .i64 mo) (.slice ad n k)
  have o5 := only5 v2 w.heap.size (.int .i64 co) (.int .i64 sy) (.int .i64 la) (.int .i64 mo) (.slice ad n k)
  have own3 := own_off own2 o5 (fun j hj => by have := (own2.lt j hj).1; simp; omega)
  have G3 := set5_bel G2 (Nat.le_refl _) (.int .i64 co) (.int .i64 sy) (.int .i64 la) (.int .i64 mo) (.slice ad n k)
  go_wp2_with fail
  generalize hZ : World.setCell _ _ _ = v3 at bc3 own3 G3 ⊢
  clear hZ o5 own2 G2 bc2 hv1 c0 fc0 c1 fc1 c2 fc2 c3 fc3 c4 fc4
  have HI3 : Hid (Ints v3 (.slice ad n k) res) := own_ints (by rw [hrn]; exact own3)
  have hv3 := bc3.lt
  have HG3 : Hid (Below w.heap.size w v3) := G3
  have HB3 : Hid (Blk v3 w.heap.size #[.int .i64 co, .int .i64 sy, .int .i64 la, .int .i64 mo, .slice ad n k] 24) := bc3
  clear own3 bc3 G3
  refine (tsk12_any co sy la mo ad n k s1 n1 m1 z1 v3 (AT.out.below HG3.out)).mono ?_
  rintro e v4 ⟨b, q, kb, l, rfl, hlq, q12, hall, ot, g4⟩
  have KN : Hid (Kn12 co sy la mo n res q l) := ⟨hcf, hrn, hlq, q12, hall⟩
  have O4 : Hid (Op12 w co sy la mo ad n k res b q kb l v4) := ⟨HB3.out.below g4, HI3.out.below g4, ot.mono (by omega), btrans HG3.out g4⟩
  clear hcf hrn hlq hall ot g4 HI3 HG3 HB3 G1 BW HE AC AT hv3
  obtain ⟨N, hNN⟩ : ∃ N : Nat, co = N := ⟨co.toNat, by have := (cfgB_iff.1 KN.out.cfg).1; simp only at this; omega⟩
  subst hNN
  have c0 : v4.cell? ⟨w.heap.size, 0, none⟩ = some (.int .i64 N) := O4.out.bc.cell 0
  have c1 : v4.cell? ⟨w.heap.size, 1, none⟩ = some (.int .i64 sy) := O4.out.bc.cell 1
  have c2 : v4.cell? ⟨w.heap.size, 2, none⟩ = some (.int .i64 la) := O4.out.bc.cell 2
  have c3 : v4.cell? ⟨w.heap.size, 3, none⟩ = some (.int .i64 mo) := O4.out.bc.cell 3
  have c4 : v4.cell? ⟨w.heap.size, 4, none⟩ = some (.slice ad n k) := O4.out.bc.cell 4
  go_wp2_with fail
  refine (plans_at KN.out rfl s2 n2 m2 z2 (AK.out.below O4.out.bel) O4.out).mono ?_
  rintro e v5 ⟨pb, pk, ps, rfl, kp, op, op2, g5⟩
  have KP : Hid (Kn13 N l q ps) := kp
  have P0 : Hid (Op13 w N sy la mo ad n k res b q kb l pb pk ps v5) := op
  have hN6 := kp.n6
  have hq12 := KN.out.q12
  clear kp op op2 g5 O4 c0 c1 c2 c3 c4
  have c0 : v5.cell? ⟨w.heap.size, 0, none⟩ = some (.int .i64 N) := P0.out.op.bc.cell 0
  have c1 : v5.cell? ⟨w.heap.size, 1, none⟩ = some (.int .i64 sy) := P0.out.op.bc.cell 1
  have c2 : v5.cell? ⟨w.heap.size, 2, none⟩ = some (.int .i64 la) := P0.out.op.bc.cell 2
  have c3 : v5.cell? ⟨w.heap.size, 3, none⟩ = some (.int .i64 mo) := P0.out.op.bc.cell 3
  have c4 : v5.cell? ⟨w.heap.size, 4, none⟩ = some (.slice ad n k) := P0.out.op.bc.cell 4
  go_wp2_with fail
  refine (lall_at KN.out KP.out rfl P0.out).mono ?_
  rintro e x1 ⟨ga, rfl, ra, gg⟩
  have P1 : Hid (Op13 w N sy la mo ad n k res b q kb l pb pk ps x1) := P0.out.below gg
  have RA : Hid (Rw x1 (.slice (some ⟨ga, 0, none⟩) N N) (rowsL la res l ps N q)) := ra
  clear ra gg P0 c0 c1 c2 c3 c4
  have HT : Hid (sumN (lens (rowsL la res l ps N q)) = sumN (plens ps)) := by
    have h := len_all KP.out la res q (Nat.le_refl _)
    rw [List.take_of_length_le (by unfold plens; rw [List.length_map, KP.out.len]; exact Nat.le_refl _)] at h
    exact h
  have HTB : Hid (∀ k, sumN ((plens ps).take k) ≤ sumN (plens ps)) := sumN_le _
  have HRB : Hid (∀ k, sumN ((lens (rowsL la res l ps N q)).take k) ≤ sumN (plens ps)) := fun k => by rw [← HT.out]; exact sumN_le _ _
  have HTT : Hid (sumN (plens ps) ≤ 24000) := plens_bd KP.out hq12
  obtain ⟨T, hT⟩ : ∃ T, sumN (plens ps) = T := ⟨_, rfl⟩
  rw [hT] at HT HTB HRB HTT
  have hTT := HTT.out
  have HTE : Hid (sumN (plens ps) = T) := hT
  clear hT
  go_wp2_with fail
  go_loopg [11, 12] q (fun gk x i2 wr => ∃ i : Nat, gk + i = q ∧ i2 = .int .i64 i ∧ x = .int .i64 (sumN ((plens ps).take i) : Nat) ∧ Hid (Op13 w N sy la mo ad n k res b q kb l pb pk ps wr) ∧ Hid (Rw wr (.slice (some ⟨ga, 0, none⟩) N N) (rowsL la res l ps N q)))
  case atStart => exact ⟨0, by omega, rfl, rfl, P1.out, RA.out⟩
  case round =>
    obtain ⟨i, k1, rfl, rfl, hP, hA⟩ := hrel
    have Q0 : Hid (Op13 w N sy la mo ad n k res b q kb l pb pk ps wr) := hP.out
    have A0 : Hid (Rw wr (.slice (some ⟨ga, 0, none⟩) N N) (rowsL la res l ps N q)) := hA.out
    clear hP hA P1 RA
    have hb := HTB.out i
    by_cases hlt : i < q
    · obtain ⟨⟨kd, pu, m⟩, hy⟩ : ∃ x, ps[i]? = some x := ⟨_, List.getElem?_eq_getElem (by rw [KP.out.len]; exact hlt)⟩
      obtain ⟨bp, op, ep, -, y1, y2, ym⟩ := Q0.out.pl.plns.at hy
      obtain ⟨ap, cp, epu⟩ := ym.form
      simp only at epu
      subst epu
      subst ep
      simp only at y1 y2
      have hs : sumN ((plens ps).take (i + 1)) = sumN ((plens ps).take i) + m.length := sumN_take (by unfold plens; rw [List.getElem?_map, hy]; rfl)
      have hb2 := HTB.out (i + 1)
      have HS : Hid (sumN ((plens ps).take (i + 1)) = sumN ((plens ps).take i) + m.length) := hs
      rw [hs] at hb2
      obtain ⟨Z, hZ⟩ : ∃ Z, sumN ((plens ps).take i) = Z := ⟨_, rfl⟩
      rw [hZ] at hb hb2 HS ⊢
      obtain ⟨M, hM⟩ : ∃ M, m.length = M := ⟨_, rfl⟩
      rw [hM] at hb2 HS y2
      have q0 : (0 : Int) ≤ (i : Int) := by omega
      have q1 : (i : Int) < (q : Int) := by omega
      have W1 : IntKind.i64.wrap ((Z : Int) + (M : Int)) = Z + M := IntWalk.i64_in _ (by omega)
      clear hy ym hs hZ hM
      go_wp2_with fail
      try go_big_quiet (fail)
      try go_wp2_with fail
      go_roundg (q - (i + 1))
      case measure => omega
      case rel => exact ⟨i + 1, by omega, by go_num, by rw [HS.out]; simp, (by first | exact Q0.out | exact Q0.out.below (bdrew _) | exact Q0.out.below (bdrewN _ _)), (by first | exact A0.out | exact A0.out.below (bdrew _) | exact A0.out.below (bdrewN _ _))⟩
    · have e : q = i := by omega
      subst e
      have e2 : sumN ((plens ps).take q) = T := by rw [List.take_of_length_le (by unfold plens; rw [List.length_map, KP.out.len]; exact Nat.le_refl _)]; exact HTE.out
      rw [e2]
      clear e2 hb hlt
      go_wp2_with fail
      go_loopg [11, 13] N (fun gk x i2 wr => ∃ k9 : Nat, gk + k9 = N ∧ i2 = .int .i64 k9 ∧ x = .int .i64 ((T : Int) - (sumN ((lens (rowsL la res l ps N q)).take k9) : Nat)) ∧ Hid (Op13 w N sy la mo ad n k res b q kb l pb pk ps wr) ∧ Hid (Rw wr (.slice (some ⟨ga, 0, none⟩) N N) (rowsL la res l ps N q)))
      case atStart => exact ⟨0, by omega, rfl, by simp [sumN], Q0.out, A0.out⟩
      case round =>
        rename World => wk
        obtain ⟨k9, k2, rfl, rfl, hP, hA⟩ := hrel
        have P2 : Hid (Op13 w N sy la mo ad n k res b q kb l pb pk ps wk) := hP.out
        have A2 : Hid (Rw wk (.slice (some ⟨ga, 0, none⟩) N N) (rowsL la res l ps N q)) := hA.out
        clear hP hA Q0 A0
        have hb := HRB.out k9
        by_cases hkN : k9 < N
        · obtain ⟨r, hr⟩ : ∃ r, (rowsL la res l ps N q)[k9]? = some r := ⟨_, List.getElem?_eq_getElem (by rw [rowsL_length]; exact hkN)⟩
          have HRR : Hid ((rowsL la res l ps N q)[k9]? = some r) := hr
          obtain ⟨ar, cr, y1, ys⟩ := A2.out.at hr
          have hs : sumN ((lens (rowsL la res l ps N q)).take (k9 + 1)) = sumN ((lens (rowsL la res l ps N q)).take k9) + r.length := sumN_take (by unfold lens; rw [List.getElem?_map, hr]; rfl)
          have hb2 := HRB.out (k9 + 1)
          have HS : Hid (sumN ((lens (rowsL la res l ps N q)).take (k9 + 1)) = sumN ((lens (rowsL la res l ps N q)).take k9) + r.length) := hs
          rw [hs] at hb2
          obtain ⟨Z, hZ⟩ : ∃ Z, sumN ((lens (rowsL la res l ps N q)).take k9) = Z := ⟨_, rfl⟩
          rw [hZ] at hb hb2 HS ⊢
          obtain ⟨L, hL⟩ : ∃ L, r.length = L := ⟨_, rfl⟩
          have HL : Hid (r.length = L) := hL
          rw [hL] at hb2 HS y1 ys
          have SR : Hid (Secs wk (.slice ar L cr) r) := ys
          have q0 : (0 : Int) ≤ (k9 : Int) := by omega
          have q1 : (k9 : Int) < (N : Int) := by omega
          have W1 : IntKind.i64.wrap ((T : Int) - (Z : Int) - (L : Int)) = (T : Int) - Z - L := IntWalk.i64_in _ (by omega)
          clear hr hs hZ hL ys
          go_wp2_with fail
          try go_big_quiet (fail)
          try go_wp2_with fail
          go_loopg [14] L (fun gk i2 wz => ∃ j : Nat, gk + j = L ∧ i2 = .int .i64 j ∧ Hid (Op13 w N sy la mo ad n k res b q kb l pb pk ps wz) ∧ Hid (Rw wz (.slice (some ⟨ga, 0, none⟩) N N) (rowsL la res l ps N q)) ∧ Hid (Below wk.heap.size wk wz))
          case atStart => exact ⟨0, by omega, rfl, (by first | exact P2.out | exact P2.out.below (bdrew _) | exact P2.out.below (bdrewN _ _)), (by first | exact A2.out | exact A2.out.below (bdrew _) | exact A2.out.below (bdrewN _ _)), (by first | exact Below.refl _ _ | exact bdrew _ | exact bdrewN _ _)⟩
          case round =>
            rename World => wj
            obtain ⟨j, k3, rfl, hP, hA, hB⟩ := hrel
            have P3 : Hid (Op13 w N sy la mo ad n k res b q kb l pb pk ps wj) := hP.out
            have A3 : Hid (Rw wj (.slice (some ⟨ga, 0, none⟩) N N) (rowsL la res l ps N q)) := hA.out
            have B3 : Hid (Below wk.heap.size wk wj) := hB.out
            have y2 := cell_keep y1 hB.out
            clear hP hA hB P2 A2
            by_cases hjL : j < L
            · obtain ⟨⟨x1, x2, x3⟩, hx⟩ : ∃ x, r[j]? = some x := ⟨_, List.getElem?_eq_getElem (by rw [HL.out]; exact hjL)⟩
              obtain ⟨bx, ebx, _, u1, u2, u3⟩ := secs_at (SR.out.below B3.out) hx
              subst ebx
              simp only at u1 u2 u3
              obtain ⟨is, Xs, pvs, es, pcs, hi1, hi2, hi3, hi4, hi5, hi6⟩ := mem_all KP.out la res q (Nat.le_refl _) HRR.out (List.mem_of_getElem? hx)
              have HW : Hid (l[is]? = some Xs ∧ ps[is]? = some pvs ∧ pvs.m[es]? = some pcs ∧ pcs.core = (k9 : Int) ∧ (⟨x1, x2, x3⟩ : Sec) = ⟨pcs.c + (if pvs.k = 1 then waitV la res l is else 0), pcs.len, Xs.t⟩) := ⟨hi2, hi3, hi4, hi5, hi6⟩
              clear hi2 hi3 hi4 hi5 hi6 hx
              have j0 : (0 : Int) ≤ (j : Int) := by omega
              have j1 : (j : Int) < (L : Int) := by omega
              have P4 : Hid (Op13 w N sy la mo ad n k res b q kb l pb pk ps (wj.alloc (.cells #[.int .i64 x1, .int .i64 x2, .int .i64 x3] 55))) := P3.out.below (balloc _ _)
              have A4 : Hid (Rw (wj.alloc (.cells #[.int .i64 x1, .int .i64 x2, .int .i64 x3] 55)) (.slice (some ⟨ga, 0, none⟩) N N) (rowsL la res l ps N q)) := A3.out.below (balloc _ _)
              have B4 : Hid (Below wk.heap.size wk (wj.alloc (.cells #[.int .i64 x1, .int .i64 x2, .int .i64 x3] 55))) := btrans B3.out (balloc _ _)
              have X4 : Hid (Blk (wj.alloc (.cells #[.int .i64 x1, .int .i64 x2, .int .i64 x3] 55)) wj.heap.size #[.int .i64 x1, .int .i64 x2, .int .i64 x3] 55) := heap_alloc_new _ _
              go_wp2_with fail
              generalize wj.alloc _ = w4 at P4 A4 B4 X4 ⊢
              clear u1 u2 u3 y2
              go_loopg [16, 17] q (fun gk f i2 wy => ∃ (i : Nat) (β : Bool), gk + i = q ∧ i2 = .int .i64 i ∧ f = .bool β ∧ (i ≤ is ∨ β = true) ∧ Hid (Op13 w N sy la mo ad n k res b q kb l pb pk ps wy) ∧ Hid (Rw wy (.slice (some ⟨ga, 0, none⟩) N N) (rowsL la res l ps N q)) ∧ Hid (Below wk.heap.size wk wy) ∧ Hid (Blk wy wj.heap.size #[.int .i64 x1, .int .i64 x2, .int .i64 x3] 55))
              case atStart => exact ⟨0, false, by omega, rfl, rfl, .inl (by omega), P4.out, A4.out, B4.out, X4.out⟩
              case round =>
                rename World => wi
                obtain ⟨i, β, k4, rfl, rfl, hf, hP, hA, hB, hX⟩ := hrel
                have P5 : Hid (Op13 w N sy la mo ad n k res b q kb l pb pk ps wi) := hP.out
                have A5 : Hid (Rw wi (.slice (some ⟨ga, 0, none⟩) N N) (rowsL la res l ps N q)) := hA.out
                have B5 : Hid (Below wk.heap.size wk wi) := hB.out
                have X5 : Hid (Blk wi wj.heap.size #[.int .i64 x1, .int .i64 x2, .int .i64 x3] 55) := hX.out
                clear hP hA hB hX P4 A4 B4 X4
                by_cases hlt : i < q
                · obtain ⟨⟨c, d, t, xu, xm⟩, hx⟩ : ∃ x, l[i]? = some x := ⟨_, List.getElem?_eq_getElem (by rw [KN.out.lq]; exact hlt)⟩
                  obtain ⟨⟨kd, pu, m⟩, hy⟩ : ∃ x, ps[i]? = some x := ⟨_, List.getElem?_eq_getElem (by rw [KP.out.len]; exact hlt)⟩
                  obtain ⟨bt, ot, et, -, t1, t2, t3, t4, ys⟩ := P5.out.op.own.tks.at hx
                  obtain ⟨a2, k2, exu⟩ := ys.form
                  simp only at exu
                  subst exu
                  obtain ⟨bp, op, ep, -, y1, y2, ym⟩ := P5.out.pl.plns.at hy
                  obtain ⟨ap, cp, epu⟩ := ym.form
                  simp only at epu
                  subst epu
                  simp only at y1 y2 t1 t2 t3 t4
                  have HX : Hid (l[i]? = some ⟨c, d, t, .slice a2 xm.length k2, xm⟩) := hx
                  have HY : Hid (ps[i]? = some ⟨kd, .slice ap m.length cp, m⟩) := hy
                  have q0 : (0 : Int) ≤ (i : Int) := by omega
                  have q1 : (i : Int) < (q : Int) := by omega
                  subst ep et
                  obtain ⟨M, hM⟩ : ∃ M, m.length = M := ⟨_, rfl⟩
                  have HM : Hid (m.length = M) := hM
                  have YM : Hid (Pcs wi (.slice ap m.length cp) m) := ym
                  rw [hM] at YM y2
                  have HES : Hid (i = is → es < M) := fun h => by
                    subst h
                    have h1 := HW.out.2.1
                    rw [HY.out] at h1
                    simp at h1
                    have h2 := HW.out.2.2.1
                    rw [← h1] at h2
                    rw [← hM]
                    exact (List.getElem?_eq_some_iff.1 h2).1
                  have hok := KP.out.ok i _ _ HX.out HY.out
                  have HOK : Hid (PlOk N ⟨c, d, t, .slice a2 xm.length k2, xm⟩ ⟨kd, .slice ap m.length cp, m⟩) := hok
                  have hXt := KN.out.all _ (List.mem_of_getElem? HX.out)
                  obtain ⟨z1, z2, z3, z4, -, -⟩ := tskB_facts hXt
                  simp only [TV.tsk] at z1 z2 z3 z4
                  obtain ⟨V, hV⟩ : ∃ V, waitV la res l i = V := ⟨_, rfl⟩
                  have HV : Hid (waitV la res l i = V) := hV
                  have hVb : 0 ≤ V ∧ V ≤ 2000000 := by
                    have hla := KN.out.lag
                    have h1 := wSum_bd (la := la) (res := res) hla.1 hla.2 (show l.length ≤ 1000 by have := KN.out.lq; omega) (fun x hx s hs => ((tv_secs (KN.out.all x hx)).2 s hs).2) i xm.length
                    have e := waitV_at (la := la) (res := res) HX.out
                    rw [hV] at e
                    simp only at e
                    rw [← e] at h1
                    have := (tv_secs hXt).1
                    simp only at this
                    omega
                  have hM2 : M ≤ 2 := by have := hok.1; simp only at this; omega
                  clear hx hy ys ym hM hok hXt hV
                  have hsz := P5.out.op.bc.lt
                  go_wp2_with fail
                  go_loopg [16, 92] M (fun gk f e2 wv => ∃ (e : Nat) (β : Bool), gk + e = M ∧ e2 = .int .i64 e ∧ f = .bool β ∧ (i < is ∨ (i = is ∧ e ≤ es) ∨ β = true) ∧ Hid (Op13 w N sy la mo ad n k res (some ⟨bt, ot, none⟩) q kb l (some ⟨bp, op, none⟩) pk ps wv) ∧ Hid (Rw wv (.slice (some ⟨ga, 0, none⟩) N N) (rowsL la res l ps N q)) ∧ Hid (Below wi.heap.size wi wv) ∧ Hid (Blk wv wj.heap.size #[.int .i64 x1, .int .i64 x2, .int .i64 x3] 55))
                  case atStart => exact ⟨0, β, by omega, rfl, rfl, (by rcases hf with h | h; (by_cases h2 : i = is; exact .inr (.inl ⟨h2, Nat.zero_le _⟩); exact .inl (by omega)); exact .inr (.inr h)), P5.out, A5.out, Below.refl _ _, X5.out⟩
                  case round =>
                    rename World => wv
                    obtain ⟨e, γ, k5, rfl, rfl, hf2, hP, hA, hB, hX⟩ := hrel
                    have P6 : Hid (Op13 w N sy la mo ad n k res (some ⟨bt, ot, none⟩) q kb l (some ⟨bp, op, none⟩) pk ps wv) := hP.out
                    have A6 : Hid (Rw wv (.slice (some ⟨ga, 0, none⟩) N N) (rowsL la res l ps N q)) := hA.out
                    have B6 : Hid (Below wi.heap.size wi wv) := hB.out
                    have X6 : Hid (Blk wv wj.heap.size #[.int .i64 x1, .int .i64 x2, .int .i64 x3] 55) := hX.out
                    clear hP hA hB hX
                    have v1 := cell_keep y1 B6.out
                    have v3 := cell_keep t3 B6.out
                    by_cases heM : e < M
                    · obtain ⟨⟨pq, po, pl, pc⟩, hx⟩ : ∃ x, m[e]? = some x := ⟨_, List.getElem?_eq_getElem (by rw [HM.out]; exact heM)⟩
                      obtain ⟨b3, o3, e3, _, u1, u2, u3, u4⟩ := (YM.out.below B6.out).at hx
                      subst e3
                      simp only at u1 u2 u3 u4
                      have HPC : Hid (m[e]? = some ⟨pq, po, pl, pc⟩) := hx
                      have HKC : Hid (kd = 1 → pc = c) := fun h => (HOK.out.2.2 h _ (List.mem_of_getElem? hx)).1
                      have HWIT : Hid (∀ cv : Int, cv = pc + (if kd = 1 then V else 0) → i = is → e = es → pq = (k9 : Int) ∧ x1 = cv ∧ x2 = pl ∧ x3 = t) := fun cv hcv h1 h2 => by
                        subst h1 h2
                        obtain ⟨w1, w2, w3, w4, w5⟩ := HW.out
                        rw [HX.out] at w1
                        rw [HY.out] at w2
                        simp only [Option.some.injEq] at w1 w2
                        subst w1 w2
                        simp only at w3 w5
                        rw [HPC.out] at w3
                        simp only [Option.some.injEq] at w3
                        subst w3
                        rw [HV.out] at w5
                        simp only [Sec.mk.injEq] at w4 w5
                        exact ⟨w4, by rw [hcv]; exact w5.1, w5.2.1, w5.2.2⟩
                      clear hx
                      have P7 : Hid (Op13 w N sy la mo ad n k res (some ⟨bt, ot, none⟩) q kb l (some ⟨bp, op, none⟩) pk ps (wv.alloc (.cells #[.int .i64 pq, .int .i64 po, .int .i64 pl, .int .i64 pc] 60))) := P6.out.below (balloc _ _)
                      have A7 : Hid (Rw (wv.alloc (.cells #[.int .i64 pq, .int .i64 po, .int .i64 pl, .int .i64 pc] 60)) (.slice (some ⟨ga, 0, none⟩) N N) (rowsL la res l ps N q)) := A6.out.below (balloc _ _)
                      have B7 : Hid (Below wi.heap.size wi (wv.alloc (.cells #[.int .i64 pq, .int .i64 po, .int .i64 pl, .int .i64 pc] 60))) := btrans B6.out (balloc _ _)
                      have X7 : Hid (Blk (wv.alloc (.cells #[.int .i64 pq, .int .i64 po, .int .i64 pl, .int .i64 pc] 60)) wj.heap.size #[.int .i64 x1, .int .i64 x2, .int .i64 x3] 55) := X6.out.below (balloc _ _)
                      have PB7 : Hid (Blk (wv.alloc (.cells #[.int .i64 pq, .int .i64 po, .int .i64 pl, .int .i64 pc] 60)) wv.heap.size #[.int .i64 pq, .int .i64 po, .int .i64 pl, .int .i64 pc] 60) := heap_alloc_new _ _
                      have v1b := cell_keep v1 (balloc wv (.cells #[.int .i64 pq, .int .i64 po, .int .i64 pl, .int .i64 pc] 60))
                      have v3b := cell_keep v3 (balloc wv (.cells #[.int .i64 pq, .int .i64 po, .int .i64 pl, .int .i64 pc] 60))
                      go_upto_region 28 with fail
                      generalize hw7 : wv.alloc _ = w7 at P7 A7 B7 X7 PB7 v1b v3b ⊢
                      clear hw7 v1 v3 u1 u2 u3 u4 P6 A6 B6 X6
                      generalize hg9 : wv.heap.size = gp9 at PB7 ⊢
                      have p3 := PB7.out.cell 3
                      simp at p3
                      go_upto_if 103 with fail
                      go_cut [20] from 103 to 109 (fun x wx => ∃ cv : Int, x = .int .i64 cv ∧ cv = pc + (if kd = 1 then V else 0) ∧ Hid (Op13 w N sy la mo ad n k res (some ⟨bt, ot, none⟩) q kb l (some ⟨bp, op, none⟩) pk ps wx) ∧ Hid (Rw wx (.slice (some ⟨ga, 0, none⟩) N N) (rowsL la res l ps N q)) ∧ Hid (Below wi.heap.size wi wx) ∧ Hid (Blk wx wj.heap.size #[.int .i64 x1, .int .i64 x2, .int .i64 x3] 55) ∧ Hid (Blk wx gp9 #[.int .i64 pq, .int .i64 po, .int .i64 pl, .int .i64 pc] 60))
                      case first =>
                        by_cases hk : kd = 1
                        · have hpc := HKC.out hk
                          have d0 : (kd == 1) = true := by simp [hk]
                          have HKD : Hid (kd = 1) := hk
                          have W9 : IntKind.i64.wrap (pc + V) = pc + V := IntWalk.i64_in _ (by omega)
                          clear hk hpc
                          have xa0 : w7.cell? ⟨w.heap.size, 0, none⟩ = some (.int .i64 N) := P7.out.op.bc.cell 0
                          have xa1 : w7.cell? ⟨w.heap.size, 1, none⟩ = some (.int .i64 sy) := P7.out.op.bc.cell 1
                          have xa2 : w7.cell? ⟨w.heap.size, 2, none⟩ = some (.int .i64 la) := P7.out.op.bc.cell 2
                          have xa3 : w7.cell? ⟨w.heap.size, 3, none⟩ = some (.int .i64 mo) := P7.out.op.bc.cell 3
                          have xa4 : w7.cell? ⟨w.heap.size, 4, none⟩ = some (.slice ad n k) := P7.out.op.bc.cell 4
                          go_wp2_with fail
                          refine (rwait_at KN.out P7.out.op (i : Int) V HV.out).mono ?_
                          rintro e w8 ⟨rfl, g8⟩
                          have P8 : Hid (Op13 w N sy la mo ad n k res (some ⟨bt, ot, none⟩) q kb l (some ⟨bp, op, none⟩) pk ps w8) := P7.out.below g8
                          have A8 : Hid (Rw w8 (.slice (some ⟨ga, 0, none⟩) N N) (rowsL la res l ps N q)) := A7.out.below g8
                          have B8 : Hid (Below wi.heap.size wi w8) := btrans B7.out g8
                          have X8 : Hid (Blk w8 wj.heap.size #[.int .i64 x1, .int .i64 x2, .int .i64 x3] 55) := X7.out.below g8
                          have PB8 : Hid (Blk w8 gp9 #[.int .i64 pq, .int .i64 po, .int .i64 pl, .int .i64 pc] 60) := PB7.out.below g8
                          clear g8 xa0 xa1 xa2 xa3 xa4
                          go_wp2_with fail
                          go_meet
                          exact ⟨_, rfl, by rw [if_pos HKD.out], P8.out, A8.out, B8.out, X8.out, PB8.out⟩
                        · have d0 : (kd == 1) = false := by simp [hk]
                          go_wp2_with fail
                          go_meet
                          exact ⟨pc, rfl, by rw [if_neg hk]; omega, P7.out, A7.out, B7.out, X7.out, PB7.out⟩
                      case rest =>
                        obtain ⟨cv, rfl, hcv, hP, hA, hB, hX, hPB⟩ := hcut
                        have P8 : Hid (Op13 w N sy la mo ad n k res (some ⟨bt, ot, none⟩) q kb l (some ⟨bp, op, none⟩) pk ps wc) := hP.out
                        have A8 : Hid (Rw wc (.slice (some ⟨ga, 0, none⟩) N N) (rowsL la res l ps N q)) := hA.out
                        have B8 : Hid (Below wi.heap.size wi wc) := hB.out
                        have X8 : Hid (Blk wc wj.heap.size #[.int .i64 x1, .int .i64 x2, .int .i64 x3] 55) := hX.out
                        have PB8 : Hid (Blk wc gp9 #[.int .i64 pq, .int .i64 po, .int .i64 pl, .int .i64 pc] 60) := hPB.out
                        have HWT : Hid (i = is → e = es → pq = (k9 : Int) ∧ x1 = cv ∧ x2 = pl ∧ x3 = t) := HWIT.out cv hcv
                        clear hP hA hB hX hPB P7 A7 B7 X7 PB7 v1b v3b p3 hcv HWIT
                        have v3 := cell_keep t3 B8.out
                        have a0 : wc.cell? ⟨gp9, 0, none⟩ = some (.int .i64 pq) := PB8.out.cell 0
                        have a1 : wc.cell? ⟨gp9, 1, none⟩ = some (.int .i64 po) := PB8.out.cell 1
                        have a2 : wc.cell? ⟨gp9, 2, none⟩ = some (.int .i64 pl) := PB8.out.cell 2
                        have a3 : wc.cell? ⟨gp9, 3, none⟩ = some (.int .i64 pc) := PB8.out.cell 3
                        have b0 : wc.cell? ⟨wj.heap.size, 0, none⟩ = some (.int .i64 x1) := X8.out.cell 0
                        have b1 : wc.cell? ⟨wj.heap.size, 1, none⟩ = some (.int .i64 x2) := X8.out.cell 1
                        have b2 : wc.cell? ⟨wj.heap.size, 2, none⟩ = some (.int .i64 x3) := X8.out.cell 2
                        go_upto_region 31 with fail
                        cases γ
                        · by_cases hc : pq = (k9 : Int)
                          · subst hc
                            have d0 : ((k9 : Int) == (k9 : Int)) = true := by simp
                            by_cases g1 : x1 = cv
                            · subst g1
                              by_cases g2 : x2 = pl
                              · subst g2
                                by_cases g3 : x3 = t
                                · subst g3
                                  go_big_quiet (fail)
                                  go_wp2_with fail
                                  go_roundg (M - (e + 1))
                                  case measure => omega
                                  case rel => exact ⟨e + 1, true, by omega, by go_num, rfl, .inr (.inr rfl), P8.out.below (by first | exact bdrew _ | exact bdrewN _ _), A8.out.below (by first | exact bdrew _ | exact bdrewN _ _), btrans B8.out (by first | exact bdrew _ | exact bdrewN _ _), X8.out.below (by first | exact bdrew _ | exact bdrewN _ _)⟩
                                · have b1 : (x3 == t) = false := by simp [g3]
                                  have b2 : decide (x3 = t) = false := by simp [g3]
                                  have b3 : (x3 != t) = true := by simp [g3]
                                  go_big_quiet (fail)
                                  go_wp2_with fail
                                  go_roundg (M - (e + 1))
                                  case measure => omega
                                  case rel => exact ⟨e + 1, _, by omega, by go_num, rfl, (by rcases hf2 with h | ⟨h, h2⟩ | h; exact .inl h; (by_cases h3 : e = es; exact ((fun gg => g3 gg.2.2.2) (HWT.out h h3)).elim; exact .inr (.inl ⟨h, by omega⟩)); cases h), P8.out.below (by first | exact bdrew _ | exact bdrewN _ _), A8.out.below (by first | exact bdrew _ | exact bdrewN _ _), btrans B8.out (by first | exact bdrew _ | exact bdrewN _ _), X8.out.below (by first | exact bdrew _ | exact bdrewN _ _)⟩
                              · have b1 : (x2 == pl) = false := by simp [g2]
                                have b2 : decide (x2 = pl) = false := by simp [g2]
                                have b3 : (x2 != pl) = true := by simp [g2]
                                go_big_quiet (fail)
                                go_wp2_with fail
                                go_roundg (M - (e + 1))
                                case measure => omega
                                case rel => exact ⟨e + 1, _, by omega, by go_num, rfl, (by rcases hf2 with h | ⟨h, h2⟩ | h; exact .inl h; (by_cases h3 : e = es; exact ((fun gg => g2 gg.2.2.1) (HWT.out h h3)).elim; exact .inr (.inl ⟨h, by omega⟩)); cases h), P8.out.below (by first | exact bdrew _ | exact bdrewN _ _), A8.out.below (by first | exact bdrew _ | exact bdrewN _ _), btrans B8.out (by first | exact bdrew _ | exact bdrewN _ _), X8.out.below (by first | exact bdrew _ | exact bdrewN _ _)⟩
                            · have b1 : (x1 == cv) = false := by simp [g1]
                              have b2 : decide (x1 = cv) = false := by simp [g1]
                              have b3 : (x1 != cv) = true := by simp [g1]
                              go_big_quiet (fail)
                              go_wp2_with fail
                              go_roundg (M - (e + 1))
                              case measure => omega
                              case rel => exact ⟨e + 1, _, by omega, by go_num, rfl, (by rcases hf2 with h | ⟨h, h2⟩ | h; exact .inl h; (by_cases h3 : e = es; exact ((fun gg => g1 gg.2.1) (HWT.out h h3)).elim; exact .inr (.inl ⟨h, by omega⟩)); cases h), P8.out.below (by first | exact bdrew _ | exact bdrewN _ _), A8.out.below (by first | exact bdrew _ | exact bdrewN _ _), btrans B8.out (by first | exact bdrew _ | exact bdrewN _ _), X8.out.below (by first | exact bdrew _ | exact bdrewN _ _)⟩
                          · have d0 : (pq == (k9 : Int)) = false := by simp [hc]
                            go_big_quiet (fail)
                            go_wp2_with fail
                            go_roundg (M - (e + 1))
                            case measure => omega
                            case rel => exact ⟨e + 1, _, by omega, by go_num, rfl, (by rcases hf2 with h | ⟨h, h2⟩ | h; exact .inl h; (by_cases h3 : e = es; exact ((fun h => hc h.1) (HWT.out h h3)).elim; exact .inr (.inl ⟨h, by omega⟩)); cases h), P8.out.below (by first | exact bdrew _ | exact bdrewN _ _), A8.out.below (by first | exact bdrew _ | exact bdrewN _ _), btrans B8.out (by first | exact bdrew _ | exact bdrewN _ _), X8.out.below (by first | exact bdrew _ | exact bdrewN _ _)⟩
                        · go_big_quiet (fail)
                          go_wp2_with fail
                          go_roundg (M - (e + 1))
                          case measure => omega
                          case rel => exact ⟨e + 1, true, by omega, by go_num, rfl, .inr (.inr rfl), P8.out.below (by first | exact bdrew _ | exact bdrewN _ _), A8.out.below (by first | exact bdrew _ | exact bdrewN _ _), btrans B8.out (by first | exact bdrew _ | exact bdrewN _ _), X8.out.below (by first | exact bdrew _ | exact bdrewN _ _)⟩
                    · have hME := HES.out
                      go_wp2_with fail
                      go_roundg (q - (i + 1))
                      case measure => omega
                      case rel => exact ⟨i + 1, γ, by omega, by go_num, rfl, (by rcases hf2 with h | ⟨h, h2⟩ | h; exact .inl (by omega); (have := hME h; omega); exact .inr h), P6.out, A6.out, B5.out.trans (B6.out.mono B5.out.size), X6.out⟩
                · have hβ : β = true := by rcases hf with h | h; omega; exact h
                  subst hβ
                  go_wp2_with fail
                  go_roundg (L - (j + 1))
                  case measure => omega
                  case rel => exact ⟨j + 1, by omega, by go_num, P5.out, A5.out, B5.out⟩
            · go_wp2_with fail
              go_roundg (N - (k9 + 1))
              case measure => omega
              case rel => exact ⟨k9 + 1, by omega, by go_num, by rw [HS.out]; simp only [Value.int.injEq, true_and]; omega, P3.out, A3.out⟩
        · have e : N = k9 := by omega
          subst e
          have e2 : sumN ((lens (rowsL la res l ps N q)).take N) = T := by rw [List.take_of_length_le (by unfold lens; rw [List.length_map, rowsL_length]; exact Nat.le_refl _)]; exact HT.out
          rw [e2, show (T : Int) - (T : Int) = 0 by omega]
          have c0 : wk.cell? ⟨w.heap.size, 0, none⟩ = some (.int .i64 N) := P2.out.op.bc.cell 0
          have en : ((N : Int) == N) = true := by simp
          clear e2 hb
          go_wp2_with fail
          go_ret
          exact ⟨by first | rfl | simp, P2.out.op.bel⟩

set_option maxRecDepth 100000 in
theorem lifted (os : Os) (started : os.Started) (H : Type) (enc : TypeId × Value → H) :
    ReturnsInHanded {} Tryz.checked os 9 .any (fun w args => (Rows.loadPiecesSpec.pre enc Tryz.prog Tryz.f9 [] false w args ∧ laidMetH Tryz.prog laid5 w) ∧ sizedMet enc Tryz.prog Tryz.f9 (OpenSpec.ofChange Rows.loadPiecesSpec) false w args)
      (Rows.loadPiecesSpec.post enc Tryz.prog Tryz.f9 false true false false) := by
  refine returnsInHanded_of_change_and (C := Tryz.checked) (X := fun w _ => laidMetH Tryz.prog laid5 w) (fun _ _ _ hh h => h.of_heap hh) own started (by kernel_rfl) Tryz.func9
    (ChangeSpec.witness_shaped (enc := enc) (C := Tryz.checked) (os := os) (X := fun w _ => laidMetH Tryz.prog laid5 w) false (World.doorLaid Tryz.prog 62 os) #[.agg #[.int .i64 0, .int .i64 0, .int .i64 0, .int .i64 0, .slice none 0 0], .slice none 0 0, .slice none 0 0] 8 rfl (World.shaped_of_RefB (by kernel_rfl) (by kernel_rfl)) (by kernel_rfl) (by kernel_rfl) (by kernel_rfl) (door_met os _)) ?_
  intro W base args ds gs before hval0 hW _ _ hL _
  have hval : ∀ (j : Nat) t v, Tryz.f9.params[j]? = some t → args[j]? = some v → Value.okWide Tryz.prog W .any base t v := hval0
  have hW' := hW
  obtain ⟨p, q, hA0, hV, rfl, hfz, hnd⟩ := hW
  have hA : DataW.TrodAll enc Tryz.prog W 0 (fun _ => true) true Tryz.f9.params.toList args.toList ds p := hA0
  rw [Tryz.params9] at hA hval
  obtain ⟨v0, vs0, d0, ds0, p0, q0, hargs, rfl, rfl, h0, r0⟩ := trodAll_cons hA
  obtain ⟨v1, vs1, d1, ds1, p1, q1, rfl, rfl, rfl, h1, r1⟩ := trodAll_cons r0
  obtain ⟨v2, vs2, d2, ds2, p2, q2, rfl, rfl, rfl, h2, r2⟩ := trodAll_cons r1
  obtain ⟨rfl, rfl, rfl⟩ := trodAll_nil r2
  obtain rfl : args = #[v0, v1, v2] := by cases args; simp_all
  obtain ⟨rfl, rfl⟩ := trodVars_none hV
  have k0 := h0
  have lt0 : ∀ x ∈ p0, x.block < W.heap.size := by obtain ⟨m, hm⟩ := k0; exact DataW.trod_lt m _ _ _ hm
  obtain ⟨co0, sy0, la0, mo0, s0, n0, m0, z0, rfl, w0, x00, x01, x02, x03⟩ := open_config (hval 0 24 v0 rfl rfl) h0
  obtain ⟨s1, n1, m1, rfl⟩ := okWide_slice Tryz.underlying25 (hval 1 25 v1 rfl rfl)
  have k1 := h1
  have lt1 : ∀ x ∈ p1, x.block < W.heap.size := by obtain ⟨m, hm⟩ := k1; exact DataW.trod_lt m _ _ _ hm
  obtain ⟨z1, w1⟩ := (by obtain ⟨fuel, hf⟩ := h1; exact open_tsks hf : ∃ zs, ATsks W s1 n1 m1 zs)
  obtain ⟨s2, n2, m2, rfl⟩ := okWide_slice Tryz.underlying22 (hval 2 22 v2 rfl rfl)
  have k2 := h2
  have lt2 : ∀ x ∈ p2, x.block < W.heap.size := by obtain ⟨m, hm⟩ := k2; exact DataW.trod_lt m _ _ _ hm
  obtain ⟨z2, w2⟩ := (by obtain ⟨fuel, hf⟩ := h2; exact open_nums hf : ∃ zs, ANums W s2 n2 zs)
  clear hA0 hval0
  simp only [List.append_nil] at hW'
  refine (walk co0 sy0 la0 mo0 s0 n0 m0 z0 s1 n1 m1 z1 s2 n2 m2 z2 W (env_of_laid hL) w0 x00 x01 x02 x03 w1 w2).mono fun e W' ⟨he, bel⟩ => ?_
  subst he
  exact ⟨_, rfl, _, _, _, [], _, [], hW', trodAll_mk1 (shut_bool Tryz.underlying4 _), (trodAll_cons_mk (Below.trod laidOut (by kernel_rfl) (of_decide_eq_true (by kernel_rfl)) k0 bel lt0) (trodAll_cons_mk (Below.trod laidOut (by kernel_rfl) (of_decide_eq_true (by kernel_rfl)) k1 bel lt1) (trodAll_cons_mk (Below.trod laidOut (by kernel_rfl) (of_decide_eq_true (by kernel_rfl)) k2 bel lt2) trodAll_mk0))), rfl, bel.frame _, fun h => by cases h⟩

theorem closed : joinedFacts Tryz.pinned.checked.prog 9 Tryz.f9 Rows.loadPiecesSpec Rows.loadPiecesRow = true := by
  generalize hP : Tryz.pinned.checked.prog = P
  simp only [joinedFacts, Bool.and_eq_true]
  subst hP
  refine ⟨⟨⟨⟨⟨⟨⟨⟨⟨⟨⟨⟨⟨⟨⟨⟨⟨⟨⟨⟨⟨⟨⟨⟨⟨⟨⟨⟨⟨⟨⟨?k1, ?k2⟩, ?k3⟩, ?k4⟩, ?k5⟩, ?k6⟩, ?k7⟩, ?k8⟩, ?k9⟩, ?k10⟩, ?k11⟩, ?k12⟩, ?k13⟩, ?k14⟩, ?k15⟩, ?k16⟩, ?k17⟩, ?k18⟩, ?k19⟩, ?k20⟩, ?k21⟩, ?k22⟩, ?k23⟩, ?k24⟩, ?k25⟩, ?k26⟩, ?k27⟩, ?k28⟩, ?k29⟩, ?k30⟩, ?k31⟩, ?k32⟩
  case k26 => exact head_enter
  case k27 => show (false == Tryz.prog.liftsFinal) = true; rw [head_lifts]; rfl
  case k28 => exact head_make
  all_goals kernel_rfl
theorem over : Rows.loadPiecesRow.holds Tryz.pinned (OpenSpec.ofChange Rows.loadPiecesSpec) :=
  OpenClaim.holds_of_wide 9 Tryz.f9 rfl rfl rfl rfl rfl rfl rfl ⟨rfl, rfl, rfl, rfl, rfl⟩ rfl rfl rfl rfl rfl (by kernel_rfl) Tryz.func9 closed
    (of_decide_eq_true (by kernel_rfl)) (by unfold Func.isWrapper; first | (rw [if_pos (by decide +kernel)]; kernel_rfl) | (rw [if_neg (by decide +kernel)]; exact ⟨rfl, rfl⟩))
    (fun os started H enc _ => lifted os started H enc)

theorem proved : Rows.LoadPiecesCardSaid :=
  Claim7.holds_tied_plain_at .later [] [.data, .data, .data, .sentinel, .sentinel] true (true, "4ddcd03471c152e483e2d1372070b2dd351fc06eba3ed385e3ebe4df4fc3b5c0") true
    over (fun _ h => by cases h) (by kernel_rfl) (fun _ h => by cases h) loadPieces_row_tie rfl ⟨rfl, rfl⟩ head_main rfl
    (fun f fn hf hfn => by
      obtain rfl : f = 9 := Option.some.inj ((show Tryz.prog.funcNamed "hortator/hortatorlaw12.LoadPieces" = some 9 by kernel_rfl).symm.trans hf) |>.symm
      obtain rfl : fn = Tryz.f9 := (Option.some.inj (Tryz.func9.symm.trans hfn)).symm
      exact ⟨by kernel_rfl, fun j t ht => by
        rw [Tryz.params9] at ht
        match j, ht with
        | 0, ht => obtain rfl : t = 24 := by simpa using ht.symm
                   exact (show Tryz.prog.wantsStandIn 24 = false by kernel_rfl)
        | 1, ht => obtain rfl : t = 25 := by simpa using ht.symm
                   exact (show Tryz.prog.wantsStandIn 25 = false by kernel_rfl)
        | 2, ht => obtain rfl : t = 22 := by simpa using ht.symm
                   exact (show Tryz.prog.wantsStandIn 22 = false by kernel_rfl)
        | (_ + 3), ht => simp at ht⟩)
    (by kernel_rfl)
end Go.Proofs.YtakdliecjfeedaaGreatDoor.loadPieces
