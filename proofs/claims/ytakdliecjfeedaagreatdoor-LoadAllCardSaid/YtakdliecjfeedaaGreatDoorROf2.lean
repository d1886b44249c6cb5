/- The contract of the document's own Of. -/
import Derived.Test.YtakdliecjfeedaaGreatDoorROf
namespace Go.Proofs.YtakdliecjfeedaaGreatDoor
open Go Go.RowKit

set_option maxHeartbeats 16000000 in
set_option maxRecDepth 100000 in
theorem rof_any (sy la mo : Int) (v : Value) (res : List Int) (a : Option Addr) (n cap : Nat) (l : List TV) (i : Nat) (c d t : Int) (a2 : Option Addr) (n2 k2 : Nat) (xm : List Sec) (kd : Int) (ap : Option Addr) (cp np : Nat) (m : List Pc) (N : Nat) (w : World)
    (hv : Ints w v res) (hr : res.length ≤ 1000000) (hc : cfgB ⟨N, sy, la, mo, res⟩ = true) (hl : Tks w (.slice a n cap) l) (hn : l.length = n) (hm : mayV res.length l = true) (hX : l[i]? = some ⟨c, d, t, .slice a2 n2 k2, xm⟩)
    (hp : Pcs w (.slice ap np cp) m) (hnp : m.length = np) (hml : np ≤ 1000) (hon : onB N m = true) :
    Calls Tryz.prog 27 #[.agg #[.int .i64 N, .int .i64 sy, .int .i64 la, .int .i64 mo, v], .slice a n cap, .int .i64 i, .agg #[.int .i64 kd, .slice ap np cp]] w fun e w' => ∃ g, e = .returned (.slice (some ⟨g, 0, none⟩) N N) ∧ w.heap.size ≤ g ∧ Lay w (.slice (some ⟨g, 0, none⟩) N N) (layL ⟨c, d, t, .slice a2 n2 k2, xm⟩ (waitV la res l i) kd (List.replicate N []) m) w' := by
  obtain ⟨i0, hi0, hz0, hz1, hz2⟩ := info_parts infoL
  obtain ⟨av, cv, rfl⟩ := hv.form
  obtain ⟨qr, hq⟩ : ∃ qr, res.length = qr := ⟨_, rfl⟩
  have h12 := mayV_len hm
  have hN6 : N ≤ 6 := by have := (cfgB_iff.1 hc).1; simp only at this; omega
  have n12 : n ≤ 12 := by omega
  have hin : i < n := by rw [← hn]; exact (List.getElem?_eq_some_iff.1 hX).1
  have hXt := mayV_all hm _ (List.mem_of_getElem? hX)
  obtain ⟨V, hV⟩ : ∃ V, waitV la res l i = V := ⟨_, rfl⟩
  have hla := (cfgB_iff.1 hc).2.2.1
  simp only at hla
  have hVb : 0 ≤ V ∧ V ≤ 2000000 := by
    have h1 := wSum_bd (la := la) (res := res) hla.1 hla.2 (show l.length ≤ 1000 by omega) (fun x hx s hs => ((tv_secs (mayV_all hm x hx)).2 s hs).2) i xm.length
    have e := waitV_at (la := la) (res := res) hX
    rw [hV] at e
    simp only at e
    rw [← e] at h1
    have := (tv_secs hXt).1
    simp only at this
    omega
  obtain ⟨x1, x2, x3, x4, -, -⟩ := tskB_facts hXt
  simp only [TV.tsk] at x1 x2 x3 x4
  rw [hV]
  have HB0 : Hid (Below w.heap.size w ((w.alloc (.cells #[.int .i64 N, .int .i64 sy, .int .i64 la, .int .i64 mo, .slice av qr cv] 24)).alloc (.cells #[.int .i64 kd, .slice ap np cp] 49))) := btrans (balloc _ _) (balloc _ _)
  have HC1 : Hid (∀ w' : World, Below w.heap.size w w' → Calls Tryz.prog 17 #[.agg #[.int .i64 N, .int .i64 sy, .int .i64 la, .int .i64 mo, .slice av qr cv], .slice a n cap, .int .i64 i] w' fun e w'' => e = .returned (.int .i64 V) ∧ Below w'.heap.size w' w'') := fun w' hb => by
    have := rwait_any N sy la mo (.slice av res.length cv) res a n cap l i w' (hv.below hb) hr hla.1 hla.2 (hl.below hb) hn n12 (mayV_all hm)
    rw [hV, hq] at this
    exact this
  rw [hq] at hv ⊢
  have KW : Hid (Blk ((w.alloc (.cells #[.int .i64 N, .int .i64 sy, .int .i64 la, .int .i64 mo, .slice av qr cv] 24)).alloc (.cells #[.int .i64 kd, .slice ap np cp] 49)) w.heap.size #[.int .i64 N, .int .i64 sy, .int .i64 la, .int .i64 mo, .slice av qr cv] 24 ∧ Blk ((w.alloc (.cells #[.int .i64 N, .int .i64 sy, .int .i64 la, .int .i64 mo, .slice av qr cv] 24)).alloc (.cells #[.int .i64 kd, .slice ap np cp] 49)) (w.heap.size + 1) #[.int .i64 kd, .slice ap np cp] 49) := blk_twoC _ _ _ _ _
  have HL : Hid (Tks ((w.alloc (.cells #[.int .i64 N, .int .i64 sy, .int .i64 la, .int .i64 mo, .slice av qr cv] 24)).alloc (.cells #[.int .i64 kd, .slice ap np cp] 49)) (.slice a n cap) l) := hl.below HB0.out
  have HP : Hid (Pcs ((w.alloc (.cells #[.int .i64 N, .int .i64 sy, .int .i64 la, .int .i64 mo, .slice av qr cv] 24)).alloc (.cells #[.int .i64 kd, .slice ap np cp] 49)) (.slice ap np cp) m) := hp.below HB0.out
  have HX : Hid (l[i]? = some ⟨c, d, t, .slice a2 n2 k2, xm⟩) := hX
  have HON : Hid (onB N m = true) := hon
  have HNP : Hid (m.length = np) := hnp
  have mk := mkR N (by omega)
  have i0' : (0 : Int) ≤ (i : Int) := by omega
  have i1' : (i : Int) < (n : Int) := by omega
  clear hv hl hc hm hn hX hp hon hq hr hnp hV hla hXt
  go_enter Tryz.func27, Tryz.ntmps27
  have LM : Hid (Lay ((w.alloc (.cells #[.int .i64 N, .int .i64 sy, .int .i64 la, .int .i64 mo, .slice av qr cv] 24)).alloc (.cells #[.int .i64 kd, .slice ap np cp] 49)) (.slice (some ⟨((w.alloc (.cells #[.int .i64 N, .int .i64 sy, .int .i64 la, .int .i64 mo, .slice av qr cv] 24)).alloc (.cells #[.int .i64 kd, .slice ap np cp] 49)).heap.size, 0, none⟩) N N) (List.replicate N []) (((w.alloc (.cells #[.int .i64 N, .int .i64 sy, .int .i64 la, .int .i64 mo, .slice av qr cv] 24)).alloc (.cells #[.int .i64 kd, .slice ap np cp] 49)).alloc (.cells (Array.replicate N (.slice none 0 0)) 51))) := lay_made (Below.refl _ _) N (by omega)
  go_upto_region 1 with fail
  generalize hW : (w.alloc _).alloc _ = W at HB0 KW HL HP LM ⊢
  clear hW
  have c0 := KW.out.1.cell 0
  simp at c0
  have sW := KW.out.2.lt
  go_wp2_with fail
  generalize hW3 : W.alloc _ = W3 at LM ⊢
  generalize hg0 : W.heap.size = g0 at LM sW ⊢
  clear hW3 mk c0
  go_loopw [10] (fun i2 wr => ∃ j : Nat, j ≤ np ∧ i2 = .int .i64 j ∧ Hid (Lay W (.slice (some ⟨g0, 0, none⟩) N N) (layL ⟨c, d, t, .slice a2 n2 k2, xm⟩ V kd (List.replicate N []) (m.take j)) wr)) (fun i2 _ => np - (intOf i2).toNat)
  case atStart => exact ⟨0, Nat.zero_le _, rfl, by rw [List.take_zero]; exact LM.out⟩
  case round =>
    obtain ⟨j, hj, rfl, l3⟩ := hrel
    obtain ⟨us2, hO3⟩ := l3.out.own
    have L3 : Hid (Ly W [] (.slice (some ⟨g0, 0, none⟩) N N) us2 (layL ⟨c, d, t, .slice a2 n2 k2, xm⟩ V kd (List.replicate N []) (m.take j)) wr) := ⟨fun q hq => (by cases hq), hO3, l3.out.bel⟩
    clear l3 hO3 LM
    have sr : W.heap.size ≤ wr.heap.size := L3.out.bel.size
    have p0 : wr.cell? ⟨w.heap.size + 1, 0, none⟩ = some (.int .i64 kd) := (KW.out.2.below L3.out.bel).cell 0
    have p1 : wr.cell? ⟨w.heap.size + 1, 1, none⟩ = some (.slice ap np cp) := (KW.out.2.below L3.out.bel).cell 1
    by_cases hlt : j < np
    · obtain ⟨⟨pq, po, pl, pc⟩, hx⟩ : ∃ x, m[j]? = some x := ⟨_, List.getElem?_eq_getElem (by rw [HNP.out]; exact hlt)⟩
      obtain ⟨qq0, qq1⟩ := onB_all HON.out _ (List.mem_of_getElem? hx)
      simp only at qq0 qq1
      obtain ⟨q, rfl⟩ : ∃ q : Nat, pq = q := ⟨pq.toNat, by omega⟩
      have HXP : Hid (m[j]? = some ⟨q, po, pl, pc⟩) := hx
      obtain ⟨b3, o3, e3, hb3, z0, z1, z2, z3⟩ := (HP.out.below L3.out.bel).at hx
      subst e3
      simp only at z0 z1 z2 z3
      clear hx
      have hqr : q < N := by omega
      have hlr : (layL ⟨c, d, t, .slice a2 n2 k2, xm⟩ V kd (List.replicate N []) (m.take j)).length = N := by rw [layL_length, List.length_replicate]
      have hus := L3.out.own.len
      obtain ⟨lr, hlr2⟩ : ∃ lr, (layL ⟨c, d, t, .slice a2 n2 k2, xm⟩ V kd (List.replicate N []) (m.take j))[q]? = some lr := ⟨_, List.getElem?_eq_getElem (by omega)⟩
      obtain ⟨uq, hu2⟩ : ∃ uq, us2[q]? = some uq := ⟨_, List.getElem?_eq_getElem (by omega)⟩
      have HLR : Hid ((layL ⟨c, d, t, .slice a2 n2 k2, xm⟩ V kd (List.replicate N []) (m.take j))[q]? = some lr) := hlr2
      have HUQ : Hid (us2[q]? = some uq) := hu2
      have hlen : lr.length ≤ 1000 := by
        have := lay_len ⟨c, d, t, .slice a2 n2 k2, xm⟩ V kd 0 (m.take j) (List.replicate N []) (fun r hr => by rw [List.eq_of_mem_replicate hr]; simp) lr (List.mem_of_getElem? hlr2)
        rw [List.length_take] at this
        omega
      obtain ⟨au, cu, eu⟩ := (L3.out.own.row q uq lr hu2 hlr2).form
      subst eu
      have e0 : (0 : Int) ≤ (q : Int) := by omega
      have e1 : (q : Int) < (N : Int) := by omega
      clear hlr2 hu2 hlr hus
      obtain ⟨bb, oo, eb, hbl, y1, y2, y3, -, -⟩ := HL.out.at HX.out
      subst eb
      simp only at y1 y2 y3
      have L4 : Hid (Ly W [(wr.heap.size, #[.int .i64 (q : Nat), .int .i64 po, .int .i64 pl, .int .i64 pc], 60)] (.slice (some ⟨g0, 0, none⟩) N N) us2 (layL ⟨c, d, t, .slice a2 n2 k2, xm⟩ V kd (List.replicate N []) (m.take j)) (wr.alloc (.cells #[.int .i64 (q : Nat), .int .i64 po, .int .i64 pl, .int .i64 pc] 60))) := L3.out.alloc #[.int .i64 (q : Nat), .int .i64 po, .int .i64 pl, .int .i64 pc] 60 rfl
      obtain ⟨⟨s1, s2, s3⟩, hs⟩ : ∃ s, askOf ⟨c, d, t, .slice a2 n2 k2, xm⟩ V kd ⟨q, po, pl, pc⟩ = s := ⟨_, rfl⟩
      have HS : Hid (askOf ⟨c, d, t, .slice a2 n2 k2, xm⟩ V kd ⟨q, po, pl, pc⟩ = ⟨s1, s2, s3⟩) := hs
      have W1 : IntKind.i64.wrap (c + V) = c + V := IntWalk.i64_in _ (by omega)
      have hbW : bb < W.heap.size := hbl
      go_upto_region 6 with fail
      have hs4 : (wr.alloc (.cells #[.int .i64 (q : Nat), .int .i64 po, .int .i64 pl, .int .i64 pc] 60)).heap.size = wr.heap.size + 1 := by simp
      generalize hW4 : wr.alloc _ = W4 at L4 hs4 ⊢
      clear hW4 z0 z1 z2 z3 p0
      go_cut [12] from 28 to 37 (fun x wx => x = .pointer (some ⟨wr.heap.size + 1, 0, none⟩) ∧ Hid (Ly W [(wr.heap.size + 1, #[.int .i64 pc, .int .i64 pl, .int .i64 t], 55), (wr.heap.size, #[.int .i64 (q : Nat), .int .i64 po, .int .i64 pl, .int .i64 pc], 60)] (.slice (some ⟨g0, 0, none⟩) N N) us2 (layL ⟨c, d, t, .slice a2 n2 k2, xm⟩ V kd (List.replicate N []) (m.take j)) wx))
      case first =>
        have D4 : Hid (Ly W [(wr.heap.size, #[.int .i64 (q : Nat), .int .i64 po, .int .i64 pl, .int .i64 pc], 60)] (.slice (some ⟨g0, 0, none⟩) N N) us2 (layL ⟨c, d, t, .slice a2 n2 k2, xm⟩ V kd (List.replicate N []) (m.take j)) W4.drew) := L4.out.drew
        have s4 : W4.heap.size = wr.heap.size + 1 := hs4
        refine wp_region_noPanic (wp_region_runsZ (S := (fun w' => w'.cell? ⟨wr.heap.size, 2, none⟩ = some (.int .i64 pl) ∧ w'.cell? ⟨wr.heap.size, 3, none⟩ = some (.int .i64 pc) ∧ w'.cell? ⟨bb, oo + i * 4 + 2, none⟩ = some (.int .i64 t))) (Z := [11]) (by kernel_rfl) ?_)
        have hS0 : (fun w' => w'.cell? ⟨wr.heap.size, 2, none⟩ = some (.int .i64 pl) ∧ w'.cell? ⟨wr.heap.size, 3, none⟩ = some (.int .i64 pc) ∧ w'.cell? ⟨bb, oo + i * 4 + 2, none⟩ = some (.int .i64 t)) W4.drew := ⟨(D4.out.at (g := wr.heap.size) (cs := #[.int .i64 (q : Nat), .int .i64 po, .int .i64 pl, .int .i64 pc]) (t := 60) (by simp)).cell 2, (D4.out.at (g := wr.heap.size) (cs := #[.int .i64 (q : Nat), .int .i64 po, .int .i64 pl, .int .i64 pc]) (t := 60) (by simp)).cell 3, (D4.out.bel.cell (p := ⟨bb, _, none⟩) hbl).trans y3⟩
        have s4d : W4.drew.heap.size = wr.heap.size + 1 := s4
        generalize W4.drew = u0 at D4 hS0 s4d ⊢
        refine RunsZ.take 12 (i := 0) (v := ?v0) (nth_z rfl) (by kernel_rfl) (by kernel_rfl) (by kernel_rfl) (by kernel_rfl) (by kernel_rfl) (fun _ _ _ h => h) (Or.inl ⟨by rfl, ?y0⟩) hS0 ?_
        case y0 =>
          intro u hu
          try dsimp only at hu
          go_split_ands
          go_simp
          try with_reducible rfl
        simp only [Act.put, List.setIfInBounds_toArray, List.set_cons_zero, List.set_cons_succ]
        refine RunsZ.take 12 (i := 1) (v := ?v1) (nth_z rfl) (by kernel_rfl) (by kernel_rfl) (by kernel_rfl) (by kernel_rfl) (by kernel_rfl) (fun _ _ _ h => h) (Or.inl ⟨by rfl, ?y1⟩) hS0 ?_
        case y1 =>
          intro u hu
          try dsimp only at hu
          go_split_ands
          go_simp
          try with_reducible rfl
        simp only [Act.put, List.setIfInBounds_toArray, List.set_cons_zero, List.set_cons_succ]
        refine RunsZ.take 12 (i := 2) (v := ?v2) (nth_z rfl) (by kernel_rfl) (by kernel_rfl) (by kernel_rfl) (by kernel_rfl) (by kernel_rfl) (fun _ _ _ h => h) (Or.inl ⟨by rfl, ?y2⟩) hS0 ?_
        case y2 =>
          intro u hu
          try dsimp only at hu
          go_split_ands
          go_simp
          try with_reducible rfl
        simp only [Act.put, List.setIfInBounds_toArray, List.set_cons_zero, List.set_cons_succ]
        refine RunsZ.take 12 (i := 3) (v := ?v3) (nth_z rfl) (by kernel_rfl) (by kernel_rfl) (by kernel_rfl) (by kernel_rfl) (by kernel_rfl) (fun _ _ _ h => h) (Or.inl ⟨by rfl, ?y3⟩) hS0 ?_
        case y3 =>
          intro u hu
          try dsimp only at hu
          go_split_ands
          go_simp
          try with_reducible rfl
        simp only [Act.put, List.setIfInBounds_toArray, List.set_cons_zero, List.set_cons_succ]
        refine RunsZ.take 12 (i := 4) (v := ?v4) (nth_z rfl) (by kernel_rfl) (by kernel_rfl) (by kernel_rfl) (by kernel_rfl) (by kernel_rfl) (fun _ _ _ h => h) (Or.inl ⟨by rfl, ?y4⟩) hS0 ?_
        case y4 =>
          intro u hu
          try dsimp only at hu
          go_split_ands
          go_simp
          try with_reducible rfl
        simp only [Act.put, List.setIfInBounds_toArray, List.set_cons_zero, List.set_cons_succ]
        refine RunsZ.take 12 (i := 5) (v := ?v5) (nth_z rfl) (by kernel_rfl) (by kernel_rfl) (by kernel_rfl) (by kernel_rfl) (by kernel_rfl) (fun _ _ _ h => h) (Or.inl ⟨by rfl, ?y5⟩) hS0 ?_
        case y5 =>
          intro u hu
          try dsimp only at hu
          go_split_ands
          go_simp
          try with_reducible rfl
        simp only [Act.put, List.setIfInBounds_toArray, List.set_cons_zero, List.set_cons_succ]
        refine RunsZ.take 12 (i := 6) (v := ?v6) (nth_z rfl) (by kernel_rfl) (by kernel_rfl) (by kernel_rfl) (by kernel_rfl) (by kernel_rfl) (fun _ _ _ h => h) (Or.inl ⟨by rfl, ?y6⟩) hS0 ?_
        case y6 =>
          intro u hu
          try dsimp only at hu
          go_split_ands
          go_simp
          try with_reducible rfl
        simp only [Act.put, List.setIfInBounds_toArray, List.set_cons_zero, List.set_cons_succ]
        refine RunsZ.take 12 (i := 7) (v := ?v7) (nth_z rfl) (by kernel_rfl) (by kernel_rfl) (by kernel_rfl) (by kernel_rfl) (by kernel_rfl) (fun _ _ _ h => h) (Or.inl ⟨by rfl, ?y7⟩) hS0 ?_
        case y7 =>
          intro u hu
          try dsimp only at hu
          go_split_ands
          go_simp
          try with_reducible rfl
        simp only [Act.put, List.setIfInBounds_toArray, List.set_cons_zero, List.set_cons_succ]
        refine RunsZ.take 12 (i := 8) (v := ?v8) (nth_z rfl) (by kernel_rfl) (by kernel_rfl) (by kernel_rfl) (by kernel_rfl) (by kernel_rfl) (fun _ _ _ h => h) (Or.inl ⟨by rfl, ?y8⟩) hS0 ?_
        case y8 =>
          intro u hu
          try dsimp only at hu
          go_split_ands
          go_simp
          try with_reducible rfl
        simp only [Act.put, List.setIfInBounds_toArray, List.set_cons_zero, List.set_cons_succ]
        refine RunsZ.take 12 (i := 9) (v := ?v9) (nth_z rfl) (by kernel_rfl) (by kernel_rfl) (by kernel_rfl) (by kernel_rfl) (by kernel_rfl) (fun _ _ _ h => h) (Or.inl ⟨by rfl, ?y9⟩) hS0 ?_
        case y9 =>
          intro u hu
          try dsimp only at hu
          go_split_ands
          go_simp
          try with_reducible rfl
        simp only [Act.put, List.setIfInBounds_toArray, List.set_cons_zero, List.set_cons_succ]
        refine RunsZ.one (i := 10) (by kernel_rfl) (nth_z rfl) (by rfl) (fun K hK => ?_)
        go_simp
        have hS1 : (fun w' => w'.cell? ⟨wr.heap.size, 2, none⟩ = some (.int .i64 pl) ∧ w'.cell? ⟨wr.heap.size, 3, none⟩ = some (.int .i64 pc) ∧ w'.cell? ⟨bb, oo + i * 4 + 2, none⟩ = some (.int .i64 t)) (u0.alloc (.cells #[.int .i64 0, .int .i64 0, .int .i64 0] 55)) := ⟨cell_keep hS0.1 (balloc _ _), cell_keep hS0.2.1 (balloc _ _), cell_keep hS0.2.2 (balloc _ _)⟩
        refine hK.out _ _ (fun _ => hS1) ?_
        clear hK K
        try simp only [Act.put, List.setIfInBounds_toArray, List.set_cons_zero, List.set_cons_succ]
        refine RunsZ.one (i := 11) (by kernel_rfl) (nth_z rfl) (by rfl) (fun K hK => ?_)
        go_simp
        refine hK.out _ _ (fun h => absurd (by decide) h) ?_
        clear hK K
        try simp only [Act.put, List.setIfInBounds_toArray, List.set_cons_zero, List.set_cons_succ]
        refine RunsZ.done (by kernel_rfl) (NoPanic.normal ?_)
        go_wp2_with fail
        go_meet
        exact ⟨by first | rfl | rw [s4d], D4.out.alloc #[.int .i64 pc, .int .i64 pl, .int .i64 t] 55 s4d⟩
      case rest =>
        obtain ⟨rfl, l5⟩ := hcut
        have L5 : Hid (Ly W [(wr.heap.size + 1, #[.int .i64 pc, .int .i64 pl, .int .i64 t], 55), (wr.heap.size, #[.int .i64 (q : Nat), .int .i64 po, .int .i64 pl, .int .i64 pc], 60)] (.slice (some ⟨g0, 0, none⟩) N N) us2 (layL ⟨c, d, t, .slice a2 n2 k2, xm⟩ V kd (List.replicate N []) (m.take j)) wc) := l5.out
        clear l5 L4
        have p0 : wc.cell? ⟨w.heap.size + 1, 0, none⟩ = some (.int .i64 kd) := (KW.out.2.below L5.out.bel).cell 0
        go_upto_if 40 with fail
        go_cut [] from 40 to 61 (fun wx => Hid (Ly W [(wr.heap.size + 1, #[.int .i64 s1, .int .i64 s2, .int .i64 s3], 55), (wr.heap.size, #[.int .i64 (q : Nat), .int .i64 po, .int .i64 pl, .int .i64 pc], 60)] (.slice (some ⟨g0, 0, none⟩) N N) us2 (layL ⟨c, d, t, .slice a2 n2 k2, xm⟩ V kd (List.replicate N []) (m.take j)) wx))
        case first =>
          unfold askOf at hs
          by_cases hk : kd = 1
          · rw [if_pos hk] at hs
            simp only [Sec.mk.injEq] at hs
            obtain ⟨rfl, rfl, rfl⟩ := hs
            have hk2 : (kd == 1) = true := by simp [hk]
            clear hk
            go_upto_region 8 with fail
            refine wp_region_noPanic (wp_region_runsZ (S := (fun w' => w'.cell? ⟨w.heap.size, 0, none⟩ = some (.int .i64 N) ∧ w'.cell? ⟨w.heap.size, 1, none⟩ = some (.int .i64 sy) ∧ w'.cell? ⟨w.heap.size, 2, none⟩ = some (.int .i64 la) ∧ w'.cell? ⟨w.heap.size, 3, none⟩ = some (.int .i64 mo) ∧ w'.cell? ⟨w.heap.size, 4, none⟩ = some (.slice av qr cv) ∧ w'.cell? ⟨bb, oo + i * 4, none⟩ = some (.int .i64 c) ∧ w'.cell? ⟨bb, oo + i * 4 + 1, none⟩ = some (.int .i64 d) ∧ w'.cell? ⟨bb, oo + i * 4 + 2, none⟩ = some (.int .i64 t))) (Z := [21]) (by kernel_rfl) ?_)
            have D5 : Hid (Ly W [(wr.heap.size + 1, #[.int .i64 pc, .int .i64 pl, .int .i64 t], 55), (wr.heap.size, #[.int .i64 (q : Nat), .int .i64 po, .int .i64 pl, .int .i64 pc], 60)] (.slice (some ⟨g0, 0, none⟩) N N) us2 (layL ⟨c, d, t, .slice a2 n2 k2, xm⟩ V kd (List.replicate N []) (m.take j)) wc.drew) := L5.out.drew
            have hS0 : (fun w' => w'.cell? ⟨w.heap.size, 0, none⟩ = some (.int .i64 N) ∧ w'.cell? ⟨w.heap.size, 1, none⟩ = some (.int .i64 sy) ∧ w'.cell? ⟨w.heap.size, 2, none⟩ = some (.int .i64 la) ∧ w'.cell? ⟨w.heap.size, 3, none⟩ = some (.int .i64 mo) ∧ w'.cell? ⟨w.heap.size, 4, none⟩ = some (.slice av qr cv) ∧ w'.cell? ⟨bb, oo + i * 4, none⟩ = some (.int .i64 c) ∧ w'.cell? ⟨bb, oo + i * 4 + 1, none⟩ = some (.int .i64 d) ∧ w'.cell? ⟨bb, oo + i * 4 + 2, none⟩ = some (.int .i64 t)) wc.drew := ⟨(KW.out.1.below D5.out.bel).cell 0, (KW.out.1.below D5.out.bel).cell 1, (KW.out.1.below D5.out.bel).cell 2, (KW.out.1.below D5.out.bel).cell 3, (KW.out.1.below D5.out.bel).cell 4, (D5.out.bel.cell (p := ⟨bb, _, none⟩) hbl).trans y1, (D5.out.bel.cell (p := ⟨bb, _, none⟩) hbl).trans y2, (D5.out.bel.cell (p := ⟨bb, _, none⟩) hbl).trans y3⟩
            generalize wc.drew = u0 at D5 hS0 ⊢
            refine RunsZ.take 12 (i := 0) (v := ?vw0) (nth_z rfl) (by kernel_rfl) (by kernel_rfl) (by kernel_rfl) (by kernel_rfl) (by kernel_rfl) (fun _ _ _ h => h) (Or.inl ⟨by rfl, ?yw0⟩) hS0 ?_
            case yw0 =>
              intro u hu
              try dsimp only at hu
              go_split_ands
              go_simp
              try with_reducible rfl
            simp only [Act.put, List.setIfInBounds_toArray, List.set_cons_zero, List.set_cons_succ]
            refine RunsZ.take 12 (i := 1) (v := ?vw1) (nth_z rfl) (by kernel_rfl) (by kernel_rfl) (by kernel_rfl) (by kernel_rfl) (by kernel_rfl) (fun _ _ _ h => h) (Or.inl ⟨by rfl, ?yw1⟩) hS0 ?_
            case yw1 =>
              intro u hu
              try dsimp only at hu
              go_split_ands
              go_simp
              try with_reducible rfl
            simp only [Act.put, List.setIfInBounds_toArray, List.set_cons_zero, List.set_cons_succ]
            refine RunsZ.take 12 (i := 2) (v := ?vw2) (nth_z rfl) (by kernel_rfl) (by kernel_rfl) (by kernel_rfl) (by kernel_rfl) (by kernel_rfl) (fun _ _ _ h => h) (Or.inl ⟨by rfl, ?yw2⟩) hS0 ?_
            case yw2 =>
              intro u hu
              try dsimp only at hu
              go_split_ands
              go_simp
              try with_reducible rfl
            simp only [Act.put, List.setIfInBounds_toArray, List.set_cons_zero, List.set_cons_succ]
            refine RunsZ.take 12 (i := 3) (v := ?vw3) (nth_z rfl) (by kernel_rfl) (by kernel_rfl) (by kernel_rfl) (by kernel_rfl) (by kernel_rfl) (fun _ _ _ h => h) (Or.inl ⟨by rfl, ?yw3⟩) hS0 ?_
            case yw3 =>
              intro u hu
              try dsimp only at hu
              go_split_ands
              go_simp
              try with_reducible rfl
            simp only [Act.put, List.setIfInBounds_toArray, List.set_cons_zero, List.set_cons_succ]
            refine RunsZ.take 12 (i := 4) (v := ?vw4) (nth_z rfl) (by kernel_rfl) (by kernel_rfl) (by kernel_rfl) (by kernel_rfl) (by kernel_rfl) (fun _ _ _ h => h) (Or.inl ⟨by rfl, ?yw4⟩) hS0 ?_
            case yw4 =>
              intro u hu
              try dsimp only at hu
              go_split_ands
              go_simp
              try with_reducible rfl
            simp only [Act.put, List.setIfInBounds_toArray, List.set_cons_zero, List.set_cons_succ]
            refine RunsZ.take 12 (i := 5) (v := ?vw5) (nth_z rfl) (by kernel_rfl) (by kernel_rfl) (by kernel_rfl) (by kernel_rfl) (by kernel_rfl) (fun _ _ _ h => h) (Or.inl ⟨by rfl, ?yw5⟩) hS0 ?_
            case yw5 =>
              intro u hu
              try dsimp only at hu
              go_split_ands
              go_simp
              try with_reducible rfl
            simp only [Act.put, List.setIfInBounds_toArray, List.set_cons_zero, List.set_cons_succ]
            refine RunsZ.take 12 (i := 6) (v := ?vw6) (nth_z rfl) (by kernel_rfl) (by kernel_rfl) (by kernel_rfl) (by kernel_rfl) (by kernel_rfl) (fun _ _ _ h => h) (Or.inl ⟨by rfl, ?yw6⟩) hS0 ?_
            case yw6 =>
              intro u hu
              try dsimp only at hu
              go_split_ands
              go_simp
              try with_reducible rfl
            simp only [Act.put, List.setIfInBounds_toArray, List.set_cons_zero, List.set_cons_succ]
            refine RunsZ.take 12 (i := 7) (v := ?vw7) (nth_z rfl) (by kernel_rfl) (by kernel_rfl) (by kernel_rfl) (by kernel_rfl) (by kernel_rfl) (fun _ _ _ h => h) (Or.inl ⟨by rfl, ?yw7⟩) hS0 ?_
            case yw7 =>
              intro u hu
              try dsimp only at hu
              go_split_ands
              go_simp
              try with_reducible rfl
            simp only [Act.put, List.setIfInBounds_toArray, List.set_cons_zero, List.set_cons_succ]
            refine RunsZ.take 12 (i := 10) (v := ?vw10) (nth_z rfl) (by kernel_rfl) (by kernel_rfl) (by kernel_rfl) (by kernel_rfl) (by kernel_rfl) (fun _ _ _ h => h) (Or.inl ⟨by rfl, ?yw10⟩) hS0 ?_
            case yw10 =>
              intro u hu
              try dsimp only at hu
              go_split_ands
              go_simp
              try with_reducible rfl
            simp only [Act.put, List.setIfInBounds_toArray, List.set_cons_zero, List.set_cons_succ]
            refine RunsZ.take 12 (i := 11) (v := ?vw11) (nth_z rfl) (by kernel_rfl) (by kernel_rfl) (by kernel_rfl) (by kernel_rfl) (by kernel_rfl) (fun _ _ _ h => h) (Or.inl ⟨by rfl, ?yw11⟩) hS0 ?_
            case yw11 =>
              intro u hu
              try dsimp only at hu
              go_split_ands
              go_simp
              try with_reducible rfl
            simp only [Act.put, List.setIfInBounds_toArray, List.set_cons_zero, List.set_cons_succ]
            refine RunsZ.take 12 (i := 12) (v := ?vw12) (nth_z rfl) (by kernel_rfl) (by kernel_rfl) (by kernel_rfl) (by kernel_rfl) (by kernel_rfl) (fun _ _ _ h => h) (Or.inl ⟨by rfl, ?yw12⟩) hS0 ?_
            case yw12 =>
              intro u hu
              try dsimp only at hu
              go_split_ands
              go_simp
              try with_reducible rfl
            simp only [Act.put, List.setIfInBounds_toArray, List.set_cons_zero, List.set_cons_succ]
            refine RunsZ.take 12 (i := 13) (v := ?vw13) (nth_z rfl) (by kernel_rfl) (by kernel_rfl) (by kernel_rfl) (by kernel_rfl) (by kernel_rfl) (fun _ _ _ h => h) (Or.inl ⟨by rfl, ?yw13⟩) hS0 ?_
            case yw13 =>
              intro u hu
              try dsimp only at hu
              go_split_ands
              go_simp
              try with_reducible rfl
            simp only [Act.put, List.setIfInBounds_toArray, List.set_cons_zero, List.set_cons_succ]
            refine RunsZ.take 12 (i := 14) (v := ?vw14) (nth_z rfl) (by kernel_rfl) (by kernel_rfl) (by kernel_rfl) (by kernel_rfl) (by kernel_rfl) (fun _ _ _ h => h) (Or.inl ⟨by rfl, ?yw14⟩) hS0 ?_
            case yw14 =>
              intro u hu
              try dsimp only at hu
              go_split_ands
              go_simp
              try with_reducible rfl
            simp only [Act.put, List.setIfInBounds_toArray, List.set_cons_zero, List.set_cons_succ]
            refine RunsZ.take 12 (i := 15) (v := ?vw15) (nth_z rfl) (by kernel_rfl) (by kernel_rfl) (by kernel_rfl) (by kernel_rfl) (by kernel_rfl) (fun _ _ _ h => h) (Or.inl ⟨by rfl, ?yw15⟩) hS0 ?_
            case yw15 =>
              intro u hu
              try dsimp only at hu
              go_split_ands
              go_simp
              try with_reducible rfl
            simp only [Act.put, List.setIfInBounds_toArray, List.set_cons_zero, List.set_cons_succ]
            refine RunsZ.take 12 (i := 16) (v := ?vw16) (nth_z rfl) (by kernel_rfl) (by kernel_rfl) (by kernel_rfl) (by kernel_rfl) (by kernel_rfl) (fun _ _ _ h => h) (Or.inl ⟨by rfl, ?yw16⟩) hS0 ?_
            case yw16 =>
              intro u hu
              try dsimp only at hu
              go_split_ands
              go_simp
              try with_reducible rfl
            simp only [Act.put, List.setIfInBounds_toArray, List.set_cons_zero, List.set_cons_succ]
            refine RunsZ.take 12 (i := 17) (v := ?vw17) (nth_z rfl) (by kernel_rfl) (by kernel_rfl) (by kernel_rfl) (by kernel_rfl) (by kernel_rfl) (fun _ _ _ h => h) (Or.inl ⟨by rfl, ?yw17⟩) hS0 ?_
            case yw17 =>
              intro u hu
              try dsimp only at hu
              go_split_ands
              go_simp
              try with_reducible rfl
            simp only [Act.put, List.setIfInBounds_toArray, List.set_cons_zero, List.set_cons_succ]
            refine RunsZ.take 12 (i := 18) (v := ?vw18) (nth_z rfl) (by kernel_rfl) (by kernel_rfl) (by kernel_rfl) (by kernel_rfl) (by kernel_rfl) (fun _ _ _ h => h) (Or.inl ⟨by rfl, ?yw18⟩) hS0 ?_
            case yw18 =>
              intro u hu
              try dsimp only at hu
              go_split_ands
              go_simp
              try with_reducible rfl
            simp only [Act.put, List.setIfInBounds_toArray, List.set_cons_zero, List.set_cons_succ]
            refine RunsZ.take 12 (i := 19) (v := ?vw19) (nth_z rfl) (by kernel_rfl) (by kernel_rfl) (by kernel_rfl) (by kernel_rfl) (by kernel_rfl) (fun _ _ _ h => h) (Or.inl ⟨by rfl, ?yw19⟩) hS0 ?_
            case yw19 =>
              intro u hu
              try dsimp only at hu
              go_split_ands
              go_simp
              try with_reducible rfl
            simp only [Act.put, List.setIfInBounds_toArray, List.set_cons_zero, List.set_cons_succ]
            refine RunsZ.one (i := 8) (by kernel_rfl) (nth_z rfl) (by rfl) (fun K hK => ?_)
            go_simp
            refine (HC1.out _ (btrans HB0.out D5.out.bel)).mono ?_
            rintro e u1 ⟨rfl, g1⟩
            have D6 : Hid (Ly W [(wr.heap.size + 1, #[.int .i64 pc, .int .i64 pl, .int .i64 t], 55), (wr.heap.size, #[.int .i64 (q : Nat), .int .i64 po, .int .i64 pl, .int .i64 pc], 60)] (.slice (some ⟨g0, 0, none⟩) N N) us2 (layL ⟨c, d, t, .slice a2 n2 k2, xm⟩ V kd (List.replicate N []) (m.take j)) u1) := D5.out.below g1
            clear g1
            have hS1 : (fun w' => w'.cell? ⟨w.heap.size, 0, none⟩ = some (.int .i64 N) ∧ w'.cell? ⟨w.heap.size, 1, none⟩ = some (.int .i64 sy) ∧ w'.cell? ⟨w.heap.size, 2, none⟩ = some (.int .i64 la) ∧ w'.cell? ⟨w.heap.size, 3, none⟩ = some (.int .i64 mo) ∧ w'.cell? ⟨w.heap.size, 4, none⟩ = some (.slice av qr cv) ∧ w'.cell? ⟨bb, oo + i * 4, none⟩ = some (.int .i64 c) ∧ w'.cell? ⟨bb, oo + i * 4 + 1, none⟩ = some (.int .i64 d) ∧ w'.cell? ⟨bb, oo + i * 4 + 2, none⟩ = some (.int .i64 t)) u1 := ⟨(KW.out.1.below D6.out.bel).cell 0, (KW.out.1.below D6.out.bel).cell 1, (KW.out.1.below D6.out.bel).cell 2, (KW.out.1.below D6.out.bel).cell 3, (KW.out.1.below D6.out.bel).cell 4, (D6.out.bel.cell (p := ⟨bb, _, none⟩) hbl).trans y1, (D6.out.bel.cell (p := ⟨bb, _, none⟩) hbl).trans y2, (D6.out.bel.cell (p := ⟨bb, _, none⟩) hbl).trans y3⟩
            first | refine hK.out _ _ (fun _ => hS1) ?_ | (go_wp2_with fail; refine hK.out _ _ (fun _ => hS1) ?_)
            clear hK K
            try simp only [Act.put, List.setIfInBounds_toArray, List.set_cons_zero, List.set_cons_succ]
            refine RunsZ.take 12 (i := 9) (v := ?vw9) (nth_z rfl) (by kernel_rfl) (by kernel_rfl) (by kernel_rfl) (by kernel_rfl) (by kernel_rfl) (fun _ _ _ h => h) (Or.inl ⟨by rfl, ?yw9⟩) hS1 ?_
            case yw9 =>
              intro u hu
              try dsimp only at hu
              go_split_ands
              go_simp
              try with_reducible rfl
            simp only [Act.put, List.setIfInBounds_toArray, List.set_cons_zero, List.set_cons_succ]
            refine RunsZ.take 12 (i := 20) (v := ?vw20) (nth_z rfl) (by kernel_rfl) (by kernel_rfl) (by kernel_rfl) (by kernel_rfl) (by kernel_rfl) (fun _ _ _ h => h) (Or.inl ⟨by rfl, ?yw20⟩) hS1 ?_
            case yw20 =>
              intro u hu
              try dsimp only at hu
              go_split_ands
              go_simp
              try with_reducible rfl
            simp only [Act.put, List.setIfInBounds_toArray, List.set_cons_zero, List.set_cons_succ]
            have zf := (D6.out.at (g := wr.heap.size + 1) (cs := #[.int .i64 pc, .int .i64 pl, .int .i64 t]) (t := 55) (by simp)).frozen
            have f0 := zf 0
            have f1 := zf 1
            have f2 := zf 2
            clear zf
            have v0 : u1.cell? ⟨wr.heap.size + 1, 0, none⟩ = some (.int .i64 pc) := (D6.out.at (g := wr.heap.size + 1) (cs := #[.int .i64 pc, .int .i64 pl, .int .i64 t]) (t := 55) (by simp)).cell 0
            have v1 : u1.cell? ⟨wr.heap.size + 1, 1, none⟩ = some (.int .i64 pl) := (D6.out.at (g := wr.heap.size + 1) (cs := #[.int .i64 pc, .int .i64 pl, .int .i64 t]) (t := 55) (by simp)).cell 1
            have v2 : u1.cell? ⟨wr.heap.size + 1, 2, none⟩ = some (.int .i64 t) := (D6.out.at (g := wr.heap.size + 1) (cs := #[.int .i64 pc, .int .i64 pl, .int .i64 t]) (t := 55) (by simp)).cell 2
            refine RunsZ.one (i := 21) (by kernel_rfl) (nth_z rfl) (by rfl) (fun K hK => ?_)
            go_simp
            refine hK.out _ _ (fun h => absurd (by decide) h) ?_
            clear hK K
            try simp only [Act.put, List.setIfInBounds_toArray, List.set_cons_zero, List.set_cons_succ]
            refine RunsZ.done (by kernel_rfl) (NoPanic.normal ?_)
            go_wp2_with fail
            go_meet
            exact Ly.store3 (g := wr.heap.size + 1) (t := 55) D6.out (by omega) (fun x hx => by simp only [List.mem_cons, List.not_mem_nil, or_false] at hx; subst hx; simp) _ _ _
          · rw [if_neg hk] at hs
            simp only [Sec.mk.injEq] at hs
            obtain ⟨rfl, rfl, rfl⟩ := hs
            have hk2 : (kd == 1) = false := by simp [hk]
            go_wp2_with fail
            go_meet
            exact L5.out
        case rest =>
          have L6 : Hid (Ly W [(wr.heap.size + 1, #[.int .i64 s1, .int .i64 s2, .int .i64 s3], 55), (wr.heap.size, #[.int .i64 (q : Nat), .int .i64 po, .int .i64 pl, .int .i64 pc], 60)] (.slice (some ⟨g0, 0, none⟩) N N) us2 (layL ⟨c, d, t, .slice a2 n2 k2, xm⟩ V kd (List.replicate N []) (m.take j)) wc.drew) := Ly.drew hcut.out
          clear hcut L5 hs p0
          go_upto_region 9 with fail
          refine wp_region_noPanic (wp_region_runsZ (S := (fun w' => w'.cell? ⟨wr.heap.size, 0, none⟩ = some (.int .i64 (q : Nat)) ∧ w'.cell? ⟨g0, q, none⟩ = some (.slice au lr.length cu) ∧ w'.cell? ⟨wr.heap.size + 1, 0, none⟩ = some (.int .i64 s1) ∧ w'.cell? ⟨wr.heap.size + 1, 1, none⟩ = some (.int .i64 s2) ∧ w'.cell? ⟨wr.heap.size + 1, 2, none⟩ = some (.int .i64 s3))) (Z := [12]) (by kernel_rfl) ?_)
          have hS0 : (fun w' => w'.cell? ⟨wr.heap.size, 0, none⟩ = some (.int .i64 (q : Nat)) ∧ w'.cell? ⟨g0, q, none⟩ = some (.slice au lr.length cu) ∧ w'.cell? ⟨wr.heap.size + 1, 0, none⟩ = some (.int .i64 s1) ∧ w'.cell? ⟨wr.heap.size + 1, 1, none⟩ = some (.int .i64 s2) ∧ w'.cell? ⟨wr.heap.size + 1, 2, none⟩ = some (.int .i64 s3)) wc.drew := ⟨(L6.out.at (g := wr.heap.size) (cs := #[.int .i64 (q : Nat), .int .i64 po, .int .i64 pl, .int .i64 pc]) (t := 60) (by simp)).cell 0, (L6.out.own.cell HUQ.out).1, (L6.out.at (g := wr.heap.size + 1) (cs := #[.int .i64 s1, .int .i64 s2, .int .i64 s3]) (t := 55) (by simp)).cell 0, (L6.out.at (g := wr.heap.size + 1) (cs := #[.int .i64 s1, .int .i64 s2, .int .i64 s3]) (t := 55) (by simp)).cell 1, (L6.out.at (g := wr.heap.size + 1) (cs := #[.int .i64 s1, .int .i64 s2, .int .i64 s3]) (t := 55) (by simp)).cell 2⟩
          generalize wc.drew = u0 at L6 hS0 ⊢
          refine RunsZ.take 12 (i := 0) (v := ?vz0) (nth_z rfl) (by kernel_rfl) (by kernel_rfl) (by kernel_rfl) (by kernel_rfl) (by kernel_rfl) (fun _ _ _ h => h) (Or.inl ⟨by rfl, ?yz0⟩) hS0 ?_
          case yz0 =>
            intro u hu
            try dsimp only at hu
            go_split_ands
            go_simp
            try with_reducible rfl
          simp only [Act.put, List.setIfInBounds_toArray, List.set_cons_zero, List.set_cons_succ]
          refine RunsZ.take 12 (i := 1) (v := ?vz1) (nth_z rfl) (by kernel_rfl) (by kernel_rfl) (by kernel_rfl) (by kernel_rfl) (by kernel_rfl) (fun _ _ _ h => h) (Or.inl ⟨by rfl, ?yz1⟩) hS0 ?_
          case yz1 =>
            intro u hu
            try dsimp only at hu
            go_split_ands
            go_simp
            try with_reducible rfl
          simp only [Act.put, List.setIfInBounds_toArray, List.set_cons_zero, List.set_cons_succ]
          refine RunsZ.take 12 (i := 2) (v := ?vz2) (nth_z rfl) (by kernel_rfl) (by kernel_rfl) (by kernel_rfl) (by kernel_rfl) (by kernel_rfl) (fun _ _ _ h => h) (Or.inl ⟨by rfl, ?yz2⟩) hS0 ?_
          case yz2 =>
            intro u hu
            try dsimp only at hu
            go_split_ands
            go_simp
            try with_reducible rfl
          simp only [Act.put, List.setIfInBounds_toArray, List.set_cons_zero, List.set_cons_succ]
          refine RunsZ.take 12 (i := 3) (v := ?vz3) (nth_z rfl) (by kernel_rfl) (by kernel_rfl) (by kernel_rfl) (by kernel_rfl) (by kernel_rfl) (fun _ _ _ h => h) (Or.inl ⟨by rfl, ?yz3⟩) hS0 ?_
          case yz3 =>
            intro u hu
            try dsimp only at hu
            go_split_ands
            go_simp
            try with_reducible rfl
          simp only [Act.put, List.setIfInBounds_toArray, List.set_cons_zero, List.set_cons_succ]
          refine RunsZ.take 12 (i := 4) (v := ?vz4) (nth_z rfl) (by kernel_rfl) (by kernel_rfl) (by kernel_rfl) (by kernel_rfl) (by kernel_rfl) (fun _ _ _ h => h) (Or.inl ⟨by rfl, ?yz4⟩) hS0 ?_
          case yz4 =>
            intro u hu
            try dsimp only at hu
            go_split_ands
            go_simp
            try with_reducible rfl
          simp only [Act.put, List.setIfInBounds_toArray, List.set_cons_zero, List.set_cons_succ]
          refine RunsZ.take 12 (i := 5) (v := ?vz5) (nth_z rfl) (by kernel_rfl) (by kernel_rfl) (by kernel_rfl) (by kernel_rfl) (by kernel_rfl) (fun _ _ _ h => h) (Or.inl ⟨by rfl, ?yz5⟩) hS0 ?_
          case yz5 =>
            intro u hu
            try dsimp only at hu
            go_split_ands
            go_simp
            try with_reducible rfl
          simp only [Act.put, List.setIfInBounds_toArray, List.set_cons_zero, List.set_cons_succ]
          refine RunsZ.take 12 (i := 6) (v := ?vz6) (nth_z rfl) (by kernel_rfl) (by kernel_rfl) (by kernel_rfl) (by kernel_rfl) (by kernel_rfl) (fun _ _ _ h => h) (Or.inl ⟨by rfl, ?yz6⟩) hS0 ?_
          case yz6 =>
            intro u hu
            try dsimp only at hu
            go_split_ands
            go_simp
            try with_reducible rfl
          simp only [Act.put, List.setIfInBounds_toArray, List.set_cons_zero, List.set_cons_succ]
          refine RunsZ.take 12 (i := 7) (v := ?vz7) (nth_z rfl) (by kernel_rfl) (by kernel_rfl) (by kernel_rfl) (by kernel_rfl) (by kernel_rfl) (fun _ _ _ h => h) (Or.inl ⟨by rfl, ?yz7⟩) hS0 ?_
          case yz7 =>
            intro u hu
            try dsimp only at hu
            go_split_ands
            go_simp
            try with_reducible rfl
          simp only [Act.put, List.setIfInBounds_toArray, List.set_cons_zero, List.set_cons_succ]
          refine RunsZ.take 12 (i := 8) (v := ?vz8) (nth_z rfl) (by kernel_rfl) (by kernel_rfl) (by kernel_rfl) (by kernel_rfl) (by kernel_rfl) (fun _ _ _ h => h) (Or.inl ⟨by rfl, ?yz8⟩) hS0 ?_
          case yz8 =>
            intro u hu
            try dsimp only at hu
            go_split_ands
            go_simp
            try with_reducible rfl
          simp only [Act.put, List.setIfInBounds_toArray, List.set_cons_zero, List.set_cons_succ]
          have L7 : Hid (Ly W [(wr.heap.size + 1, #[.int .i64 s1, .int .i64 s2, .int .i64 s3], 55), (wr.heap.size, #[.int .i64 (q : Nat), .int .i64 po, .int .i64 pl, .int .i64 pc], 60)] (.slice (some ⟨g0, 0, none⟩) N N) us2 (layL ⟨c, d, t, .slice a2 n2 k2, xm⟩ V kd (List.replicate N []) (m.take j)) (u0.alloc (.cells #[.int .i64 s1, .int .i64 s2, .int .i64 s3] 55))) := L6.out.below (balloc _ _)
          have hS1 : (fun w' => w'.cell? ⟨wr.heap.size, 0, none⟩ = some (.int .i64 (q : Nat)) ∧ w'.cell? ⟨g0, q, none⟩ = some (.slice au lr.length cu) ∧ w'.cell? ⟨wr.heap.size + 1, 0, none⟩ = some (.int .i64 s1) ∧ w'.cell? ⟨wr.heap.size + 1, 1, none⟩ = some (.int .i64 s2) ∧ w'.cell? ⟨wr.heap.size + 1, 2, none⟩ = some (.int .i64 s3)) (u0.alloc (.cells #[.int .i64 s1, .int .i64 s2, .int .i64 s3] 55)) := ⟨(L7.out.at (g := wr.heap.size) (cs := #[.int .i64 (q : Nat), .int .i64 po, .int .i64 pl, .int .i64 pc]) (t := 60) (by simp)).cell 0, (L7.out.own.cell HUQ.out).1, (L7.out.at (g := wr.heap.size + 1) (cs := #[.int .i64 s1, .int .i64 s2, .int .i64 s3]) (t := 55) (by simp)).cell 0, (L7.out.at (g := wr.heap.size + 1) (cs := #[.int .i64 s1, .int .i64 s2, .int .i64 s3]) (t := 55) (by simp)).cell 1, (L7.out.at (g := wr.heap.size + 1) (cs := #[.int .i64 s1, .int .i64 s2, .int .i64 s3]) (t := 55) (by simp)).cell 2⟩
          refine RunsZ.one (i := 9) (by kernel_rfl) (nth_z rfl) (by rfl) (fun K hK => ?_)
          go_simp
          refine hK.out _ _ (fun _ => hS1) ?_
          clear hK K
          try simp only [Act.put, List.setIfInBounds_toArray, List.set_cons_zero, List.set_cons_succ]
          have O6 := L7.out.own.row q _ lr HUQ.out HLR.out
          have su0 := L6.out.bel.size
          refine RunsZ.one (i := 10) (by kernel_rfl) (nth_z rfl) (by rfl) (fun K hK => ?_)
          refine wp_append_at (u0.alloc (.cells #[.int .i64 s1, .int .i64 s2, .int .i64 s3] 55)) (.tmp 69) (.tmp 71) 51 (by rfl) W.heap.size 55 i0 _ 3 24 Tryz.underlying51 hi0 hz0 hz1 hz2 rfl (by omega) (.slice au lr.length cu) lr.length (secC lr) (by rfl) O6 ⟨u0.heap.size, 0, none⟩ 1 1 [.int .i64 s1, .int .i64 s2, .int .i64 s3] (by rfl) rfl (cell_three _ _ _ _ _) (by intro u hu; simp at hu; rcases hu with rfl | rfl | rfl <;> rfl) (by unfold maxLen; omega) (by omega) (by simp; omega) ?_
          intro u7 w7 own7 gr7 at7
          have hown7 : OwnL w7 W.heap.size u7 (lr ++ [⟨s1, s2, s3⟩]) := by unfold OwnL; rw [List.length_append, secC_append]; exact own7
          obtain ⟨h70, h71, h72⟩ := L6.out.kept HUQ.out HLR.out gr7
          have K1 := L6.out.keptB HUQ.out gr7 (x := wr.heap.size) (cs := #[.int .i64 (q : Nat), .int .i64 po, .int .i64 pl, .int .i64 pc]) (t := 60) (by simp)
          have K2 := L6.out.keptB HUQ.out gr7 (x := wr.heap.size + 1) (cs := #[.int .i64 s1, .int .i64 s2, .int .i64 s3]) (t := 55) (by simp)
          have hS2 : (fun w' => w'.cell? ⟨wr.heap.size, 0, none⟩ = some (.int .i64 (q : Nat)) ∧ w'.cell? ⟨g0, q, none⟩ = some (.slice au lr.length cu) ∧ w'.cell? ⟨wr.heap.size + 1, 0, none⟩ = some (.int .i64 s1) ∧ w'.cell? ⟨wr.heap.size + 1, 1, none⟩ = some (.int .i64 s2) ∧ w'.cell? ⟨wr.heap.size + 1, 2, none⟩ = some (.int .i64 s3)) w7 := ⟨K1.cell 0, h70, K2.cell 0, K2.cell 1, K2.cell 2⟩
          have L8 : Hid (Ly W [(wr.heap.size + 1, #[.int .i64 s1, .int .i64 s2, .int .i64 s3], 55), (wr.heap.size, #[.int .i64 (q : Nat), .int .i64 po, .int .i64 pl, .int .i64 pc], 60)] (.slice (some ⟨g0, 0, none⟩) N N) (us2.set q u7) (((layL ⟨c, d, t, .slice a2 n2 k2, xm⟩ V kd (List.replicate N []) (m.take j))).set q (lr ++ [⟨s1, s2, s3⟩])) (w7.setCell ⟨g0, q, none⟩ u7)) := L6.out.put HUQ.out HLR.out hown7 gr7 (at7.imp id (fun e => ⟨_, e, by simp⟩))
          obtain ⟨a7, c7, e7⟩ := own_form own7
          subst e7
          clear own7 gr7 at7 hown7 K1 K2
          refine hK.out _ _ (fun _ => hS2) ?_
          clear hK K hS0 hS1
          try simp only [Act.put, List.setIfInBounds_toArray, List.set_cons_zero, List.set_cons_succ]
          refine RunsZ.take 12 (i := 11) (v := ?vz11) (nth_z rfl) (by kernel_rfl) (by kernel_rfl) (by kernel_rfl) (by kernel_rfl) (by kernel_rfl) (fun _ _ _ h => h) (Or.inl ⟨by rfl, ?yz11⟩) hS2 ?_
          case yz11 =>
            intro u hu
            try dsimp only at hu
            go_split_ands
            go_simp
            try with_reducible rfl
          simp only [Act.put, List.setIfInBounds_toArray, List.set_cons_zero, List.set_cons_succ]
          refine RunsZ.one (i := 12) (by kernel_rfl) (nth_z rfl) (by rfl) (fun K hK => ?_)
          go_simp
          refine hK.out _ _ (fun h => absurd (by decide) h) ?_
          clear hK K
          try simp only [Act.put, List.setIfInBounds_toArray, List.set_cons_zero, List.set_cons_succ]
          refine RunsZ.done (by kernel_rfl) (NoPanic.normal ?_)
          go_wp2_with fail
          go_round
          case rel => exact ⟨j + 1, by omega, by go_num, ⟨⟨_, by rw [layL_take _ _ _ HXP.out, HS.out, show (⟨(q : Int), po, pl, pc⟩ : Pc).core.toNat = q from Int.toNat_natCast q, addAt_set HLR.out]; exact L8.out.own⟩, L8.out.bel⟩⟩
          case measure => simp [intOf]; omega
    · have e : m.take j = m := List.take_of_length_le (by have := HNP.out; omega)
      rw [e] at L3
      clear e
      have hs0 := HB0.out.size
      go_wp2_with fail
      go_ret
      exact ⟨g0, rfl, by omega, Lay.mono ⟨⟨_, L3.out.own⟩, L3.out.bel⟩ HB0.out⟩
end Go.Proofs.YtakdliecjfeedaaGreatDoor
