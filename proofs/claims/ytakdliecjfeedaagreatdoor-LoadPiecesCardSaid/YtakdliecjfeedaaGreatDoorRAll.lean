/- The contracts of load.Of and of the document's own Of. -/
import Derived.Test.YtakdliecjfeedaaGreatDoorLAll
import Derived.Test.YtakdliecjfeedaaGreatDoorRSec
namespace Go.Proofs.YtakdliecjfeedaaGreatDoor
open Go Go.RowKit

set_option maxHeartbeats 8000000 in
theorem lof_any (sy la mo : Int) (v : Value) (res : List Int) (a : Option Addr) (n cap : Nat) (l : List TV) (i : Nat) (c d t : Int) (a2 : Option Addr) (n2 k2 : Nat) (xm : List Sec) (kd : Int) (ap : Option Addr) (cp np : Nat) (m : List Pc) (N : Nat) (w : World)
    (hv : Ints w v res) (hr : res.length ≤ 1000000) (hc : cfgB ⟨N, sy, la, mo, res⟩ = true) (hl : Tks w (.slice a n cap) l) (hn : l.length = n) (hm : mayV res.length l = true) (hX : l[i]? = some ⟨c, d, t, .slice a2 n2 k2, xm⟩)
    (hp : Pcs w (.slice ap np cp) m) (hml : m.length ≤ 1000) (hon : onB N m = true) :
    Calls Tryz.prog 26 #[.agg #[.int .i64 N, .int .i64 sy, .int .i64 la, .int .i64 mo, v], .slice a n cap, .int .i64 i, .agg #[.int .i64 kd, .slice ap np cp]] w fun e w' => ∃ g, e = .returned (.slice (some ⟨g, 0, none⟩) N N) ∧ w.heap.size ≤ g ∧ Lay w (.slice (some ⟨g, 0, none⟩) N N) (layL ⟨c, d, t, .slice a2 n2 k2, xm⟩ (waitV la res l i) kd (List.replicate N []) m) w' := by
  obtain ⟨av, cv, rfl⟩ := hv.form
  obtain ⟨qr, hq⟩ : ∃ qr, res.length = qr := ⟨_, rfl⟩
  have HMS : Hid (∀ x ∈ l, x.m.length ≤ 1000000) := fun x hx => by have := (tv_secs (mayV_all hm x hx)).1; omega
  have h12 := mayV_len hm
  have hN6 : N ≤ 6 := by have := (cfgB_iff.1 hc).1; simp only at this; omega
  have n12 : n ≤ 12 := by omega
  have hin : i < n := by rw [← hn]; exact (List.getElem?_eq_some_iff.1 hX).1
  rw [hq] at hv ⊢
  have HB0 : Hid (Below w.heap.size w ((w.alloc (.cells #[.int .i64 N, .int .i64 sy, .int .i64 la, .int .i64 mo, .slice av qr cv] 24)).alloc (.cells #[.int .i64 kd, .slice ap np cp] 49))) := btrans (balloc _ _) (balloc _ _)
  have KW : Hid (Blk ((w.alloc (.cells #[.int .i64 N, .int .i64 sy, .int .i64 la, .int .i64 mo, .slice av qr cv] 24)).alloc (.cells #[.int .i64 kd, .slice ap np cp] 49)) w.heap.size #[.int .i64 N, .int .i64 sy, .int .i64 la, .int .i64 mo, .slice av qr cv] 24 ∧ Blk ((w.alloc (.cells #[.int .i64 N, .int .i64 sy, .int .i64 la, .int .i64 mo, .slice av qr cv] 24)).alloc (.cells #[.int .i64 kd, .slice ap np cp] 49)) (w.heap.size + 1) #[.int .i64 kd, .slice ap np cp] 49) := blk_twoC _ _ _ _ _
  have HV : Hid (Ints ((w.alloc (.cells #[.int .i64 N, .int .i64 sy, .int .i64 la, .int .i64 mo, .slice av qr cv] 24)).alloc (.cells #[.int .i64 kd, .slice ap np cp] 49)) (.slice av qr cv) res) := hv.below HB0.out
  have HL : Hid (Tks ((w.alloc (.cells #[.int .i64 N, .int .i64 sy, .int .i64 la, .int .i64 mo, .slice av qr cv] 24)).alloc (.cells #[.int .i64 kd, .slice ap np cp] 49)) (.slice a n cap) l) := hl.below HB0.out
  have HP : Hid (Pcs ((w.alloc (.cells #[.int .i64 N, .int .i64 sy, .int .i64 la, .int .i64 mo, .slice av qr cv] 24)).alloc (.cells #[.int .i64 kd, .slice ap np cp] 49)) (.slice ap np cp) m) := hp.below HB0.out
  have HC : Hid (cfgB ⟨N, sy, la, mo, res⟩ = true) := hc
  have HM : Hid (mayV res.length l = true) := hm
  have HN : Hid (l.length = n) := hn
  have HX : Hid (l[i]? = some ⟨c, d, t, .slice a2 n2 k2, xm⟩) := hX
  have HON : Hid (onB N m = true) := hon
  have HR : Hid (res.length ≤ 1000000) := hr
  have HML : Hid (m.length ≤ 1000) := hml
  have mk := mkR N (by omega)
  have k0 : ¬ (i : Int) < 0 := by omega
  have k1 : ¬ (n : Int) ≤ (i : Int) := by omega
  have k2' : ¬ n ≤ i := by omega
  clear hv hl hc hm hn hX hp hon hq hr hml
  go_enter Tryz.func26, Tryz.ntmps26
  go_wp2_with fail
  generalize hW : (w.alloc _).alloc _ = W at HB0 KW HV HL HP ⊢
  clear hW
  refine (lmay_any N sy la mo (.slice av qr cv) res a n cap l W HV.out HR.out HC.out HL.out HN.out (by omega) HMS.out).mono ?_
  rintro e w2 ⟨rfl, g2⟩
  rw [HM.out]
  have G2 : Hid (Below W.heap.size W w2) := g2
  have K2 := KW.out.1.below g2
  have K3 := KW.out.2.below g2
  have c0 := K2.cell 0
  have c1 := K2.cell 1
  have c2 := K2.cell 2
  have c3 := K2.cell 3
  have c4 := K2.cell 4
  simp at c0 c1 c2 c3 c4
  have p0 := K3.cell 0
  have p1 := K3.cell 1
  simp at p0 p1
  clear g2 K2 K3
  go_wp2_with fail
  refine (onc_any N sy la mo _ kd _ m _ (by have := HML.out; omega) (HP.out.below G2.out)).mono ?_
  rintro e w3 ⟨rfl, g3⟩
  rw [HON.out]
  have G3 : Hid (Below W.heap.size W w3) := btrans G2.out g3
  have K2 := KW.out.1.below G3.out
  have K3 := KW.out.2.below G3.out
  clear g3 G2 c0 c1 c2 c3 c4 p0 p1
  have c0 := K2.cell 0
  have c1 := K2.cell 1
  have c2 := K2.cell 2
  have c3 := K2.cell 3
  have c4 := K2.cell 4
  simp at c0 c1 c2 c3 c4
  have p0 := K3.cell 0
  have p1 := K3.cell 1
  simp at p0 p1
  have LM : Hid (Lay W (.slice (some ⟨w3.heap.size, 0, none⟩) N N) (List.replicate N []) (w3.alloc (.cells (Array.replicate N (.slice none 0 0)) 51))) := lay_made G3.out N (by omega)
  have sG := G3.out.size
  have sK2 := K2.lt
  have sK3 := K3.lt
  clear K2 K3
  go_wp2_with fail
  generalize hW3 : w3.alloc _ = W3 at LM ⊢
  generalize hg0 : w3.heap.size = g0 at LM sG ⊢
  clear hW3 mk c0 c1 c2 c3 c4 p0 p1
  refine (lay_any N sy la mo (.slice av qr cv) res a n cap l i c d t a2 n2 k2 xm kd (.slice ap np cp) m (some ⟨g0, 0, none⟩) N N _ 0 W W3 HV.out HR.out HC.out HL.out HN.out HM.out HX.out HP.out HML.out HON.out LM.out (by rw [List.length_replicate]) (fun r hr => by rw [List.eq_of_mem_replicate hr]; simp) (by omega)).mono ?_
  rintro e w6 ⟨rfl, l6⟩
  have L6 : Hid (Lay w (.slice (some ⟨g0, 0, none⟩) N N) (layL ⟨c, d, t, .slice a2 n2 k2, xm⟩ (waitV la res l i) kd (List.replicate N []) m) w6) := l6.mono HB0.out
  have hs0 := HB0.out.size
  clear l6
  go_wp2_with fail
  go_ret
  exact ⟨g0, rfl, by omega, L6.out⟩
end Go.Proofs.YtakdliecjfeedaaGreatDoor

/- The contract of the document's own Of. -/
namespace Go.Proofs.YtakdliecjfeedaaGreatDoor
open Go Go.RowKit

set_option maxHeartbeats 16000000 in
set_option maxRecDepth 100000 in
theorem rof_any (sy la mo : Int) (v : Value) (res : List Int) (a : Option Addr) (n cap : Nat) (l : List TV) (i : Nat) (c d t : Int) (a2 : Option Addr) (n2 k2 : Nat) (xm : List Sec) (kd : Int) (ap : Option Addr) (cp np : Nat) (m : List Pc) (N : Nat) (w : World)
    (hv : Ints w v res) (hr : res.length ≤ 1000000) (hc : cfgB ⟨N, sy, la, mo, res⟩ = true) (hl : Tks w (.slice a n cap) l) (hn : l.length = n) (hm : mayV res.length l = true) (hX : l[i]? = some ⟨c, d, t, .slice a2 n2 k2, xm⟩)
    (hp : Pcs w (.slice ap np cp) m) (hnp : m.length = np) (hml : np ≤ 1000) (hon : onB N m = true) :
    Calls Tryz.prog 27 #[.agg #[.int .i64 N, .int .i64 sy, .int .i64 la, .int .i64 mo, v], .slice a n cap, .int .i64 i, .agg #[.int .i64 kd, .slice ap np cp]] w fun e w' => ∃ g, e = .returned (.slice (some ⟨g, 0, none⟩) N N) ∧ w.heap.size ≤ g ∧ Lay w (.slice (some ⟨g, 0, none⟩) N N) (layL ⟨c, d, t, .slice a2 n2 k2, xm⟩ (waitV la res l i) kd (List.replicate N []) m) w' := by
  obtain ⟨i0, hi0, hz0, hz1, hz2⟩ := info_parts infoL
  obtain ⟨av, cv, rfl⟩ := hv.form
  obtain ⟨qr, hq⟩ : ∃ qr, res.length = qr := ⟨_, rfl⟩
  have h12 := mayV_len hm
  have hN6 : N ≤ 6 := by have := (cfgB_iff.1 hc).1; simp only at this; omega
  have n12 : n ≤ 12 := by omega
  have hin : i < n := by rw [← hn]; exact (List.getElem?_eq_some_iff.1 hX).1
  have hXt := mayV_all hm _ (List.mem_of_getElem? hX)
  obtain ⟨V, hV⟩ : ∃ V, waitV la res l i = V := ⟨_, rfl⟩
  have hla := (cfgB_iff.1 hc).2.2.1
  simp only at hla
  have hVb : 0 ≤ V ∧ V ≤ 2000000 := by
    have h1 := wSum_bd (la := la) (res := res) hla.1 hla.2 (show l.length ≤ 1000 by omega) (fun x hx s hs => ((tv_secs (mayV_all hm x hx)).2 s hs).2) i xm.length
    have e := waitV_at (la := la) (res := res) hX
    rw [hV] at e
    simp only at e
    rw [← e] at h1
    have := (tv_secs hXt).1
    simp only at this
    omega
  obtain ⟨x1, x2, x3, x4, -, -⟩ := tskB_facts hXt
  simp only [TV.tsk] at x1 x2 x3 x4
  rw [hV]
  have HB0 : Hid (Below w.heap.size w ((w.alloc (.cells #[.int .i64 N, .int .i64 sy, .int .i64 la, .int .i64 mo, .slice av qr cv] 24)).alloc (.cells #[.int .i64 kd, .slice ap np cp] 49))) := btrans (balloc _ _) (balloc _ _)
  have HC1 : Hid (∀ w' : World, Below w.heap.size w w' → Calls Tryz.prog 17 #[.agg #[.int .i64 N, .int .i64 sy, .int .i64 la, .int .i64 mo, .slice av qr cv], .slice a n cap, .int .i64 i] w' fun e w'' => e = .returned (.int .i64 V) ∧ Below w'.heap.size w' w'') := fun w' hb => by
    have := rwait_any N sy la mo (.slice av res.length cv) res a n cap l i w' (hv.below hb) hr hla.1 hla.2 (hl.below hb) hn n12 (mayV_all hm)
    rw [hV, hq] at this
    exact this
  rw [hq] at hv ⊢
  have KW : Hid (Blk ((w.alloc (.cells #[.int .i64 N, .int .i64 sy, .int .i64 la, .int .i64 mo, .slice av qr cv] 24)).alloc (.cells #[.int .i64 kd, .slice ap np cp] 49)) w.heap.size #[.int .i64 N, .int .i64 sy, .int .i64 la, .int .i64 mo, .slice av qr cv] 24 ∧ Blk ((w.alloc (.cells #[.int .i64 N, .int .i64 sy, .int .i64 la, .int .i64 mo, .slice av qr cv] 24)).alloc (.cells #[.int .i64 kd, .slice ap np cp] 49)) (w.heap.size + 1) #[.int .i64 kd, .slice ap np cp] 49) := blk_twoC _ _ _ _ _
  have HL : Hid (Tks ((w.alloc (.cells #[.int .i64 N, .int .i64 sy, .int .i64 la, .int .i64 mo, .slice av qr cv] 24)).alloc (.cells #[.int .i64 kd, .slice ap np cp] 49)) (.slice a n cap) l) := hl.below HB0.out
  have HP : Hid (Pcs ((w.alloc (.cells #[.int .i64 N, .int .i64 sy, .int .i64 la, .int .i64 mo, .slice av qr cv] 24)).alloc (.cells #[.int .i64 kd, .slice ap np cp] 49)) (.slice ap np cp) m) := hp.below HB0.out
  have HX : Hid (l[i]? = some ⟨c, d, t, .slice a2 n2 k2, xm⟩) := hX
  have HON : Hid (onB N m = true) := hon
  have HNP : Hid (m.length = np) := hnp
  have mk := mkR N (by omega)
  have i0' : (0 : Int) ≤ (i : Int) := by omega
  have i1' : (i : Int) < (n : Int) := by omega
  clear hv hl hc hm hn hX hp hon hq hr hnp hV hla hXt
  go_enter Tryz.func27, Tryz.ntmps27
  have LM : Hid (Lay ((w.alloc (.cells #[.int .i64 N, .int .i64 sy, .int .i64 la, .int .i64 mo, .slice av qr cv] 24)).alloc (.cells #[.int .i64 kd, .slice ap np cp] 49)) (.slice (some ⟨((w.alloc (.cells #[.int .i64 N, .int .i64 sy, .int .i64 la, .int .i64 mo, .slice av qr cv] 24)).alloc (.cells #[.int .i64 kd, .slice ap np cp] 49)).heap.size, 0, none⟩) N N) (List.replicate N []) (((w.alloc (.cells #[.int .i64 N, .int .i64 sy, .int .i64 la, .int .i64 mo, .slice av qr cv] 24)).alloc (.cells #[.int .i64 kd, .slice ap np cp] 49)).alloc (.cells (Array.replicate N (.slice none 0 0)) 51))) := lay_made (Below.refl _ _) N (by omega)
  go_upto_region 1 with fail
  generalize hW : (w.alloc _).alloc _ = W at HB0 KW HL HP LM ⊢
  clear hW
  have c0 := KW.out.1.cell 0
  simp at c0
  have sW := KW.out.2.lt
  go_wp2_with fail
  generalize hW3 : W.alloc _ = W3 at LM ⊢
  generalize hg0 : W.heap.size = g0 at LM sW ⊢
  clear hW3 mk c0
  go_loopw [10] (fun i2 wr => ∃ j : Nat, j ≤ np ∧ i2 = .int .i64 j ∧ Hid (Lay W (.slice (some ⟨g0, 0, none⟩) N N) (layL ⟨c, d, t, .slice a2 n2 k2, xm⟩ V kd (List.replicate N []) (m.take j)) wr)) (fun i2 _ => np - (intOf i2).toNat)
  case atStart => exact ⟨0, Nat.zero_le _, rfl, by rw [List.take_zero]; exact LM.out⟩
  case round =>
    obtain ⟨j, hj, rfl, l3⟩ := hrel
    obtain ⟨us2, hO3⟩ := l3.out.own
    have L3 : Hid (Ly W [] (.slice (some ⟨g0, 0, none⟩) N N) us2 (layL ⟨c, d, t, .slice a2 n2 k2, xm⟩ V kd (List.replicate N []) (m.take j)) wr) := ⟨fun q hq => (by cases hq), hO3, l3.out.bel⟩
    clear l3 hO3 LM
    have sr : W.heap.size ≤ wr.heap.size := L3.out.bel.size
    have p0 : wr.cell? ⟨w.heap.size + 1, 0, none⟩ = some (.int .i64 kd) := (KW.out.2.below L3.out.bel).cell 0
    have p1 : wr.cell? ⟨w.heap.size + 1, 1, none⟩ = some (.slice ap np cp) := (KW.out.2.below L3.out.bel).cell 1
    by_cases hlt : j < np
    · obtain ⟨⟨pq, po, pl, pc⟩, hx⟩ : ∃ x, m[j]? = some x := ⟨_, List.getElem?_eq_getElem (by rw [HNP.out]; exact hlt)⟩
      obtain ⟨qq0, qq1⟩ := onB_all HON.out _ (List.mem_of_getElem? hx)
      simp only at qq0 qq1
      obtain ⟨q, rfl⟩ : ∃ q : Nat, pq = q := ⟨pq.toNat, by omega⟩
      have HXP : Hid (m[j]? = some ⟨q, po, pl, pc⟩) := hx
      obtain ⟨b3, o3, e3, hb3, z0, z1, z2, z3⟩ := (HP.out.below L3.out.bel).at hx
      subst e3
      simp only at z0 z1 z2 z3
      clear hx
      have hqr : q < N := by omega
      have hlr : (layL ⟨c, d, t, .slice a2 n2 k2, xm⟩ V kd (List.replicate N []) (m.take j)).length = N := by rw [layL_length, List.length_replicate]
      have hus := L3.out.own.len
      obtain ⟨lr, hlr2⟩ : ∃ lr, (layL ⟨c, d, t, .slice a2 n2 k2, xm⟩ V kd (List.replicate N []) (m.take j))[q]? = some lr := ⟨_, List.getElem?_eq_getElem (by omega)⟩
      obtain ⟨uq, hu2⟩ : ∃ uq, us2[q]? = some uq := ⟨_, List.getElem?_eq_getElem (by omega)⟩
      have HLR : Hid ((layL ⟨c, d, t, .slice a2 n2 k2, xm⟩ V kd (List.replicate N []) (m.take j))[q]? = some lr) := hlr2
      have HUQ : Hid (us2[q]? = some uq) := hu2
      have hlen : lr.length ≤ 1000 := by
        have := lay_len ⟨c, d, t, .slice a2 n2 k2, xm⟩ V kd 0 (m.take j) (List.replicate N []) (fun r hr => by rw [List.eq_of_mem_replicate hr]; simp) lr (List.mem_of_getElem? hlr2)
        rw [List.length_take] at this
        omega
      obtain ⟨au, cu, eu⟩ := (L3.out.own.row q uq lr hu2 hlr2).form
      subst eu
      have e0 : (0 : Int) ≤ (q : Int) := by omega
      have e1 : (q : Int) < (N : Int) := by omega
      clear hlr2 hu2 hlr hus
      obtain ⟨bb, oo, eb, hbl, y1, y2, y3, -, -⟩ := HL.out.at HX.out
      subst eb
      simp only at y1 y2 y3
      have L4 : Hid (Ly W [(wr.heap.size, #[.int .i64 (q : Nat), .int .i64 po, .int .i64 pl, .int .i64 pc], 60)] (.slice (some ⟨g0, 0, none⟩) N N) us2 (layL ⟨c, d, t, .slice a2 n2 k2, xm⟩ V kd (List.replicate N []) (m.take j)) (wr.alloc (.cells #[.int .i64 (q : Nat), .int .i64 po, .int .i64 pl, .int .i64 pc] 60))) := L3.out.alloc #[.int .i64 (q : Nat), .int .i64 po, .int .i64 pl, .int .i64 pc] 60 rfl
      obtain ⟨⟨s1, s2, s3⟩, hs⟩ : ∃ s, askOf ⟨c, d, t, .slice a2 n2 k2, xm⟩ V kd ⟨q, po, pl, pc⟩ = s := ⟨_, rfl⟩
      have HS : Hid (askOf ⟨c, d, t, .slice a2 n2 k2, xm⟩ V kd ⟨q, po, pl, pc⟩ = ⟨s1, s2, s3⟩) := hs
      have W1 : IntKind.i64.wrap (c + V) = c + V := IntWalk.i64_in _ (by omega)
      have hbW : bb < W.heap.size := hbl
      go_upto_region 6 with fail
      have hs4 : (wr.alloc (.cells #[.int .i64 (q : Nat), .int .i64 po, .int .i64 pl, .int .i64 pc] 60)).heap.size = wr.heap.size + 1 := by simp
      generalize hW4 : wr.alloc _ = W4 at L4 hs4 ⊢
      clear hW4 z0 z1 z2 z3 p0
      go_cut [12] from 28 to 37 (fun x wx => x = .pointer (some ⟨wr.heap.size + 1, 0, none⟩) ∧ Hid (Ly W [(wr.heap.size + 1, #[.int .i64 pc, .int .i64 pl, .int .i64 t], 55), (wr.heap.size, #[.int .i64 (q : Nat), .int .i64 po, .int .i64 pl, .int .i64 pc], 60)] (.slice (some ⟨g0, 0, none⟩) N N) us2 (layL ⟨c, d, t, .slice a2 n2 k2, xm⟩ V kd (List.replicate N []) (m.take j)) wx))
      case first =>
        have D4 : Hid (Ly W [(wr.heap.size, #[.int .i64 (q : Nat), .int .i64 po, .int .i64 pl, .int .i64 pc], 60)] (.slice (some ⟨g0, 0, none⟩) N N) us2 (layL ⟨c, d, t, .slice a2 n2 k2, xm⟩ V kd (List.replicate N []) (m.take j)) W4.drew) := L4.out.drew
        have s4 : W4.heap.size = wr.heap.size + 1 := hs4
        refine wp_region_noPanic (wp_region_runsZ (S := (fun w' => w'.cell? ⟨wr.heap.size, 2, none⟩ = some (.int .i64 pl) ∧ w'.cell? ⟨wr.heap.size, 3, none⟩ = some (.int .i64 pc) ∧ w'.cell? ⟨bb, oo + i * 4 + 2, none⟩ = some (.int .i64 t))) (Z := [11]) (by kernel_rfl) ?_)
        have hS0 : (fun w' => w'.cell? ⟨wr.heap.size, 2, none⟩ = some (.int .i64 pl) ∧ w'.cell? ⟨wr.heap.size, 3, none⟩ = some (.int .i64 pc) ∧ w'.cell? ⟨bb, oo + i * 4 + 2, none⟩ = some (.int .i64 t)) W4.drew := ⟨(D4.out.at (g := wr.heap.size) (cs := #[.int .i64 (q : Nat), .int .i64 po, .int .i64 pl, .int .i64 pc]) (t := 60) (by simp)).cell 2, (D4.out.at (g := wr.heap.size) (cs := #[.int .i64 (q : Nat), .int .i64 po, .int .i64 pl, .int .i64 pc]) (t := 60) (by simp)).cell 3, (D4.out.bel.cell (p := ⟨bb, _, none⟩) hbl).trans y3⟩
        have s4d : W4.drew.heap.size = wr.heap.size + 1 := s4
        generalize W4.drew = u0 at D4 hS0 s4d ⊢
        refine RunsZ.take 12 (i := 0) (v := ?v0) (nth_z rfl) (by kernel_rfl) (by kernel_rfl) (by kernel_rfl) (by kernel_rfl) (by kernel_rfl) (fun _ _ _ h => h) (Or.inl ⟨by rfl, ?y0⟩) hS0 ?_
        case y0 =>
          intro u hu
          try dsimp only at hu
          go_split_ands
          go_simp
          try with_reducible rfl
        simp only [Act.put, List.setIfInBounds_toArray, List.set_cons_zero, List.set_cons_succ]
        refine RunsZ.take 12 (i := 1) (v := ?v1) (nth_z rfl) (by kernel_rfl) (by kernel_rfl) (by kernel_rfl) (by kernel_rfl) (by kernel_rfl) (fun _ _ _ h => h) (Or.inl ⟨by rfl, ?y1⟩) hS0 ?_
        case y1 =>
          intro u hu
          try dsimp only at hu
          go_split_ands
          go_simp
          try with_reducible rfl
        simp only [Act.put, List.setIfInBounds_toArray, List.set_cons_zero, List.set_cons_succ]
        refine RunsZ.take 12 (i := 2) (v := ?v2) (nth_z rfl) (by kernel_rfl) (by kernel_rfl) (by kernel_rfl) (by kernel_rfl) (by kernel_rfl) (fun _ _ _ h => h) (Or.inl ⟨by rfl, ?y2⟩) hS0 ?_
        case y2 =>
          intro u hu
          try dsimp only at hu
          go_split_ands
          go_simp
          try with_reducible rfl
        simp only [Act.put, List.setIfInBounds_toArray, List.set_cons_zero, List.set_cons_succ]
        refine RunsZ.take 12 (i := 3) (v := ?v3) (nth_z rfl) (by kernel_rfl) (by kernel_rfl) (by kernel_rfl) (by kernel_rfl) (by kernel_rfl) (fun _ _ _ h => h) (Or.inl ⟨by rfl, ?y3⟩) hS0 ?_
        case y3 =>
          intro u hu
          try dsimp only at hu
          go_split_ands
          go_simp
          try with_reducible rfl
        simp only [Act.put, List.setIfInBounds_toArray, List.set_cons_zero, List.set_cons_succ]
        refine RunsZ.take 12 (i := 4) (v := ?v4) (nth_z rfl) (by kernel_rfl) (by kernel_rfl) (by kernel_rfl) (by kernel_rfl) (by kernel_rfl) (fun _ _ _ h => h) (Or.inl ⟨by rfl, ?y4⟩) hS0 ?_
        case y4 =>
          intro u hu
          try dsimp only at hu
          go_split_ands
          go_simp
          try with_reducible rfl
        simp only [Act.put, List.setIfInBounds_toArray, List.set_cons_zero, List.set_cons_succ]
        refine RunsZ.take 12 (i := 5) (v := ?v5) (nth_z rfl) (by kernel_rfl) (by kernel_rfl) (by kernel_rfl) (by kernel_rfl) (by kernel_rfl) (fun _ _ _ h => h) (Or.inl ⟨by rfl, ?y5⟩) hS0 ?_
        case y5 =>
          intro u hu
          try dsimp only at hu
          go_split_ands
          go_simp
          try with_reducible rfl
        simp only [Act.put, List.setIfInBounds_toArray, List.set_cons_zero, List.set_cons_succ]
        refine RunsZ.take 12 (i := 6) (v := ?v6) (nth_z rfl) (by kernel_rfl) (by kernel_rfl) (by kernel_rfl) (by kernel_rfl) (by kernel_rfl) (fun _ _ _ h => h) (Or.inl ⟨by rfl, ?y6⟩) hS0 ?_
        case y6 =>
          intro u hu
          try dsimp only at hu
          go_split_ands
          go_simp
          try with_reducible rfl
        simp only [Act.put, List.setIfInBounds_toArray, List.set_cons_zero, List.set_cons_succ]
        refine RunsZ.take 12 (i := 7) (v := ?v7) (nth_z rfl) (by kernel_rfl) (by kernel_rfl) (by kernel_rfl) (by kernel_rfl) (by kernel_rfl) (fun _ _ _ h => h) (Or.inl ⟨by rfl, ?y7⟩) hS0 ?_
        case y7 =>
          intro u hu
          try dsimp only at hu
          go_split_ands
          go_simp
          try with_reducible rfl
        simp only [Act.put, List.setIfInBounds_toArray, List.set_cons_zero, List.set_cons_succ]
        refine RunsZ.take 12 (i := 8) (v := ?v8) (nth_z rfl) (by kernel_rfl) (by kernel_rfl) (by kernel_rfl) (by kernel_rfl) (by kernel_rfl) (fun _ _ _ h => h) (Or.inl ⟨by rfl, ?y8⟩) hS0 ?_
        case y8 =>
          intro u hu
          try dsimp only at hu
          go_split_ands
          go_simp
          try with_reducible rfl
        simp only [Act.put, List.setIfInBounds_toArray, List.set_cons_zero, List.set_cons_succ]
        refine RunsZ.take 12 (i := 9) (v := ?v9) (nth_z rfl) (by kernel_rfl) (by kernel_rfl) (by kernel_rfl) (by kernel_rfl) (by kernel_rfl) (fun _ _ _ h => h) (Or.inl ⟨by rfl, ?y9⟩) hS0 ?_
        case y9 =>
          intro u hu
          try dsimp only at hu
          go_split_ands
          go_simp
          try with_reducible rfl
        simp only [Act.put, List.setIfInBounds_toArray, List.set_cons_zero, List.set_cons_succ]
        refine RunsZ.one (i := 10) (by kernel_rfl) (nth_z rfl) (by rfl) (fun K hK => ?_)
        go_simp
        have hS1 : (fun w' => w'.cell? ⟨wr.heap.size, 2, none⟩ = some (.int .i64 pl) ∧ w'.cell? ⟨wr.heap.size, 3, none⟩ = some (.int .i64 pc) ∧ w'.cell? ⟨bb, oo + i * 4 + 2, none⟩ = some (.int .i64 t)) (u0.alloc (.cells #[.int .i64 0, .int .i64 0, .int .i64 0] 55)) := ⟨cell_keep hS0.1 (balloc _ _), cell_keep hS0.2.1 (balloc _ _), cell_keep hS0.2.2 (balloc _ _)⟩
        refine hK.out _ _ (fun _ => hS1) ?_
        clear hK K
        try simp only [Act.put, List.setIfInBounds_toArray, List.set_cons_zero, List.set_cons_succ]
        refine RunsZ.one (i := 11) (by kernel_rfl) (nth_z rfl) (by rfl) (fun K hK => ?_)
        go_simp
        refine hK.out _ _ (fun h => absurd (by decide) h) ?_
        clear hK K
        try simp only [Act.put, List.setIfInBounds_toArray, List.set_cons_zero, List.set_cons_succ]
        refine RunsZ.done (by kernel_rfl) (NoPanic.normal ?_)
        go_wp2_with fail
        go_meet
        exact ⟨by first | rfl | rw [s4d], D4.out.alloc #[.int .i64 pc, .int .i64 pl, .int .i64 t] 55 s4d⟩
      case rest =>
        obtain ⟨rfl, l5⟩ := hcut
        have L5 : Hid (Ly W [(wr.heap.size + 1, #[.int .i64 pc, .int .i64 pl, .int .i64 t], 55), (wr.heap.size, #[.int .i64 (q : Nat), .int .i64 po, .int .i64 pl, .int .i64 pc], 60)] (.slice (some ⟨g0, 0, none⟩) N N) us2 (layL ⟨c, d, t, .slice a2 n2 k2, xm⟩ V kd (List.replicate N []) (m.take j)) wc) := l5.out
        clear l5 L4
        have p0 : wc.cell? ⟨w.heap.size + 1, 0, none⟩ = some (.int .i64 kd) := (KW.out.2.below L5.out.bel).cell 0
        go_upto_if 40 with fail
        go_cut [] from 40 to 61 (fun wx => Hid (Ly W [(wr.heap.size + 1, #[.int .i64 s1, .int .i64 s2, .int .i64 s3], 55), (wr.heap.size, #[.int .i64 (q : Nat), .int .i64 po, .int .i64 pl, .int .i64 pc], 60)] (.slice (some ⟨g0, 0, none⟩) N N) us2 (layL ⟨c, d, t, .slice a2 n2 k2, xm⟩ V kd (List.replicate N []) (m.take j)) wx))
        case first =>
          unfold askOf at hs
          by_cases hk : kd = 1
          · rw [if_pos hk] at hs
            simp only [Sec.mk.injEq] at hs
            obtain ⟨rfl, rfl, rfl⟩ := hs
            have hk2 : (kd == 1) = true := by simp [hk]
            clear hk
            go_upto_region 8 with fail
            refine wp_region_noPanic (wp_region_runsZ (S := (fun w' => w'.cell? ⟨w.heap.size, 0, none⟩ = some (.int .i64 N) ∧ w'.cell? ⟨w.heap.size, 1, none⟩ = some (.int .i64 sy) ∧ w'.cell? ⟨w.heap.size, 2, none⟩ = some (.int .i64 la) ∧ w'.cell? ⟨w.heap.size, 3, none⟩ = some (.int .i64 mo) ∧ w'.cell? ⟨w.heap.size, 4, none⟩ = some (.slice av qr cv) ∧ w'.cell? ⟨bb, oo + i * 4, none⟩ = some (.int .i64 c) ∧ w'.cell? ⟨bb, oo + i * 4 + 1, none⟩ = some (.int .i64 d) ∧ w'.cell? ⟨bb, oo + i * 4 + 2, none⟩ = some (.int .i64 t))) (Z := [21]) (by kernel_rfl) ?_)
            have D5 : Hid (Ly W [(wr.heap.size + 1, #[.int .i64 pc, .int .i64 pl, .int .i64 t], 55), (wr.heap.size, #[.int .i64 (q : Nat), .int .i64 po, .int .i64 pl, .int .i64 pc], 60)] (.slice (some ⟨g0, 0, none⟩) N N) us2 (layL ⟨c, d, t, .slice a2 n2 k2, xm⟩ V kd (List.replicate N []) (m.take j)) wc.drew) := L5.out.drew
            have hS0 : (fun w' => w'.cell? ⟨w.heap.size, 0, none⟩ = some (.int .i64 N) ∧ w'.cell? ⟨w.heap.size, 1, none⟩ = some (.int .i64 sy) ∧ w'.cell? ⟨w.heap.size, 2, none⟩ = some (.int .i64 la) ∧ w'.cell? ⟨w.heap.size, 3, none⟩ = some (.int .i64 mo) ∧ w'.cell? ⟨w.heap.size, 4, none⟩ = some (.slice av qr cv) ∧ w'.cell? ⟨bb, oo + i * 4, none⟩ = some (.int .i64 c) ∧ w'.cell? ⟨bb, oo + i * 4 + 1, none⟩ = some (.int .i64 d) ∧ w'.cell? ⟨bb, oo + i * 4 + 2, none⟩ = some (.int .i64 t)) wc.drew := ⟨(KW.out.1.below D5.out.bel).cell 0, (KW.out.1.below D5.out.bel).cell 1, (KW.out.1.below D5.out.bel).cell 2, (KW.out.1.below D5.out.bel).cell 3, (KW.out.1.below D5.out.bel).cell 4, (D5.out.bel.cell (p := ⟨bb, _, none⟩) hbl).trans y1, (D5.out.bel.cell (p := ⟨bb, _, none⟩) hbl).trans y2, (D5.out.bel.cell (p := ⟨bb, _, none⟩) hbl).trans y3⟩
            generalize wc.drew = u0 at D5 hS0 ⊢
            refine RunsZ.take 12 (i := 0) (v := ?vw0) (nth_z rfl) (by kernel_rfl) (by kernel_rfl) (by kernel_rfl) (by kernel_rfl) (by kernel_rfl) (fun _ _ _ h => h) (Or.inl ⟨by rfl, ?yw0⟩) hS0 ?_
            case yw0 =>
              intro u hu
              try dsimp only at hu
              go_split_ands
              go_simp
              try with_reducible rfl
            simp only [Act.put, List.setIfInBounds_toArray, List.set_cons_zero, List.set_cons_succ]
            refine RunsZ.take 12 (i := 1) (v := ?vw1) (nth_z rfl) (by kernel_rfl) (by kernel_rfl) (by kernel_rfl) (by kernel_rfl) (by kernel_rfl) (fun _ _ _ h => h) (Or.inl ⟨by rfl, ?yw1⟩) hS0 ?_
            case yw1 =>
              intro u hu
              try dsimp only at hu
              go_split_ands
              go_simp
              try with_reducible rfl
            simp only [Act.put, List.setIfInBounds_toArray, List.set_cons_zero, List.set_cons_succ]
            refine RunsZ.take 12 (i := 2) (v := ?vw2) (nth_z rfl) (by kernel_rfl) (by kernel_rfl) (by kernel_rfl) (by kernel_rfl) (by kernel_rfl) (fun _ _ _ h => h) (Or.inl ⟨by rfl, ?yw2⟩) hS0 ?_
            case yw2 =>
              intro u hu
              try dsimp only at hu
              go_split_ands
              go_simp
              try with_reducible rfl
            simp only [Act.put, List.setIfInBounds_toArray, List.set_cons_zero, List.set_cons_succ]
            refine RunsZ.take 12 (i := 3) (v := ?vw3) (nth_z rfl) (by kernel_rfl) (by kernel_rfl) (by kernel_rfl) (by kernel_rfl) (by kernel_rfl) (fun _ _ _ h => h) (Or.inl ⟨by rfl, ?yw3⟩) hS0 ?_
            case yw3 =>
              intro u hu
              try dsimp only at hu
              go_split_ands
              go_simp
              try with_reducible rfl
            simp only [Act.put, List.setIfInBounds_toArray, List.set_cons_zero, List.set_cons_succ]
            refine RunsZ.take 12 (i := 4) (v := ?vw4) (nth_z rfl) (by kernel_rfl) (by kernel_rfl) (by kernel_rfl) (by kernel_rfl) (by kernel_rfl) (fun _ _ _ h => h) (Or.inl ⟨by rfl, ?yw4⟩) hS0 ?_
            case yw4 =>
              intro u hu
              try dsimp only at hu
              go_split_ands
              go_simp
              try with_reducible rfl
            simp only [Act.put, List.setIfInBounds_toArray, List.set_cons_zero, List.set_cons_succ]
            refine RunsZ.take 12 (i := 5) (v := ?vw5) (nth_z rfl) (by kernel_rfl) (by kernel_rfl) (by kernel_rfl) (by kernel_rfl) (by kernel_rfl) (fun _ _ _ h => h) (Or.inl ⟨by rfl, ?yw5⟩) hS0 ?_
            case yw5 =>
              intro u hu
              try dsimp only at hu
              go_split_ands
              go_simp
              try with_reducible rfl
            simp only [Act.put, List.setIfInBounds_toArray, List.set_cons_zero, List.set_cons_succ]
            refine RunsZ.take 12 (i := 6) (v := ?vw6) (nth_z rfl) (by kernel_rfl) (by kernel_rfl) (by kernel_rfl) (by kernel_rfl) (by kernel_rfl) (fun _ _ _ h => h) (Or.inl ⟨by rfl, ?yw6⟩) hS0 ?_
            case yw6 =>
              intro u hu
              try dsimp only at hu
              go_split_ands
              go_simp
              try with_reducible rfl
            simp only [Act.put, List.setIfInBounds_toArray, List.set_cons_zero, List.set_cons_succ]
            refine RunsZ.take 12 (i := 7) (v := ?vw7) (nth_z rfl) (by kernel_rfl) (by kernel_rfl) (by kernel_rfl) (by kernel_rfl) (by kernel_rfl) (fun _ _ _ h => h) (Or.inl ⟨by rfl, ?yw7⟩) hS0 ?_
            case yw7 =>
              intro u hu
              try dsimp only at hu
              go_split_ands
              go_simp
              try with_reducible rfl
            simp only [Act.put, List.setIfInBounds_toArray, List.set_cons_zero, List.set_cons_succ]
            refine RunsZ.take 12 (i := 10) (v := ?vw10) (nth_z rfl) (by kernel_rfl) (by kernel_rfl) (by kernel_rfl) (by kernel_rfl) (by kernel_rfl) (fun _ _ _ h => h) (Or.inl ⟨by rfl, ?yw10⟩) hS0 ?_
            case yw10 =>
              intro u hu
              try dsimp only at hu
              go_split_ands
              go_simp
              try with_reducible rfl
            simp only [Act.put, List.setIfInBounds_toArray, List.set_cons_zero, List.set_cons_succ]
            refine RunsZ.take 12 (i := 11) (v := ?vw11) (nth_z rfl) (by kernel_rfl) (by kernel_rfl) (by kernel_rfl) (by kernel_rfl) (by kernel_rfl) (fun _ _ _ h => h) (Or.inl ⟨by rfl, ?yw11⟩) hS0 ?_
            case yw11 =>
              intro u hu
              try dsimp only at hu
              go_split_ands
              go_simp
              try with_reducible rfl
            simp only [Act.put, List.setIfInBounds_toArray, List.set_cons_zero, List.set_cons_succ]
            refine RunsZ.take 12 (i := 12) (v := ?vw12) (nth_z rfl) (by kernel_rfl) (by kernel_rfl) (by kernel_rfl) (by kernel_rfl) (by kernel_rfl) (fun _ _ _ h => h) (Or.inl ⟨by rfl, ?yw12⟩) hS0 ?_
            case yw12 =>
              intro u hu
              try dsimp only at hu
              go_split_ands
              go_simp
              try with_reducible rfl
            simp only [Act.put, List.setIfInBounds_toArray, List.set_cons_zero, List.set_cons_succ]
            refine RunsZ.take 12 (i := 13) (v := ?vw13) (nth_z rfl) (by kernel_rfl) (by kernel_rfl) (by kernel_rfl) (by kernel_rfl) (by kernel_rfl) (fun _ _ _ h => h) (Or.inl ⟨by rfl, ?yw13⟩) hS0 ?_
            case yw13 =>
              intro u hu
              try dsimp only at hu
              go_split_ands
              go_simp
              try with_reducible rfl
            simp only [Act.put, List.setIfInBounds_toArray, List.set_cons_zero, List.set_cons_succ]
            refine RunsZ.take 12 (i := 14) (v := ?vw14) (nth_z rfl) (by kernel_rfl) (by kernel_rfl) (by kernel_rfl) (by kernel_rfl) (by kernel_rfl) (fun _ _ _ h => h) (Or.inl ⟨by rfl, ?yw14⟩) hS0 ?_
            case yw14 =>
              intro u hu
              try dsimp only at hu
              go_split_ands
              go_simp
              try with_reducible rfl
            simp only [Act.put, List.setIfInBounds_toArray, List.set_cons_zero, List.set_cons_succ]
            refine RunsZ.take 12 (i := 15) (v := ?vw15) (nth_z rfl) (by kernel_rfl) (by kernel_rfl) (by kernel_rfl) (by kernel_rfl) (by kernel_rfl) (fun _ _ _ h => h) (Or.inl ⟨by rfl, ?yw15⟩) hS0 ?_
            case yw15 =>
              intro u hu
              try dsimp only at hu
              go_split_ands
              go_simp
              try with_reducible rfl
            simp only [Act.put, List.setIfInBounds_toArray, List.set_cons_zero, List.set_cons_succ]
            refine RunsZ.take 12 (i := 16) (v := ?vw16) (nth_z rfl) (by kernel_rfl) (by kernel_rfl) (by kernel_rfl) (by kernel_rfl) (by kernel_rfl) (fun _ _ _ h => h) (Or.inl ⟨by rfl, ?yw16⟩) hS0 ?_
            case yw16 =>
              intro u hu
              try dsimp only at hu
              go_split_ands
              go_simp
              try with_reducible rfl
            simp only [Act.put, List.setIfInBounds_toArray, List.set_cons_zero, List.set_cons_succ]
            refine RunsZ.take 12 (i := 17) (v := ?vw17) (nth_z rfl) (by kernel_rfl) (by kernel_rfl) (by kernel_rfl) (by kernel_rfl) (by kernel_rfl) (fun _ _ _ h => h) (Or.inl ⟨by rfl, ?yw17⟩) hS0 ?_
            case yw17 =>
              intro u hu
              try dsimp only at hu
              go_split_ands
              go_simp
              try with_reducible rfl
            simp only [Act.put, List.setIfInBounds_toArray, List.set_cons_zero, List.set_cons_succ]
            refine RunsZ.take 12 (i := 18) (v := ?vw18) (nth_z rfl) (by kernel_rfl) (by kernel_rfl) (by kernel_rfl) (by kernel_rfl) (by kernel_rfl) (fun _ _ _ h => h) (Or.inl ⟨by rfl, ?yw18⟩) hS0 ?_
            case yw18 =>
              intro u hu
              try dsimp only at hu
              go_split_ands
              go_simp
              try with_reducible rfl
            simp only [Act.put, List.setIfInBounds_toArray, List.set_cons_zero, List.set_cons_succ]
            refine RunsZ.take 12 (i := 19) (v := ?vw19) (nth_z rfl) (by kernel_rfl) (by kernel_rfl) (by kernel_rfl) (by kernel_rfl) (by kernel_rfl) (fun _ _ _ h => h) (Or.inl ⟨by rfl, ?yw19⟩) hS0 ?_
            case yw19 =>
              intro u hu
              try dsimp only at hu
              go_split_ands
              go_simp
              try with_reducible rfl
            simp only [Act.put, List.setIfInBounds_toArray, List.set_cons_zero, List.set_cons_succ]
            refine RunsZ.one (i := 8) (by kernel_rfl) (nth_z rfl) (by rfl) (fun K hK => ?_)
            go_simp
            refine (HC1.out _ (btrans HB0.out D5.out.bel)).mono ?_
            rintro e u1 ⟨rfl, g1⟩
            have D6 : Hid (Ly W [(wr.heap.size + 1, #[.int .i64 pc, .int .i64 pl, .int .i64 t], 55), (wr.heap.size, #[.int .i64 (q : Nat), .int .i64 po, .int .i64 pl, .int .i64 pc], 60)] (.slice (some ⟨g0, 0, none⟩) N N) us2 (layL ⟨c, d, t, .slice a2 n2 k2, xm⟩ V kd (List.replicate N []) (m.take j)) u1) := D5.out.below g1
            clear g1
            have hS1 : (fun w' => w'.cell? ⟨w.heap.size, 0, none⟩ = some (.int .i64 N) ∧ w'.cell? ⟨w.heap.size, 1, none⟩ = some (.int .i64 sy) ∧ w'.cell? ⟨w.heap.size, 2, none⟩ = some (.int .i64 la) ∧ w'.cell? ⟨w.heap.size, 3, none⟩ = some (.int .i64 mo) ∧ w'.cell? ⟨w.heap.size, 4, none⟩ = some (.slice av qr cv) ∧ w'.cell? ⟨bb, oo + i * 4, none⟩ = some (.int .i64 c) ∧ w'.cell? ⟨bb, oo + i * 4 + 1, none⟩ = some (.int .i64 d) ∧ w'.cell? ⟨bb, oo + i * 4 + 2, none⟩ = some (.int .i64 t)) u1 := ⟨(KW.out.1.below D6.out.bel).cell 0, (KW.out.1.below D6.out.bel).cell 1, (KW.out.1.below D6.out.bel).cell 2, (KW.out.1.below D6.out.bel).cell 3, (KW.out.1.below D6.out.bel).cell 4, (D6.out.bel.cell (p := ⟨bb, _, none⟩) hbl).trans y1, (D6.out.bel.cell (p := ⟨bb, _, none⟩) hbl).trans y2, (D6.out.bel.cell (p := ⟨bb, _, none⟩) hbl).trans y3⟩
            first | refine hK.out _ _ (fun _ => hS1) ?_ | (go_wp2_with fail; refine hK.out _ _ (fun _ => hS1) ?_)
            clear hK K
            try simp only [Act.put, List.setIfInBounds_toArray, List.set_cons_zero, List.set_cons_succ]
            refine RunsZ.take 12 (i := 9) (v := ?vw9) (nth_z rfl) (by kernel_rfl) (by kernel_rfl) (by kernel_rfl) (by kernel_rfl) (by kernel_rfl) (fun _ _ _ h => h) (Or.inl ⟨by rfl, ?yw9⟩) hS1 ?_
            case yw9 =>
              intro u hu
              try dsimp only at hu
              go_split_ands
              go_simp
              try with_reducible rfl
            simp only [Act.put, List.setIfInBounds_toArray, List.set_cons_zero, List.set_cons_succ]
            refine RunsZ.take 12 (i := 20) (v := ?vw20) (nth_z rfl) (by kernel_rfl) (by kernel_rfl) (by kernel_rfl) (by kernel_rfl) (by kernel_rfl) (fun _ _ _ h => h) (Or.inl ⟨by rfl, ?yw20⟩) hS1 ?_
            case yw20 =>
              intro u hu
              try dsimp only at hu
              go_split_ands
              go_simp
              try with_reducible rfl
            simp only [Act.put, List.setIfInBounds_toArray, List.set_cons_zero, List.set_cons_succ]
            have zf := (D6.out.at (g := wr.heap.size + 1) (cs := #[.int .i64 pc, .int .i64 pl, .int .i64 t]) (t := 55) (by simp)).frozen
            have f0 := zf 0
            have f1 := zf 1
            have f2 := zf 2
            clear zf
            have v0 : u1.cell? ⟨wr.heap.size + 1, 0, none⟩ = some (.int .i64 pc) := (D6.out.at (g := wr.heap.size + 1) (cs := #[.int .i64 pc, .int .i64 pl, .int .i64 t]) (t := 55) (by simp)).cell 0
            have v1 : u1.cell? ⟨wr.heap.size + 1, 1, none⟩ = some (.int .i64 pl) := (D6.out.at (g := wr.heap.size + 1) (cs := #[.int .i64 pc, .int .i64 pl, .int .i64 t]) (t := 55) (by simp)).cell 1
            have v2 : u1.cell? ⟨wr.heap.size + 1, 2, none⟩ = some (.int .i64 t) := (D6.out.at (g := wr.heap.size + 1) (cs := #[.int .i64 pc, .int .i64 pl, .int .i64 t]) (t := 55) (by simp)).cell 2
            refine RunsZ.one (i := 21) (by kernel_rfl) (nth_z rfl) (by rfl) (fun K hK => ?_)
            go_simp
            refine hK.out _ _ (fun h => absurd (by decide) h) ?_
            clear hK K
            try simp only [Act.put, List.setIfInBounds_toArray, List.set_cons_zero, List.set_cons_succ]
            refine RunsZ.done (by kernel_rfl) (NoPanic.normal ?_)
            go_wp2_with fail
            go_meet
            exact Ly.store3 (g := wr.heap.size + 1) (t := 55) D6.out (by omega) (fun x hx => by simp only [List.mem_cons, List.not_mem_nil, or_false] at hx; subst hx; simp) _ _ _
          · rw [if_neg hk] at hs
            simp only [Sec.mk.injEq] at hs
            obtain ⟨rfl, rfl, rfl⟩ := hs
            have hk2 : (kd == 1) = false := by simp [hk]
            go_wp2_with fail
            go_meet
            exact L5.out
        case rest =>
          have L6 : Hid (Ly W [(wr.heap.size + 1, #[.int .i64 s1, .int .i64 s2, .int .i64 s3], 55), (wr.heap.size, #[.int .i64 (q : Nat), .int .i64 po, .int .i64 pl, .int .i64 pc], 60)] (.slice (some ⟨g0, 0, none⟩) N N) us2 (layL ⟨c, d, t, .slice a2 n2 k2, xm⟩ V kd (List.replicate N []) (m.take j)) wc.drew) := Ly.drew hcut.out
          clear hcut L5 hs p0
          go_upto_region 9 with fail
          refine wp_region_noPanic (wp_region_runsZ (S := (fun w' => w'.cell? ⟨wr.heap.size, 0, none⟩ = some (.int .i64 (q : Nat)) ∧ w'.cell? ⟨g0, q, none⟩ = some (.slice au lr.length cu) ∧ w'.cell? ⟨wr.heap.size + 1, 0, none⟩ = some (.int .i64 s1) ∧ w'.cell? ⟨wr.heap.size + 1, 1, none⟩ = some (.int .i64 s2) ∧ w'.cell? ⟨wr.heap.size + 1, 2, none⟩ = some (.int .i64 s3))) (Z := [12]) (by kernel_rfl) ?_)
          have hS0 : (fun w' => w'.cell? ⟨wr.heap.size, 0, none⟩ = some (.int .i64 (q : Nat)) ∧ w'.cell? ⟨g0, q, none⟩ = some (.slice au lr.length cu) ∧ w'.cell? ⟨wr.heap.size + 1, 0, none⟩ = some (.int .i64 s1) ∧ w'.cell? ⟨wr.heap.size + 1, 1, none⟩ = some (.int .i64 s2) ∧ w'.cell? ⟨wr.heap.size + 1, 2, none⟩ = some (.int .i64 s3)) wc.drew := ⟨(L6.out.at (g := wr.heap.size) (cs := #[.int .i64 (q : Nat), .int .i64 po, .int .i64 pl, .int .i64 pc]) (t := 60) (by simp)).cell 0, (L6.out.own.cell HUQ.out).1, (L6.out.at (g := wr.heap.size + 1) (cs := #[.int .i64 s1, .int .i64 s2, .int .i64 s3]) (t := 55) (by simp)).cell 0, (L6.out.at (g := wr.heap.size + 1) (cs := #[.int .i64 s1, .int .i64 s2, .int .i64 s3]) (t := 55) (by simp)).cell 1, (L6.out.at (g := wr.heap.size + 1) (cs := #[.int .i64 s1, .int .i64 s2, .int .i64 s3]) (t := 55) (by simp)).cell 2⟩
          generalize wc.drew = u0 at L6 hS0 ⊢
          refine RunsZ.take 12 (i := 0) (v := ?vz0) (nth_z rfl) (by kernel_rfl) (by kernel_rfl) (by kernel_rfl) (by kernel_rfl) (by kernel_rfl) (fun _ _ _ h => h) (Or.inl ⟨by rfl, ?yz0⟩) hS0 ?_
          case yz0 =>
            intro u hu
            try dsimp only at hu
            go_split_ands
            go_simp
            try with_reducible rfl
          simp only [Act.put, List.setIfInBounds_toArray, List.set_cons_zero, List.set_cons_succ]
          refine RunsZ.take 12 (i := 1) (v := ?vz1) (nth_z rfl) (by kernel_rfl) (by kernel_rfl) (by kernel_rfl) (by kernel_rfl) (by kernel_rfl) (fun _ _ _ h => h) (Or.inl ⟨by rfl, ?yz1⟩) hS0 ?_
          case yz1 =>
            intro u hu
            try dsimp only at hu
            go_split_ands
            go_simp
            try with_reducible rfl
          simp only [Act.put, List.setIfInBounds_toArray, List.set_cons_zero, List.set_cons_succ]
          refine RunsZ.take 12 (i := 2) (v := ?vz2) (nth_z rfl) (by kernel_rfl) (by kernel_rfl) (by kernel_rfl) (by kernel_rfl) (by kernel_rfl) (fun _ _ _ h => h) (Or.inl ⟨by rfl, ?yz2⟩) hS0 ?_
          case yz2 =>
            intro u hu
            try dsimp only at hu
            go_split_ands
            go_simp
            try with_reducible rfl
          simp only [Act.put, List.setIfInBounds_toArray, List.set_cons_zero, List.set_cons_succ]
          refine RunsZ.take 12 (i := 3) (v := ?vz3) (nth_z rfl) (by kernel_rfl) (by kernel_rfl) (by kernel_rfl) (by kernel_rfl) (by kernel_rfl) (fun _ _ _ h => h) (Or.inl ⟨by rfl, ?yz3⟩) hS0 ?_
          case yz3 =>
            intro u hu
            try dsimp only at hu
            go_split_ands
            go_simp
            try with_reducible rfl
          simp only [Act.put, List.setIfInBounds_toArray, List.set_cons_zero, List.set_cons_succ]
          refine RunsZ.take 12 (i := 4) (v := ?vz4) (nth_z rfl) (by kernel_rfl) (by kernel_rfl) (by kernel_rfl) (by kernel_rfl) (by kernel_rfl) (fun _ _ _ h => h) (Or.inl ⟨by rfl, ?yz4⟩) hS0 ?_
          case yz4 =>
            intro u hu
            try dsimp only at hu
            go_split_ands
            go_simp
            try with_reducible rfl
          simp only [Act.put, List.setIfInBounds_toArray, List.set_cons_zero, List.set_cons_succ]
          refine RunsZ.take 12 (i := 5) (v := ?vz5) (nth_z rfl) (by kernel_rfl) (by kernel_rfl) (by kernel_rfl) (by kernel_rfl) (by kernel_rfl) (fun _ _ _ h => h) (Or.inl ⟨by rfl, ?yz5⟩) hS0 ?_
          case yz5 =>
            intro u hu
            try dsimp only at hu
            go_split_ands
            go_simp
            try with_reducible rfl
          simp only [Act.put, List.setIfInBounds_toArray, List.set_cons_zero, List.set_cons_succ]
          refine RunsZ.take 12 (i := 6) (v := ?vz6) (nth_z rfl) (by kernel_rfl) (by kernel_rfl) (by kernel_rfl) (by kernel_rfl) (by kernel_rfl) (fun _ _ _ h => h) (Or.inl ⟨by rfl, ?yz6⟩) hS0 ?_
          case yz6 =>
            intro u hu
            try dsimp only at hu
            go_split_ands
            go_simp
            try with_reducible rfl
          simp only [Act.put, List.setIfInBounds_toArray, List.set_cons_zero, List.set_cons_succ]
          refine RunsZ.take 12 (i := 7) (v := ?vz7) (nth_z rfl) (by kernel_rfl) (by kernel_rfl) (by kernel_rfl) (by kernel_rfl) (by kernel_rfl) (fun _ _ _ h => h) (Or.inl ⟨by rfl, ?yz7⟩) hS0 ?_
          case yz7 =>
            intro u hu
            try dsimp only at hu
            go_split_ands
            go_simp
            try with_reducible rfl
          simp only [Act.put, List.setIfInBounds_toArray, List.set_cons_zero, List.set_cons_succ]
          refine RunsZ.take 12 (i := 8) (v := ?vz8) (nth_z rfl) (by kernel_rfl) (by kernel_rfl) (by kernel_rfl) (by kernel_rfl) (by kernel_rfl) (fun _ _ _ h => h) (Or.inl ⟨by rfl, ?yz8⟩) hS0 ?_
          case yz8 =>
            intro u hu
            try dsimp only at hu
            go_split_ands
            go_simp
            try with_reducible rfl
          simp only [Act.put, List.setIfInBounds_toArray, List.set_cons_zero, List.set_cons_succ]
          have L7 : Hid (Ly W [(wr.heap.size + 1, #[.int .i64 s1, .int .i64 s2, .int .i64 s3], 55), (wr.heap.size, #[.int .i64 (q : Nat), .int .i64 po, .int .i64 pl, .int .i64 pc], 60)] (.slice (some ⟨g0, 0, none⟩) N N) us2 (layL ⟨c, d, t, .slice a2 n2 k2, xm⟩ V kd (List.replicate N []) (m.take j)) (u0.alloc (.cells #[.int .i64 s1, .int .i64 s2, .int .i64 s3] 55))) := L6.out.below (balloc _ _)
          have hS1 : (fun w' => w'.cell? ⟨wr.heap.size, 0, none⟩ = some (.int .i64 (q : Nat)) ∧ w'.cell? ⟨g0, q, none⟩ = some (.slice au lr.length cu) ∧ w'.cell? ⟨wr.heap.size + 1, 0, none⟩ = some (.int .i64 s1) ∧ w'.cell? ⟨wr.heap.size + 1, 1, none⟩ = some (.int .i64 s2) ∧ w'.cell? ⟨wr.heap.size + 1, 2, none⟩ = some (.int .i64 s3)) (u0.alloc (.cells #[.int .i64 s1, .int .i64 s2, .int .i64 s3] 55)) := ⟨(L7.out.at (g := wr.heap.size) (cs := #[.int .i64 (q : Nat), .int .i64 po, .int .i64 pl, .int .i64 pc]) (t := 60) (by simp)).cell 0, (L7.out.own.cell HUQ.out).1, (L7.out.at (g := wr.heap.size + 1) (cs := #[.int .i64 s1, .int .i64 s2, .int .i64 s3]) (t := 55) (by simp)).cell 0, (L7.out.at (g := wr.heap.size + 1) (cs := #[.int .i64 s1, .int .i64 s2, .int .i64 s3]) (t := 55) (by simp)).cell 1, (L7.out.at (g := wr.heap.size + 1) (cs := #[.int .i64 s1, .int .i64 s2, .int .i64 s3]) (t := 55) (by simp)).cell 2⟩
          refine RunsZ.one (i := 9) (by kernel_rfl) (nth_z rfl) (by rfl) (fun K hK => ?_)
          go_simp
          refine hK.out _ _ (fun _ => hS1) ?_
          clear hK K
          try simp only [Act.put, List.setIfInBounds_toArray, List.set_cons_zero, List.set_cons_succ]
          have O6 := L7.out.own.row q _ lr HUQ.out HLR.out
          have su0 := L6.out.bel.size
          refine RunsZ.one (i := 10) (by kernel_rfl) (nth_z rfl) (by rfl) (fun K hK => ?_)
          refine wp_append_at (u0.alloc (.cells #[.int .i64 s1, .int .i64 s2, .int .i64 s3] 55)) (.tmp 69) (.tmp 71) 51 (by rfl) W.heap.size 55 i0 _ 3 24 Tryz.underlying51 hi0 hz0 hz1 hz2 rfl (by omega) (.slice au lr.length cu) lr.length (secC lr) (by rfl) O6 ⟨u0.heap.size, 0, none⟩ 1 1 [.int .i64 s1, .int .i64 s2, .int .i64 s3] (by rfl) rfl (cell_three _ _ _ _ _) (by intro u hu; simp at hu; rcases hu with rfl | rfl | rfl <;> rfl) (by unfold maxLen; omega) (by omega) (by simp; omega) ?_
          intro u7 w7 own7 gr7 at7
          have hown7 : OwnL w7 W.heap.size u7 (lr ++ [⟨s1, s2, s3⟩]) := by unfold OwnL; rw [List.length_append, secC_append]; exact own7
          obtain ⟨h70, h71, h72⟩ := L6.out.kept HUQ.out HLR.out gr7
          have K1 := L6.out.keptB HUQ.out gr7 (x := wr.heap.size) (cs := #[.int .i64 (q : Nat), .int .i64 po, .int .i64 pl, .int .i64 pc]) (t := 60) (by simp)
          have K2 := L6.out.keptB HUQ.out gr7 (x := wr.heap.size + 1) (cs := #[.int .i64 s1, .int .i64 s2, .int .i64 s3]) (t := 55) (by simp)
          have hS2 : (fun w' => w'.cell? ⟨wr.heap.size, 0, none⟩ = some (.int .i64 (q : Nat)) ∧ w'.cell? ⟨g0, q, none⟩ = some (.slice au lr.length cu) ∧ w'.cell? ⟨wr.heap.size + 1, 0, none⟩ = some (.int .i64 s1) ∧ w'.cell? ⟨wr.heap.size + 1, 1, none⟩ = some (.int .i64 s2) ∧ w'.cell? ⟨wr.heap.size + 1, 2, none⟩ = some (.int .i64 s3)) w7 := ⟨K1.cell 0, h70, K2.cell 0, K2.cell 1, K2.cell 2⟩
          have L8 : Hid (Ly W [(wr.heap.size + 1, #[.int .i64 s1, .int .i64 s2, .int .i64 s3], 55), (wr.heap.size, #[.int .i64 (q : Nat), .int .i64 po, .int .i64 pl, .int .i64 pc], 60)] (.slice (some ⟨g0, 0, none⟩) N N) (us2.set q u7) (((layL ⟨c, d, t, .slice a2 n2 k2, xm⟩ V kd (List.replicate N []) (m.take j))).set q (lr ++ [⟨s1, s2, s3⟩])) (w7.setCell ⟨g0, q, none⟩ u7)) := L6.out.put HUQ.out HLR.out hown7 gr7 (at7.imp id (fun e => ⟨_, e, by simp⟩))
          obtain ⟨a7, c7, e7⟩ := own_form own7
          subst e7
          clear own7 gr7 at7 hown7 K1 K2
          refine hK.out _ _ (fun _ => hS2) ?_
          clear hK K hS0 hS1
          try simp only [Act.put, List.setIfInBounds_toArray, List.set_cons_zero, List.set_cons_succ]
          refine RunsZ.take 12 (i := 11) (v := ?vz11) (nth_z rfl) (by kernel_rfl) (by kernel_rfl) (by kernel_rfl) (by kernel_rfl) (by kernel_rfl) (fun _ _ _ h => h) (Or.inl ⟨by rfl, ?yz11⟩) hS2 ?_
          case yz11 =>
            intro u hu
            try dsimp only at hu
            go_split_ands
            go_simp
            try with_reducible rfl
          simp only [Act.put, List.setIfInBounds_toArray, List.set_cons_zero, List.set_cons_succ]
          refine RunsZ.one (i := 12) (by kernel_rfl) (nth_z rfl) (by rfl) (fun K hK => ?_)
          go_simp
          refine hK.out _ _ (fun h => absurd (by decide) h) ?_
          clear hK K
          try simp only [Act.put, List.setIfInBounds_toArray, List.set_cons_zero, List.set_cons_succ]
          refine RunsZ.done (by kernel_rfl) (NoPanic.normal ?_)
          go_wp2_with fail
          go_round
          case rel => exact ⟨j + 1, by omega, by go_num, ⟨⟨_, by rw [layL_take _ _ _ HXP.out, HS.out, show (⟨(q : Int), po, pl, pc⟩ : Pc).core.toNat = q from Int.toNat_natCast q, addAt_set HLR.out]; exact L8.out.own⟩, L8.out.bel⟩⟩
          case measure => simp [intOf]; omega
    · have e : m.take j = m := List.take_of_length_le (by have := HNP.out; omega)
      rw [e] at L3
      clear e
      have hs0 := HB0.out.size
      go_wp2_with fail
      go_ret
      exact ⟨g0, rfl, by omega, Lay.mono ⟨⟨_, L3.out.own⟩, L3.out.bel⟩ HB0.out⟩
end Go.Proofs.YtakdliecjfeedaaGreatDoor

/- The contract of the document's own All. -/
namespace Go.Proofs.YtakdliecjfeedaaGreatDoor
open Go Go.RowKit

theorem run_append_zero {P : Program} (w : World) (t ty e : TypeId) (i : TypeInfo) (ht : P.underlying t = some (.slice e)) (hi : P.info? e = some i) (b : Option Addr) (n cap : Nat) (hle : n ≤ cap) :
    (Builtin.append_ #[t, t] ty #[.slice b n cap, .slice none 0 0]).run P w = .ok (.slice b n cap) w := by
  cases b <;> simp [Builtin.append_, run_underlying ht, sizeOf, typeInfo, hi, Builtin.lenOf, Builtin.firstCells, hle, storeCells]
theorem wp_append_zero {P : Program} (w : World) {o : Oper} {a : Act} {K : Act → World → Prop} {Q : Exit → Act → World → Prop} (s x : Operand) (t : TypeId)
    (ho : o.op = .call { callee := .builtin .append, args := #[s, x], argTypes := #[t, t] }) (e : TypeId) (i : TypeInfo) (ht : P.underlying t = some (.slice e)) (hi : P.info? e = some i)
    (b : Option Addr) (n cap : Nat) (hle : n ≤ cap) (hs : a.eval s = .slice b n cap) (hx : a.eval x = .slice none 0 0) (h : K (a.put o.dst (.slice b n cap)) w) : o.wp P a w K Q := by
  have hr := run_append_zero (P := P) w t o.type e i ht hi b n cap hle
  unfold Oper.wp execOp
  simp only [ho, resolve, invoke, builtin, Sem.run_bind, Sem.run_pure, Result.andThen_ok, List.map_toArray, List.map_cons, List.map_nil, hs, hx, hr]
  exact h
/-- The blocks of a row of one's own. -/
theorem row_snap {w : World} {base e z n : Nat} {v : Value} {xs : List Value} (h : w.ownsRow base e z v n xs) : ∃ bs : List (Nat × Array Value × TypeId), (∀ q ∈ bs, Blk w q.1 q.2.1 q.2.2 ∧ base ≤ q.1) ∧ ∀ w' : World, (∀ q ∈ bs, Blk w' q.1 q.2.1 q.2.2) → w'.ownsRow base e z v n xs := by
  obtain ⟨h1, h2⟩ := h
  rcases h2 with h2 | ⟨g, cap, cur, rfl, hb, hh, r⟩
  · exact ⟨[], by simp, fun w' _ => ⟨h1, .inl h2⟩⟩
  · exact ⟨[(g, cur, e)], fun q hq => by simp at hq; subst hq; exact ⟨hh, hb⟩, fun w' h' => ⟨h1, .inr ⟨g, cap, cur, rfl, hb, h' (g, cur, e) (by simp), r⟩⟩⟩
theorem OwnR.snap {w : World} {base : Nat} {v : Value} {us : List Value} {rows : List (List Sec)} (h : OwnR w base v us rows) : ∃ bs : List (Nat × Array Value × TypeId), (∀ q ∈ bs, Blk w q.1 q.2.1 q.2.2 ∧ base ≤ q.1) ∧ ∀ w' : World, (∀ q ∈ bs, Blk w' q.1 q.2.1 q.2.2) → OwnR w' base v us rows := by
  obtain ⟨b0, p0, r0⟩ := row_snap h.own
  have each : ∀ i, i < us.length → ∃ bs : List (Nat × Array Value × TypeId), (∀ q ∈ bs, Blk w q.1 q.2.1 q.2.2 ∧ base ≤ q.1) ∧ ∀ w' : World, (∀ q ∈ bs, Blk w' q.1 q.2.1 q.2.2) → ∀ u l, us[i]? = some u → rows[i]? = some l → OwnL w' base u l := by
    intro i hi
    obtain ⟨u, hu⟩ : ∃ u, us[i]? = some u := ⟨_, List.getElem?_eq_getElem hi⟩
    obtain ⟨l, hl⟩ : ∃ l, rows[i]? = some l := ⟨_, List.getElem?_eq_getElem (by rw [← h.len]; exact hi)⟩
    obtain ⟨bs, p, r⟩ := row_snap (h.row i u l hu hl)
    refine ⟨bs, p, fun w' hw u' l' hu' hl' => ?_⟩
    rw [hu] at hu'
    rw [hl] at hl'
    simp only [Option.some.injEq] at hu' hl'
    subst hu' hl'
    exact r w' hw
  obtain ⟨f, hf⟩ := Go.Deep.choose_lt each
  refine ⟨b0 ++ (List.range us.length).flatMap f, fun q hq => ?_, fun w' hw => ?_⟩
  · rcases List.mem_append.1 hq with hq | hq
    · exact p0 q hq
    · obtain ⟨i, hi, hq⟩ := List.mem_flatMap.1 hq
      exact (hf i (List.mem_range.1 hi)).1 q hq
  · refine ⟨r0 w' fun q hq => hw q (List.mem_append.2 (.inl hq)), h.len, fun i u l hu hl => ?_, h.dis⟩
    have hi := (List.getElem?_eq_some_iff.1 hu).1
    exact (hf i hi).2 w' (fun q hq => hw q (List.mem_append.2 (.inr (List.mem_flatMap.2 ⟨i, List.mem_range.2 hi, hq⟩)))) u l hu hl
/-- A slice is stored where it lies. -/
theorem Ly.same {w0 W : World} {bs : List (Nat × Array Value × TypeId)} {us : List Value} {rows : List (List Sec)} {g n cap i : Nat} {u : Value} (h : Ly w0 bs (.slice (some ⟨g, 0, none⟩) n cap) us rows W) (hu : us[i]? = some u) : Ly w0 bs (.slice (some ⟨g, 0, none⟩) n cap) us rows (W.setCell ⟨g, i, none⟩ u) := by
  have on := (Only.refl [g] W).setCell (p := ⟨g, i, none⟩) (by simp) u
  have hil := (List.getElem?_eq_some_iff.1 hu).1
  refine ⟨fun q hq => ⟨(h.blk q hq).1.only on (by simp; intro e; exact (h.blk q hq).2.1 (by rw [e]; rfl)), (h.blk q hq).2⟩, ⟨?_, h.own.len, fun j x l hj hl => own_off (h.own.row j x l hj hl) on (fun k hk => by simp; rintro rfl; exact h.own.off hj hl k hk rfl), h.own.dis⟩, h.bel.setCell (p := ⟨g, i, none⟩) (h.own.own.lt g rfl).1 u⟩
  obtain ⟨f1, f2⟩ := h.own.own
  refine ⟨f1, ?_⟩
  rcases f2 with ⟨e, _⟩ | ⟨g', c, cur, e, hb, hh, k1, k2, k3, k4⟩
  · simp at e
  · simp only [Value.slice.injEq, Option.some.injEq, Addr.mk.injEq] at e
    obtain ⟨⟨rfl, -, -⟩, e3, rfl⟩ := e
    refine .inr ⟨g, cap, cur.setIfInBounds i u, by rw [e3], hb, heap_setCell_same W g i _ _ u hh, k1, k2, by simpa using k3, ?_⟩
    have k5 : cur.toList.take us.length = us := by simpa using k4
    simp only [Array.toList_setIfInBounds, Nat.mul_one]
    rw [List.take_set, k5]
    refine List.ext_getElem? fun j => ?_
    by_cases e : i = j
    · subst e; rw [List.getElem?_set_self hil, hu]
    · rw [List.getElem?_set_ne e]
theorem set_same {α : Type} {l : List α} {i : Nat} {x : α} (h : l[i]? = some x) : l.set i x = l := by
  refine List.ext_getElem? fun j => ?_
  by_cases e : i = j
  · subst e; rw [List.getElem?_set_self (List.getElem?_eq_some_iff.1 h).1, h]
  · rw [List.getElem?_set_ne e]
/-- The rows behind the first k rounds. -/
def mixL (a b : List (List Sec)) (k : Nat) : List (List Sec) := (zipA a b).take k ++ a.drop k
theorem mix_zero (a b : List (List Sec)) : mixL a b 0 = a := by simp [mixL]
theorem zipA_length (a b : List (List Sec)) (h : a.length = b.length) : (zipA a b).length = a.length := by simp [zipA, h]
theorem mix_all {a b : List (List Sec)} {N : Nat} (ha : a.length = N) (hb : b.length = N) : mixL a b N = zipA a b := by
  unfold mixL
  rw [List.take_of_length_le (by rw [zipA_length a b (by omega)]; omega), List.drop_of_length_le (by omega), List.append_nil]
theorem mix_at {a b : List (List Sec)} {N k : Nat} (ha : a.length = N) (hb : b.length = N) (hk : k < N) : (mixL a b k)[k]? = a[k]? := by
  have hl : ((zipA a b).take k).length = k := by rw [List.length_take, zipA_length a b (by omega)]; omega
  unfold mixL
  rw [List.getElem?_append_right (by omega), hl, Nat.sub_self, List.getElem?_drop, Nat.add_zero]
theorem mix_length {a b : List (List Sec)} {N k : Nat} (ha : a.length = N) (hb : b.length = N) (hk : k ≤ N) : (mixL a b k).length = N := by
  unfold mixL
  rw [List.length_append, List.length_take, List.length_drop, zipA_length a b (by omega)]; omega
theorem mix_next {a b : List (List Sec)} {N k : Nat} {x y : List Sec} (ha : a.length = N) (hb : b.length = N) (hx : a[k]? = some x) (hy : b[k]? = some y) : (mixL a b k).set k (x ++ y) = mixL a b (k + 1) := by
  have hk : k < N := by have := (List.getElem?_eq_some_iff.1 hx).1; omega
  have hz : (zipA a b)[k]? = some (x ++ y) := by
    unfold zipA
    rw [List.getElem?_zipWith, hx, hy]
  have hl : ((zipA a b).take k).length = k := by rw [List.length_take, zipA_length a b (by omega)]; omega
  have hl2 : ((zipA a b).take (k + 1)).length = k + 1 := by rw [List.length_take, zipA_length a b (by omega)]; omega
  refine List.ext_getElem? fun j => ?_
  by_cases e : k = j
  · subst e
    rw [List.getElem?_set_self (by rw [mix_length ha hb (by omega)]; exact hk)]
    unfold mixL
    rw [List.getElem?_append_left (by omega), List.getElem?_take_of_lt (by omega), hz]
  · rw [List.getElem?_set_ne e]
    unfold mixL
    by_cases h : j < k
    · rw [List.getElem?_append_left (by omega), List.getElem?_append_left (by omega), List.getElem?_take_of_lt h, List.getElem?_take_of_lt (by omega)]
    · rw [List.getElem?_append_right (by omega), List.getElem?_append_right (by omega), hl, hl2, List.getElem?_drop, List.getElem?_drop]
      congr 1
      omega
set_option maxHeartbeats 16000000 in
set_option maxRecDepth 100000 in
theorem rall_any (sy la mo : Int) (v : Value) (res : List Int) (a : Option Addr) (n cap : Nat) (l : List TV) (pa : Option Addr) (pcap : Nat) (ps : List PV) (N : Nat) (w : World)
    (hv : Ints w v res) (hr : res.length ≤ 1000000) (hc : cfgB ⟨N, sy, la, mo, res⟩ = true) (hl : Tks w (.slice a n cap) l) (hn : l.length = n) (hm : mayV res.length l = true)
    (hp : Plns w (.slice pa n pcap) ps) (hpn : ps.length = n) (hpm : ∀ p ∈ ps, p.m.length ≤ 1000 ∧ onB N p.m = true) :
    Calls Tryz.prog 24 #[.agg #[.int .i64 N, .int .i64 sy, .int .i64 la, .int .i64 mo, v], .slice a n cap, .slice pa n pcap] w fun e w' => ∃ g, e = .returned (.slice (some ⟨g, 0, none⟩) N N) ∧ Lay w (.slice (some ⟨g, 0, none⟩) N N) (allL la res l ps (List.replicate N []) n) w' := by
  obtain ⟨i0, hi0, hz0, hz1, hz2⟩ := info_parts infoL
  obtain ⟨av, cv, rfl⟩ := hv.form
  obtain ⟨qr, hq⟩ : ∃ qr, res.length = qr := ⟨_, rfl⟩
  have h12 := mayV_len hm
  have hN6 : N ≤ 6 := by have := (cfgB_iff.1 hc).1; simp only at this; omega
  have n12 : n ≤ 12 := by omega
  have HB0 : Hid (Below w.heap.size w (w.alloc (.cells #[.int .i64 N, .int .i64 sy, .int .i64 la, .int .i64 mo, .slice av qr cv] 24))) := balloc _ _
  have KW : Hid (Blk (w.alloc (.cells #[.int .i64 N, .int .i64 sy, .int .i64 la, .int .i64 mo, .slice av qr cv] 24)) w.heap.size #[.int .i64 N, .int .i64 sy, .int .i64 la, .int .i64 mo, .slice av qr cv] 24) := heap_alloc_new _ _
  rw [hq] at hv ⊢
  have HV : Hid (Ints (w.alloc (.cells #[.int .i64 N, .int .i64 sy, .int .i64 la, .int .i64 mo, .slice av qr cv] 24)) (.slice av qr cv) res) := hv.below HB0.out
  have HL : Hid (Tks (w.alloc (.cells #[.int .i64 N, .int .i64 sy, .int .i64 la, .int .i64 mo, .slice av qr cv] 24)) (.slice a n cap) l) := hl.below HB0.out
  have HP : Hid (Plns (w.alloc (.cells #[.int .i64 N, .int .i64 sy, .int .i64 la, .int .i64 mo, .slice av qr cv] 24)) (.slice pa n pcap) ps) := hp.below HB0.out
  have HC : Hid (cfgB ⟨N, sy, la, mo, res⟩ = true) := hc
  have HM : Hid (mayV res.length l = true) := hm
  have HN : Hid (l.length = n) := hn
  have HPN : Hid (ps.length = n) := hpn
  have HPM : Hid (∀ p ∈ ps, p.m.length ≤ 1000 ∧ onB N p.m = true) := hpm
  have HR : Hid (res.length ≤ 1000000) := hr
  have mk := mkR N (by omega)
  have LM : Hid (Lay (w.alloc (.cells #[.int .i64 N, .int .i64 sy, .int .i64 la, .int .i64 mo, .slice av qr cv] 24)) (.slice (some ⟨(w.alloc (.cells #[.int .i64 N, .int .i64 sy, .int .i64 la, .int .i64 mo, .slice av qr cv] 24)).heap.size, 0, none⟩) N N) (List.replicate N []) ((w.alloc (.cells #[.int .i64 N, .int .i64 sy, .int .i64 la, .int .i64 mo, .slice av qr cv] 24)).alloc (.cells (Array.replicate N (.slice none 0 0)) 51))) := lay_made (Below.refl _ _) N (by omega)
  clear hv hl hc hm hp hn hpn hpm hr hq
  go_enter Tryz.func24, Tryz.ntmps24
  go_upto_region 1 with fail
  generalize hW : w.alloc _ = W at HB0 KW HV HL HP LM ⊢
  clear hW
  have c0 := KW.out.cell 0
  simp at c0
  have sW := KW.out.lt
  go_wp2_with fail
  generalize hW3 : W.alloc _ = W3 at LM ⊢
  generalize hg0 : W.heap.size = g0 at LM sW ⊢
  clear hW3 mk c0
  go_loopw [8] (fun i wr => ∃ k : Nat, k ≤ n ∧ i = .int .i64 k ∧ Hid (Lay W (.slice (some ⟨g0, 0, none⟩) N N) (allL la res l ps (List.replicate N []) k) wr)) (fun i _ => n - (intOf i).toNat)
  case atStart => exact ⟨0, Nat.zero_le _, rfl, LM.out⟩
  case round =>
    obtain ⟨k, hk, rfl, l3⟩ := hrel
    obtain ⟨us, hO⟩ := l3.out.own
    have L3 : Hid (Ly W [] (.slice (some ⟨g0, 0, none⟩) N N) us (allL la res l ps (List.replicate N []) k) wr) := ⟨fun q hq => (by cases hq), hO, l3.out.bel⟩
    clear l3 hO LM
    by_cases hlt : k < n
    · obtain ⟨⟨c, d, t, xu, xm⟩, hx⟩ : ∃ x, l[k]? = some x := ⟨_, List.getElem?_eq_getElem (by rw [HN.out]; exact hlt)⟩
      obtain ⟨⟨kd, pu, m⟩, hy⟩ : ∃ x, ps[k]? = some x := ⟨_, List.getElem?_eq_getElem (by rw [HPN.out]; exact hlt)⟩
      obtain ⟨-, -, -, -, -, -, -, -, ys⟩ := HL.out.at hx
      obtain ⟨a2, k2, exu⟩ := ys.form
      simp only at exu
      subst exu
      obtain ⟨b, o, e, hb, y1, y2, ym⟩ := HP.out.at hy
      subst e
      obtain ⟨ap, cp, epu⟩ := ym.form
      simp only at epu
      subst epu
      obtain ⟨hpm, hon⟩ := HPM.out _ (List.mem_of_getElem? hy)
      have HYM : Hid (Pcs W (.slice ap m.length cp) m) := ym
      obtain ⟨np, hnp⟩ : ∃ np, m.length = np := ⟨_, rfl⟩
      simp only at y1 y2 hpm hon
      have HON : Hid (onB N m = true) := hon
      have HX : Hid (l[k]? = some ⟨c, d, t, .slice a2 xm.length k2, xm⟩) := hx
      have HY : Hid (ps[k]? = some ⟨kd, .slice ap m.length cp, m⟩) := hy
      have HNP : Hid (m.length = np) := hnp
      rw [hnp] at y2 HYM hpm
      have q0 : (0 : Int) ≤ (k : Int) := by omega
      have q1 : (k : Int) < (n : Int) := by omega
      clear hx hy ys hon ym hnp
      go_upto_region 5 with fail
      go_cut [9] from 20 to 27 (fun x wx => ∃ (gl : Nat) (ul : List Value) (bs : List (Nat × Array Value × TypeId)), x = (.slice (some ⟨gl, 0, none⟩) N N) ∧ Hid (Ly W bs (.slice (some ⟨g0, 0, none⟩) N N) us (allL la res l ps (List.replicate N []) k) wx) ∧ Hid (∀ w' : World, (∀ q ∈ bs, Blk w' q.1 q.2.1 q.2.2) → OwnR w' wr.heap.size (.slice (some ⟨gl, 0, none⟩) N N) ul (layL ⟨c, d, t, .slice a2 xm.length k2, xm⟩ (waitV la res l k) kd (List.replicate N []) m)))
      case first =>
        refine wp_region_noPanic (wp_region_runsZ (S := (fun w' => w'.cell? ⟨w.heap.size, 0, none⟩ = some (.int .i64 N) ∧ w'.cell? ⟨w.heap.size, 1, none⟩ = some (.int .i64 sy) ∧ w'.cell? ⟨w.heap.size, 2, none⟩ = some (.int .i64 la) ∧ w'.cell? ⟨w.heap.size, 3, none⟩ = some (.int .i64 mo) ∧ w'.cell? ⟨w.heap.size, 4, none⟩ = some (.slice av qr cv) ∧ w'.cell? ⟨b, o + k * 2, none⟩ = some (.int .i64 kd) ∧ w'.cell? ⟨b, o + k * 2 + 1, none⟩ = some (.slice ap np cp))) (Z := [8]) (by kernel_rfl) ?_)
        have D3 : Hid (Ly W [] (.slice (some ⟨g0, 0, none⟩) N N) us (allL la res l ps (List.replicate N []) k) wr.drew) := L3.out.drew
        have hS0 : (fun w' => w'.cell? ⟨w.heap.size, 0, none⟩ = some (.int .i64 N) ∧ w'.cell? ⟨w.heap.size, 1, none⟩ = some (.int .i64 sy) ∧ w'.cell? ⟨w.heap.size, 2, none⟩ = some (.int .i64 la) ∧ w'.cell? ⟨w.heap.size, 3, none⟩ = some (.int .i64 mo) ∧ w'.cell? ⟨w.heap.size, 4, none⟩ = some (.slice av qr cv) ∧ w'.cell? ⟨b, o + k * 2, none⟩ = some (.int .i64 kd) ∧ w'.cell? ⟨b, o + k * 2 + 1, none⟩ = some (.slice ap np cp)) wr.drew := ⟨(KW.out.below D3.out.bel).cell 0, (KW.out.below D3.out.bel).cell 1, (KW.out.below D3.out.bel).cell 2, (KW.out.below D3.out.bel).cell 3, (KW.out.below D3.out.bel).cell 4, (D3.out.bel.cell (p := ⟨b, _, none⟩) hb).trans y1, (D3.out.bel.cell (p := ⟨b, _, none⟩) hb).trans y2⟩
        have sd : wr.drew.heap.size = wr.heap.size := rfl
        generalize wr.drew = u0 at D3 hS0 sd ⊢
        refine RunsZ.take 12 (i := 0) (v := ?vo0) (nth_z rfl) (by kernel_rfl) (by kernel_rfl) (by kernel_rfl) (by kernel_rfl) (by kernel_rfl) (fun _ _ _ h => h) (Or.inl ⟨by rfl, ?yo0⟩) hS0 ?_
        case yo0 =>
          intro u hu
          try dsimp only at hu
          go_split_ands
          go_simp
          try with_reducible rfl
        simp only [Act.put, List.setIfInBounds_toArray, List.set_cons_zero, List.set_cons_succ]
        refine RunsZ.take 12 (i := 1) (v := ?vo1) (nth_z rfl) (by kernel_rfl) (by kernel_rfl) (by kernel_rfl) (by kernel_rfl) (by kernel_rfl) (fun _ _ _ h => h) (Or.inl ⟨by rfl, ?yo1⟩) hS0 ?_
        case yo1 =>
          intro u hu
          try dsimp only at hu
          go_split_ands
          go_simp
          try with_reducible rfl
        simp only [Act.put, List.setIfInBounds_toArray, List.set_cons_zero, List.set_cons_succ]
        refine RunsZ.take 12 (i := 2) (v := ?vo2) (nth_z rfl) (by kernel_rfl) (by kernel_rfl) (by kernel_rfl) (by kernel_rfl) (by kernel_rfl) (fun _ _ _ h => h) (Or.inl ⟨by rfl, ?yo2⟩) hS0 ?_
        case yo2 =>
          intro u hu
          try dsimp only at hu
          go_split_ands
          go_simp
          try with_reducible rfl
        simp only [Act.put, List.setIfInBounds_toArray, List.set_cons_zero, List.set_cons_succ]
        refine RunsZ.take 12 (i := 3) (v := ?vo3) (nth_z rfl) (by kernel_rfl) (by kernel_rfl) (by kernel_rfl) (by kernel_rfl) (by kernel_rfl) (fun _ _ _ h => h) (Or.inl ⟨by rfl, ?yo3⟩) hS0 ?_
        case yo3 =>
          intro u hu
          try dsimp only at hu
          go_split_ands
          go_simp
          try with_reducible rfl
        simp only [Act.put, List.setIfInBounds_toArray, List.set_cons_zero, List.set_cons_succ]
        refine RunsZ.take 12 (i := 4) (v := ?vo4) (nth_z rfl) (by kernel_rfl) (by kernel_rfl) (by kernel_rfl) (by kernel_rfl) (by kernel_rfl) (fun _ _ _ h => h) (Or.inl ⟨by rfl, ?yo4⟩) hS0 ?_
        case yo4 =>
          intro u hu
          try dsimp only at hu
          go_split_ands
          go_simp
          try with_reducible rfl
        simp only [Act.put, List.setIfInBounds_toArray, List.set_cons_zero, List.set_cons_succ]
        refine RunsZ.take 12 (i := 5) (v := ?vo5) (nth_z rfl) (by kernel_rfl) (by kernel_rfl) (by kernel_rfl) (by kernel_rfl) (by kernel_rfl) (fun _ _ _ h => h) (Or.inl ⟨by rfl, ?yo5⟩) hS0 ?_
        case yo5 =>
          intro u hu
          try dsimp only at hu
          go_split_ands
          go_simp
          try with_reducible rfl
        simp only [Act.put, List.setIfInBounds_toArray, List.set_cons_zero, List.set_cons_succ]
        refine RunsZ.take 12 (i := 6) (v := ?vo6) (nth_z rfl) (by kernel_rfl) (by kernel_rfl) (by kernel_rfl) (by kernel_rfl) (by kernel_rfl) (fun _ _ _ h => h) (Or.inl ⟨by rfl, ?yo6⟩) hS0 ?_
        case yo6 =>
          intro u hu
          try dsimp only at hu
          go_split_ands
          go_simp
          try with_reducible rfl
        simp only [Act.put, List.setIfInBounds_toArray, List.set_cons_zero, List.set_cons_succ]
        refine RunsZ.one (i := 7) (by kernel_rfl) (nth_z rfl) (by rfl) (fun K hK => ?_)
        go_simp
        refine (rof_any sy la mo (.slice av qr cv) res a n cap l k c d t a2 xm.length k2 xm kd ap cp np m N _ (HV.out.below D3.out.bel) HR.out HC.out (HL.out.below D3.out.bel) HN.out HM.out HX.out (HYM.out.below D3.out.bel) HNP.out hpm HON.out).mono ?_
        rintro e u1 ⟨gl, rfl, hgl, ll⟩
        obtain ⟨ul, hll⟩ := ll.own
        rw [sd] at hll
        obtain ⟨bs, p1, p2⟩ := hll.snap
        have D6 : Hid (Ly W [] (.slice (some ⟨g0, 0, none⟩) N N) us (allL la res l ps (List.replicate N []) k) u1) := D3.out.below ll.bel
        have D7 : Hid (Ly W bs (.slice (some ⟨g0, 0, none⟩) N N) us (allL la res l ps (List.replicate N []) k) u1) := ⟨fun q hq => ⟨(p1 q hq).1, L3.out.own.far (p1 q hq).2⟩, D6.out.own, D6.out.bel⟩
        have HQ : Hid (∀ w' : World, (∀ q ∈ bs, Blk w' q.1 q.2.1 q.2.2) → OwnR w' wr.heap.size (.slice (some ⟨gl, 0, none⟩) N N) ul (layL ⟨c, d, t, .slice a2 xm.length k2, xm⟩ (waitV la res l k) kd (List.replicate N []) m)) := p2
        clear p1 p2 hll ll
        have hS1 : (fun w' => w'.cell? ⟨w.heap.size, 0, none⟩ = some (.int .i64 N) ∧ w'.cell? ⟨w.heap.size, 1, none⟩ = some (.int .i64 sy) ∧ w'.cell? ⟨w.heap.size, 2, none⟩ = some (.int .i64 la) ∧ w'.cell? ⟨w.heap.size, 3, none⟩ = some (.int .i64 mo) ∧ w'.cell? ⟨w.heap.size, 4, none⟩ = some (.slice av qr cv) ∧ w'.cell? ⟨b, o + k * 2, none⟩ = some (.int .i64 kd) ∧ w'.cell? ⟨b, o + k * 2 + 1, none⟩ = some (.slice ap np cp)) u1 := ⟨(KW.out.below D6.out.bel).cell 0, (KW.out.below D6.out.bel).cell 1, (KW.out.below D6.out.bel).cell 2, (KW.out.below D6.out.bel).cell 3, (KW.out.below D6.out.bel).cell 4, (D6.out.bel.cell (p := ⟨b, _, none⟩) hb).trans y1, (D6.out.bel.cell (p := ⟨b, _, none⟩) hb).trans y2⟩
        first | refine hK.out _ _ (fun _ => hS1) ?_ | (go_wp2_with fail; refine hK.out _ _ (fun _ => hS1) ?_)
        clear hK K
        try simp only [Act.put, List.setIfInBounds_toArray, List.set_cons_zero, List.set_cons_succ]
        refine RunsZ.one (i := 8) (by kernel_rfl) (nth_z rfl) (by rfl) (fun K hK => ?_)
        go_simp
        refine hK.out _ _ (fun h => absurd (by decide) h) ?_
        clear hK K
        try simp only [Act.put, List.setIfInBounds_toArray, List.set_cons_zero, List.set_cons_succ]
        refine RunsZ.done (by kernel_rfl) (NoPanic.normal ?_)
        go_wp2_with fail
        go_meet
        exact ⟨gl, ul, bs, rfl, D7.out, HQ.out⟩
      case rest =>
        obtain ⟨gl, ul, bs, rfl, l5, hq⟩ := hcut
        have L5 : Hid (Ly W bs (.slice (some ⟨g0, 0, none⟩) N N) us (allL la res l ps (List.replicate N []) k) wc) := l5.out
        have HQ : Hid (∀ w' : World, (∀ q ∈ bs, Blk w' q.1 q.2.1 q.2.2) → OwnR w' wr.heap.size (.slice (some ⟨gl, 0, none⟩) N N) ul (layL ⟨c, d, t, .slice a2 xm.length k2, xm⟩ (waitV la res l k) kd (List.replicate N []) m)) := hq.out
        have ha : (allL la res l ps (List.replicate N []) k).length = N := by rw [allL_length, List.length_replicate]
        have hb2 : (layL ⟨c, d, t, .slice a2 xm.length k2, xm⟩ (waitV la res l k) kd (List.replicate N []) m).length = N := by rw [layL_length, List.length_replicate]
        have HA : Hid ((allL la res l ps (List.replicate N []) k).length = N) := ha
        have HB : Hid ((layL ⟨c, d, t, .slice a2 xm.length k2, xm⟩ (waitV la res l k) kd (List.replicate N []) m).length = N) := hb2
        have HLA : Hid (∀ r ∈ (allL la res l ps (List.replicate N []) k), r.length ≤ 1000 * k) := all_len la res l ps N (fun p hp => (HPM.out p hp).1) k
        have HLB : Hid (∀ r ∈ (layL ⟨c, d, t, .slice a2 xm.length k2, xm⟩ (waitV la res l k) kd (List.replicate N []) m), r.length ≤ 1000) := fun r hr => by
          have := lay_len _ _ _ 0 m (List.replicate N []) (fun r hr => by rw [List.eq_of_mem_replicate hr]; simp) r hr
          have := HNP.out
          omega
        clear l5 hq L3 y1 y2 ha hb2
        go_wp2_with fail
        go_loopw [10] (fun i2 wz => ∃ (j : Nat) (us2 : List Value), j ≤ N ∧ i2 = .int .i64 j ∧ Hid (Ly W bs (.slice (some ⟨g0, 0, none⟩) N N) us2 (mixL (allL la res l ps (List.replicate N []) k) (layL ⟨c, d, t, .slice a2 xm.length k2, xm⟩ (waitV la res l k) kd (List.replicate N []) m) j) wz)) (fun i2 _ => N - (intOf i2).toNat)
        case atStart => exact ⟨0, us, Nat.zero_le _, rfl, by rw [mix_zero]; exact L5.out⟩
        case round =>
          obtain ⟨j, us2, hj, rfl, l6⟩ := hrel
          have L6 : Hid (Ly W bs (.slice (some ⟨g0, 0, none⟩) N N) us2 (mixL (allL la res l ps (List.replicate N []) k) (layL ⟨c, d, t, .slice a2 xm.length k2, xm⟩ (waitV la res l k) kd (List.replicate N []) m) j) _) := l6.out
          rename World => wz
          clear l6 L5
          have c0 : wz.cell? ⟨w.heap.size, 0, none⟩ = some (.int .i64 N) := (KW.out.below L6.out.bel).cell 0
          by_cases hjN : j < N
          · have QL := HQ.out _ (fun q hq => (L6.out.blk q hq).1)
            have hul := QL.len
            rw [HB.out] at hul
            have hus := L6.out.own.len
            rw [mix_length HA.out HB.out (by omega)] at hus
            obtain ⟨x, hx⟩ : ∃ x, (allL la res l ps (List.replicate N []) k)[j]? = some x := ⟨_, List.getElem?_eq_getElem (by rw [HA.out]; exact hjN)⟩
            obtain ⟨yl, hyl⟩ : ∃ y, (layL ⟨c, d, t, .slice a2 xm.length k2, xm⟩ (waitV la res l k) kd (List.replicate N []) m)[j]? = some y := ⟨_, List.getElem?_eq_getElem (by rw [HB.out]; exact hjN)⟩
            have hmx : (mixL (allL la res l ps (List.replicate N []) k) (layL ⟨c, d, t, .slice a2 xm.length k2, xm⟩ (waitV la res l k) kd (List.replicate N []) m) j)[j]? = some x := (mix_at HA.out HB.out hjN).trans hx
            obtain ⟨ux, hux⟩ : ∃ u, us2[j]? = some u := ⟨_, List.getElem?_eq_getElem (by omega)⟩
            obtain ⟨uy, huy⟩ : ∃ u, ul[j]? = some u := ⟨_, List.getElem?_eq_getElem (by omega)⟩
            have HMX : Hid ((mixL (allL la res l ps (List.replicate N []) k) (layL ⟨c, d, t, .slice a2 xm.length k2, xm⟩ (waitV la res l k) kd (List.replicate N []) m) j)[j]? = some x) := hmx
            have HUX : Hid (us2[j]? = some ux) := hux
            have HUY : Hid (ul[j]? = some uy) := huy
            have HYL : Hid ((layL ⟨c, d, t, .slice a2 xm.length k2, xm⟩ (waitV la res l k) kd (List.replicate N []) m)[j]? = some yl) := hyl
            have HNX : Hid ((mixL (allL la res l ps (List.replicate N []) k) (layL ⟨c, d, t, .slice a2 xm.length k2, xm⟩ (waitV la res l k) kd (List.replicate N []) m) j).set j (x ++ yl) = (mixL (allL la res l ps (List.replicate N []) k) (layL ⟨c, d, t, .slice a2 xm.length k2, xm⟩ (waitV la res l k) kd (List.replicate N []) m) (j + 1))) := mix_next HA.out HB.out hx hyl
            have lx := HLA.out x (List.mem_of_getElem? hx)
            have ly := HLB.out yl (List.mem_of_getElem? hyl)
            obtain ⟨ax, cx, ex⟩ := (L6.out.own.row j ux x hux hmx).form
            subst ex
            have hcx : x.length ≤ cx := own_cap (L6.out.own.row j _ x hux hmx)
            have oy := QL.row j uy yl huy hyl
            have e0 : (0 : Int) ≤ (j : Int) := by omega
            have e1 : (j : Int) < (N : Int) := by omega
            clear hx hyl hmx hux huy hul hus QL
            rcases oy.2 with ⟨hy1, hy2⟩ | ⟨gy, cy, cury, hy1, -⟩
            · subst hy1
              have hyn : yl = [] := List.length_eq_zero_iff.1 hy2
              subst hyn
              go_upto_region 9 with fail
              refine wp_region_noPanic (wp_region_runsZ (S := (fun w' => w'.cell? ⟨g0, j, none⟩ = some (.slice ax x.length cx) ∧ w'.cell? ⟨gl, j, none⟩ = some (.slice none 0 0))) (Z := [12]) (by kernel_rfl) ?_)
              have D6 : Hid (Ly W bs (.slice (some ⟨g0, 0, none⟩) N N) us2 (mixL (allL la res l ps (List.replicate N []) k) (layL ⟨c, d, t, .slice a2 xm.length k2, xm⟩ (waitV la res l k) kd (List.replicate N []) m) j) wz.drew) := L6.out.drew
              have hS0 : (fun w' => w'.cell? ⟨g0, j, none⟩ = some (.slice ax x.length cx) ∧ w'.cell? ⟨gl, j, none⟩ = some (.slice none 0 0)) wz.drew := ⟨(D6.out.own.cell HUX.out).1, ((HQ.out _ (fun q hq => (D6.out.blk q hq).1)).cell HUY.out).1⟩
              have oyd := own_below oy (bdrew wz)
              generalize wz.drew = u0 at D6 hS0 oyd ⊢
              refine RunsZ.take 12 (i := 0) (v := ?vp0) (nth_z rfl) (by kernel_rfl) (by kernel_rfl) (by kernel_rfl) (by kernel_rfl) (by kernel_rfl) (fun _ _ _ h => h) (Or.inl ⟨by rfl, ?yp0⟩) hS0 ?_
              case yp0 =>
                intro u hu
                try dsimp only at hu
                go_split_ands
                go_simp
                try with_reducible rfl
              simp only [Act.put, List.setIfInBounds_toArray, List.set_cons_zero, List.set_cons_succ]
              refine RunsZ.take 12 (i := 1) (v := ?vp1) (nth_z rfl) (by kernel_rfl) (by kernel_rfl) (by kernel_rfl) (by kernel_rfl) (by kernel_rfl) (fun _ _ _ h => h) (Or.inl ⟨by rfl, ?yp1⟩) hS0 ?_
              case yp1 =>
                intro u hu
                try dsimp only at hu
                go_split_ands
                go_simp
                try with_reducible rfl
              simp only [Act.put, List.setIfInBounds_toArray, List.set_cons_zero, List.set_cons_succ]
              refine RunsZ.take 12 (i := 2) (v := ?vp2) (nth_z rfl) (by kernel_rfl) (by kernel_rfl) (by kernel_rfl) (by kernel_rfl) (by kernel_rfl) (fun _ _ _ h => h) (Or.inl ⟨by rfl, ?yp2⟩) hS0 ?_
              case yp2 =>
                intro u hu
                try dsimp only at hu
                go_split_ands
                go_simp
                try with_reducible rfl
              simp only [Act.put, List.setIfInBounds_toArray, List.set_cons_zero, List.set_cons_succ]
              refine RunsZ.take 12 (i := 3) (v := ?vp3) (nth_z rfl) (by kernel_rfl) (by kernel_rfl) (by kernel_rfl) (by kernel_rfl) (by kernel_rfl) (fun _ _ _ h => h) (Or.inl ⟨by rfl, ?yp3⟩) hS0 ?_
              case yp3 =>
                intro u hu
                try dsimp only at hu
                go_split_ands
                go_simp
                try with_reducible rfl
              simp only [Act.put, List.setIfInBounds_toArray, List.set_cons_zero, List.set_cons_succ]
              refine RunsZ.take 12 (i := 4) (v := ?vp4) (nth_z rfl) (by kernel_rfl) (by kernel_rfl) (by kernel_rfl) (by kernel_rfl) (by kernel_rfl) (fun _ _ _ h => h) (Or.inl ⟨by rfl, ?yp4⟩) hS0 ?_
              case yp4 =>
                intro u hu
                try dsimp only at hu
                go_split_ands
                go_simp
                try with_reducible rfl
              simp only [Act.put, List.setIfInBounds_toArray, List.set_cons_zero, List.set_cons_succ]
              refine RunsZ.take 12 (i := 5) (v := ?vp5) (nth_z rfl) (by kernel_rfl) (by kernel_rfl) (by kernel_rfl) (by kernel_rfl) (by kernel_rfl) (fun _ _ _ h => h) (Or.inl ⟨by rfl, ?yp5⟩) hS0 ?_
              case yp5 =>
                intro u hu
                try dsimp only at hu
                go_split_ands
                go_simp
                try with_reducible rfl
              simp only [Act.put, List.setIfInBounds_toArray, List.set_cons_zero, List.set_cons_succ]
              refine RunsZ.take 12 (i := 6) (v := ?vp6) (nth_z rfl) (by kernel_rfl) (by kernel_rfl) (by kernel_rfl) (by kernel_rfl) (by kernel_rfl) (fun _ _ _ h => h) (Or.inl ⟨by rfl, ?yp6⟩) hS0 ?_
              case yp6 =>
                intro u hu
                try dsimp only at hu
                go_split_ands
                go_simp
                try with_reducible rfl
              simp only [Act.put, List.setIfInBounds_toArray, List.set_cons_zero, List.set_cons_succ]
              refine RunsZ.take 12 (i := 7) (v := ?vp7) (nth_z rfl) (by kernel_rfl) (by kernel_rfl) (by kernel_rfl) (by kernel_rfl) (by kernel_rfl) (fun _ _ _ h => h) (Or.inl ⟨by rfl, ?yp7⟩) hS0 ?_
              case yp7 =>
                intro u hu
                try dsimp only at hu
                go_split_ands
                go_simp
                try with_reducible rfl
              simp only [Act.put, List.setIfInBounds_toArray, List.set_cons_zero, List.set_cons_succ]
              refine RunsZ.take 12 (i := 8) (v := ?vp8) (nth_z rfl) (by kernel_rfl) (by kernel_rfl) (by kernel_rfl) (by kernel_rfl) (by kernel_rfl) (fun _ _ _ h => h) (Or.inl ⟨by rfl, ?yp8⟩) hS0 ?_
              case yp8 =>
                intro u hu
                try dsimp only at hu
                go_split_ands
                go_simp
                try with_reducible rfl
              simp only [Act.put, List.setIfInBounds_toArray, List.set_cons_zero, List.set_cons_succ]
              refine RunsZ.take 12 (i := 9) (v := ?vp9) (nth_z rfl) (by kernel_rfl) (by kernel_rfl) (by kernel_rfl) (by kernel_rfl) (by kernel_rfl) (fun _ _ _ h => h) (Or.inl ⟨by rfl, ?yp9⟩) hS0 ?_
              case yp9 =>
                intro u hu
                try dsimp only at hu
                go_split_ands
                go_simp
                try with_reducible rfl
              simp only [Act.put, List.setIfInBounds_toArray, List.set_cons_zero, List.set_cons_succ]
              have ox := D6.out.own.row j _ x HUX.out HMX.out
              have su := D6.out.bel.size
              refine RunsZ.one (i := 10) (by kernel_rfl) (nth_z rfl) (by rfl) (fun K hK => ?_)
              refine wp_append_zero u0 (.tmp 39) (.tmp 43) 51 (by rfl) 55 i0 Tryz.underlying51 hi0 ax x.length cx hcx (by rfl) (by rfl) ?_
              refine hK.out _ _ (fun _ => hS0) ?_
              clear hK K
              try simp only [Act.put, List.setIfInBounds_toArray, List.set_cons_zero, List.set_cons_succ]
              have z9 := (D6.out.own.cell HUX.out).2.1
              have z8 := (D6.out.own.cell HUX.out).2.2
              refine RunsZ.take 12 (i := 11) (v := ?vp11) (nth_z rfl) (by kernel_rfl) (by kernel_rfl) (by kernel_rfl) (by kernel_rfl) (by kernel_rfl) (fun _ _ _ h => h) (Or.inl ⟨by rfl, ?yp11⟩) hS0 ?_
              case yp11 =>
                intro u hu
                try dsimp only at hu
                go_split_ands
                go_simp
                try with_reducible rfl
              simp only [Act.put, List.setIfInBounds_toArray, List.set_cons_zero, List.set_cons_succ]
              refine RunsZ.one (i := 12) (by kernel_rfl) (nth_z rfl) (by rfl) (fun K hK => ?_)
              go_simp
              refine hK.out _ _ (fun h => absurd (by decide) h) ?_
              clear hK K
              try simp only [Act.put, List.setIfInBounds_toArray, List.set_cons_zero, List.set_cons_succ]
              refine RunsZ.done (by kernel_rfl) (NoPanic.normal ?_)
              go_wp2_with fail
              go_round
              case rel => exact ⟨j + 1, _, by omega, by go_num, by rw [← HNX.out, List.append_nil, set_same HMX.out]; exact D6.out.same HUX.out⟩
              case measure => simp [intOf]; omega
            · subst hy1
              go_upto_region 9 with fail
              refine wp_region_noPanic (wp_region_runsZ (S := (fun w' => w'.cell? ⟨g0, j, none⟩ = some (.slice ax x.length cx) ∧ w'.cell? ⟨gl, j, none⟩ = some (.slice (some ⟨gy, 0, none⟩) yl.length cy))) (Z := [12]) (by kernel_rfl) ?_)
              have D6 : Hid (Ly W bs (.slice (some ⟨g0, 0, none⟩) N N) us2 (mixL (allL la res l ps (List.replicate N []) k) (layL ⟨c, d, t, .slice a2 xm.length k2, xm⟩ (waitV la res l k) kd (List.replicate N []) m) j) wz.drew) := L6.out.drew
              have hS0 : (fun w' => w'.cell? ⟨g0, j, none⟩ = some (.slice ax x.length cx) ∧ w'.cell? ⟨gl, j, none⟩ = some (.slice (some ⟨gy, 0, none⟩) yl.length cy)) wz.drew := ⟨(D6.out.own.cell HUX.out).1, ((HQ.out _ (fun q hq => (D6.out.blk q hq).1)).cell HUY.out).1⟩
              have oyd := own_below oy (bdrew wz)
              generalize wz.drew = u0 at D6 hS0 oyd ⊢
              refine RunsZ.take 12 (i := 0) (v := ?vq0) (nth_z rfl) (by kernel_rfl) (by kernel_rfl) (by kernel_rfl) (by kernel_rfl) (by kernel_rfl) (fun _ _ _ h => h) (Or.inl ⟨by rfl, ?yq0⟩) hS0 ?_
              case yq0 =>
                intro u hu
                try dsimp only at hu
                go_split_ands
                go_simp
                try with_reducible rfl
              simp only [Act.put, List.setIfInBounds_toArray, List.set_cons_zero, List.set_cons_succ]
              refine RunsZ.take 12 (i := 1) (v := ?vq1) (nth_z rfl) (by kernel_rfl) (by kernel_rfl) (by kernel_rfl) (by kernel_rfl) (by kernel_rfl) (fun _ _ _ h => h) (Or.inl ⟨by rfl, ?yq1⟩) hS0 ?_
              case yq1 =>
                intro u hu
                try dsimp only at hu
                go_split_ands
                go_simp
                try with_reducible rfl
              simp only [Act.put, List.setIfInBounds_toArray, List.set_cons_zero, List.set_cons_succ]
              refine RunsZ.take 12 (i := 2) (v := ?vq2) (nth_z rfl) (by kernel_rfl) (by kernel_rfl) (by kernel_rfl) (by kernel_rfl) (by kernel_rfl) (fun _ _ _ h => h) (Or.inl ⟨by rfl, ?yq2⟩) hS0 ?_
              case yq2 =>
                intro u hu
                try dsimp only at hu
                go_split_ands
                go_simp
                try with_reducible rfl
              simp only [Act.put, List.setIfInBounds_toArray, List.set_cons_zero, List.set_cons_succ]
              refine RunsZ.take 12 (i := 3) (v := ?vq3) (nth_z rfl) (by kernel_rfl) (by kernel_rfl) (by kernel_rfl) (by kernel_rfl) (by kernel_rfl) (fun _ _ _ h => h) (Or.inl ⟨by rfl, ?yq3⟩) hS0 ?_
              case yq3 =>
                intro u hu
                try dsimp only at hu
                go_split_ands
                go_simp
                try with_reducible rfl
              simp only [Act.put, List.setIfInBounds_toArray, List.set_cons_zero, List.set_cons_succ]
              refine RunsZ.take 12 (i := 4) (v := ?vq4) (nth_z rfl) (by kernel_rfl) (by kernel_rfl) (by kernel_rfl) (by kernel_rfl) (by kernel_rfl) (fun _ _ _ h => h) (Or.inl ⟨by rfl, ?yq4⟩) hS0 ?_
              case yq4 =>
                intro u hu
                try dsimp only at hu
                go_split_ands
                go_simp
                try with_reducible rfl
              simp only [Act.put, List.setIfInBounds_toArray, List.set_cons_zero, List.set_cons_succ]
              refine RunsZ.take 12 (i := 5) (v := ?vq5) (nth_z rfl) (by kernel_rfl) (by kernel_rfl) (by kernel_rfl) (by kernel_rfl) (by kernel_rfl) (fun _ _ _ h => h) (Or.inl ⟨by rfl, ?yq5⟩) hS0 ?_
              case yq5 =>
                intro u hu
                try dsimp only at hu
                go_split_ands
                go_simp
                try with_reducible rfl
              simp only [Act.put, List.setIfInBounds_toArray, List.set_cons_zero, List.set_cons_succ]
              refine RunsZ.take 12 (i := 6) (v := ?vq6) (nth_z rfl) (by kernel_rfl) (by kernel_rfl) (by kernel_rfl) (by kernel_rfl) (by kernel_rfl) (fun _ _ _ h => h) (Or.inl ⟨by rfl, ?yq6⟩) hS0 ?_
              case yq6 =>
                intro u hu
                try dsimp only at hu
                go_split_ands
                go_simp
                try with_reducible rfl
              simp only [Act.put, List.setIfInBounds_toArray, List.set_cons_zero, List.set_cons_succ]
              refine RunsZ.take 12 (i := 7) (v := ?vq7) (nth_z rfl) (by kernel_rfl) (by kernel_rfl) (by kernel_rfl) (by kernel_rfl) (by kernel_rfl) (fun _ _ _ h => h) (Or.inl ⟨by rfl, ?yq7⟩) hS0 ?_
              case yq7 =>
                intro u hu
                try dsimp only at hu
                go_split_ands
                go_simp
                try with_reducible rfl
              simp only [Act.put, List.setIfInBounds_toArray, List.set_cons_zero, List.set_cons_succ]
              refine RunsZ.take 12 (i := 8) (v := ?vq8) (nth_z rfl) (by kernel_rfl) (by kernel_rfl) (by kernel_rfl) (by kernel_rfl) (by kernel_rfl) (fun _ _ _ h => h) (Or.inl ⟨by rfl, ?yq8⟩) hS0 ?_
              case yq8 =>
                intro u hu
                try dsimp only at hu
                go_split_ands
                go_simp
                try with_reducible rfl
              simp only [Act.put, List.setIfInBounds_toArray, List.set_cons_zero, List.set_cons_succ]
              refine RunsZ.take 12 (i := 9) (v := ?vq9) (nth_z rfl) (by kernel_rfl) (by kernel_rfl) (by kernel_rfl) (by kernel_rfl) (by kernel_rfl) (fun _ _ _ h => h) (Or.inl ⟨by rfl, ?yq9⟩) hS0 ?_
              case yq9 =>
                intro u hu
                try dsimp only at hu
                go_split_ands
                go_simp
                try with_reducible rfl
              simp only [Act.put, List.setIfInBounds_toArray, List.set_cons_zero, List.set_cons_succ]
              have ox := D6.out.own.row j _ x HUX.out HMX.out
              have su := D6.out.bel.size
              refine RunsZ.one (i := 10) (by kernel_rfl) (nth_z rfl) (by rfl) (fun K hK => ?_)
              have ny := secs_news (own_secs oyd)
              refine wp_append_at u0 (.tmp 39) (.tmp 43) 51 (by rfl) W.heap.size 55 i0 _ 3 24 Tryz.underlying51 hi0 hz0 hz1 hz2 rfl (by omega) (.slice ax x.length cx) x.length (secC x) (by rfl) ox ⟨gy, 0, none⟩ yl.length cy (secC yl) (by rfl) (secC_length yl) ny (secC_one yl) (by unfold maxLen; omega) (by omega) (by omega) ?_
              intro u7 w7 own7 gr7 at7
              have hown7 : OwnL w7 W.heap.size u7 (x ++ yl) := by unfold OwnL; rw [List.length_append, secC_append]; exact own7
              have L8 : Hid (Ly W bs (.slice (some ⟨g0, 0, none⟩) N N) (us2.set j u7) ((mixL (allL la res l ps (List.replicate N []) k) (layL ⟨c, d, t, .slice a2 xm.length k2, xm⟩ (waitV la res l k) kd (List.replicate N []) m) j).set j (x ++ yl)) (w7.setCell ⟨g0, j, none⟩ u7)) := D6.out.putW HUX.out HMX.out hown7 gr7 (at7.imp id (fun e => ⟨_, e, Nat.le_refl _⟩))
              obtain ⟨h70, h71, h72⟩ := D6.out.keptW HUX.out HMX.out gr7
              have hS2 : (fun w' => w'.cell? ⟨g0, j, none⟩ = some (.slice ax x.length cx) ∧ w'.cell? ⟨gl, j, none⟩ = some (.slice (some ⟨gy, 0, none⟩) yl.length cy)) w7 := ⟨h70, ((HQ.out _ (fun q hq => D6.out.keptBW HUX.out gr7 hq)).cell HUY.out).1⟩
              obtain ⟨a7, c7, e7⟩ := own_form own7
              subst e7
              clear own7 gr7 at7 hown7
              refine hK.out _ _ (fun _ => hS2) ?_
              clear hK K hS0
              try simp only [Act.put, List.setIfInBounds_toArray, List.set_cons_zero, List.set_cons_succ]
              refine RunsZ.take 12 (i := 11) (v := ?vq11) (nth_z rfl) (by kernel_rfl) (by kernel_rfl) (by kernel_rfl) (by kernel_rfl) (by kernel_rfl) (fun _ _ _ h => h) (Or.inl ⟨by rfl, ?yq11⟩) hS2 ?_
              case yq11 =>
                intro u hu
                try dsimp only at hu
                go_split_ands
                go_simp
                try with_reducible rfl
              simp only [Act.put, List.setIfInBounds_toArray, List.set_cons_zero, List.set_cons_succ]
              refine RunsZ.one (i := 12) (by kernel_rfl) (nth_z rfl) (by rfl) (fun K hK => ?_)
              go_simp
              refine hK.out _ _ (fun h => absurd (by decide) h) ?_
              clear hK K
              try simp only [Act.put, List.setIfInBounds_toArray, List.set_cons_zero, List.set_cons_succ]
              refine RunsZ.done (by kernel_rfl) (NoPanic.normal ?_)
              go_wp2_with fail
              go_round
              case rel => exact ⟨j + 1, _, by omega, by go_num, by rw [← HNX.out]; exact L8.out⟩
              case measure => simp [intOf]; omega
          · have e : N = j := by omega
            subst e
            have HF : Hid ((mixL (allL la res l ps (List.replicate N []) k) (layL ⟨c, d, t, .slice a2 xm.length k2, xm⟩ (waitV la res l k) kd (List.replicate N []) m) N) = allL la res l ps (List.replicate N []) (k + 1)) := by
              unfold Hid
              rw [mix_all HA.out HB.out, allL_succ HX.out HY.out, lay_zip _ _ _ _ (allL la res l ps (List.replicate N []) k), HA.out]
            have L9 : Hid (Lay W (.slice (some ⟨g0, 0, none⟩) N N) (allL la res l ps (List.replicate N []) (k + 1)) wz) := ⟨⟨us2, by rw [← HF.out]; exact L6.out.own⟩, L6.out.bel⟩
            clear L6
            go_wp2_with fail
            go_round
            case rel => exact ⟨k + 1, by omega, by go_num, L9.out⟩
            case measure => simp [intOf]; omega
    · have e : k = n := by omega
      subst e
      go_wp2_with fail
      go_ret
      exact ⟨g0, rfl, Lay.mono ⟨⟨_, L3.out.own⟩, L3.out.bel⟩ HB0.out⟩
end Go.Proofs.YtakdliecjfeedaaGreatDoor
