/- The contract of load.lay. -/
import Derived.Test.YtakdliecjfeedaaGreatDoorLMay
import Derived.Test.YtakdliecjfeedaaGreatDoorWSec
import Derived.Deep.RegionLaw
import Derived.Deep.LoopGhost
import Derived.Deep.Cut
import Derived.Deep.CutRange
import Derived.Deep.RegionHeld3
namespace Go.Proofs.YtakdliecjfeedaaGreatDoor
open Go Go.RowKit

theorem lay_len (x : TV) (W k : Int) (R : Nat) (m : List Pc) : ∀ rows : List (List Sec), (∀ r ∈ rows, r.length ≤ R) → ∀ r ∈ layL x W k rows m, r.length ≤ R + m.length := by
  induction m generalizing R with
  | nil => intro rows h; exact h
  | cons p m ih =>
    intro rows h r hr
    have := ih (R + 1) (addAt rows p.core.toNat (askOf x W k p)) (fun r' hr' => by
      unfold addAt at hr'
      obtain ⟨i, hi⟩ := List.mem_iff_getElem?.1 hr'
      rw [List.getElem?_modify] at hi
      cases h2 : rows[i]? with
      | none => rw [h2] at hi; simp at hi
      | some q =>
        rw [h2] at hi
        have hq := h q (List.mem_of_getElem? h2)
        simp at hi
        split at hi
        · subst hi; simp; omega
        · subst hi; omega) r hr
    simp only [List.length_cons]
    omega
/-- What lay leaves. -/
structure Lay (w0 : World) (v : Value) (rows : List (List Sec)) (w : World) : Prop where
  own : ∃ us, OwnR w w0.heap.size v us rows
  bel : Below w0.heap.size w0 w
theorem Lay.below {w0 w w' : World} {v : Value} {rows : List (List Sec)} (h : Lay w0 v rows w) (g : Below w.heap.size w w') : Lay w0 v rows w' := by
  obtain ⟨us, h1⟩ := h.own
  exact ⟨⟨us, h1.below g⟩, btrans h.bel g⟩
set_option maxHeartbeats 16000000 in
set_option maxRecDepth 100000 in
theorem lay_any (co sy la mo : Int) (v : Value) (res : List Int) (a : Option Addr) (n cap : Nat) (l : List TV) (i : Nat) (c d t : Int) (a2 : Option Addr) (n2 k2 : Nat) (xm : List Sec) (kd : Int) (u : Value) (m : List Pc) (ad : Option Addr) (nr cr : Nat) (rows : List (List Sec)) (R : Nat) (w0 w : World)
    (hv : Ints w0 v res) (hr : res.length ≤ 1000000) (hc : cfgB ⟨co, sy, la, mo, res⟩ = true) (hl : Tks w0 (.slice a n cap) l) (hn : l.length = n) (hm : mayV res.length l = true) (hX : l[i]? = some ⟨c, d, t, .slice a2 n2 k2, xm⟩)
    (hp : Pcs w0 u m) (hml : m.length ≤ 1000) (hon : onB co m = true) (hL : Lay w0 (.slice ad nr cr) rows w) (hrl : rows.length = co) (hR : ∀ r ∈ rows, r.length ≤ R) (hR2 : R ≤ 100000) :
    Calls Tryz.prog 44 #[.slice ad nr cr, .agg #[.int .i64 co, .int .i64 sy, .int .i64 la, .int .i64 mo, v], .slice a n cap, .int .i64 i, .agg #[.int .i64 kd, u]] w fun e w' => e = .returned (.tuple #[]) ∧ Lay w0 (.slice ad nr cr) (layL ⟨c, d, t, .slice a2 n2 k2, xm⟩ (waitV la res l i) kd rows m) w' := by
  obtain ⟨i0, hi0, hz0, hz1, hz2⟩ := info_parts infoL
  obtain ⟨us, hO⟩ := hL.own
  have hnr : us.length = nr := by
    obtain ⟨a', c', e⟩ := own_form hO.own
    simp only [Value.slice.injEq] at e
    exact e.2.1.symm
  obtain ⟨av, cv, rfl⟩ := hv.form
  obtain ⟨ap, cp, rfl⟩ := hp.form
  obtain ⟨qr, hq⟩ : ∃ qr, res.length = qr := ⟨_, rfl⟩
  obtain ⟨np, hnp⟩ : ∃ np, m.length = np := ⟨_, rfl⟩
  have HMS : Hid (∀ x ∈ l, x.m.length ≤ 1000000) := fun x hx => by have := (tv_secs (mayV_all hm x hx)).1; omega
  have hXt := mayV_all hm _ (List.mem_of_getElem? hX)
  have hin : i < n := by rw [← hn]; exact (List.getElem?_eq_some_iff.1 hX).1
  have h12 := mayV_len hm
  obtain ⟨V, hV⟩ : ∃ V, waitV la res l i = V := ⟨_, rfl⟩
  have hVb : 0 ≤ V ∧ V ≤ 2000000 := by
    have hla := (cfgB_iff.1 hc).2.2.1
    have h1 := wSum_bd (la := la) (res := res) hla.1 hla.2 (show l.length ≤ 1000 by omega) (fun x hx s hs => ((tv_secs (mayV_all hm x hx)).2 s hs).2) i xm.length
    have e := waitV_at (la := la) (res := res) hX
    rw [hV] at e
    simp only at e
    rw [← e] at h1
    have := (tv_secs hXt).1
    simp only at this
    omega
  have HV : Hid (Ints w0 (.slice av res.length cv) res) := hv
  have HL : Hid (Tks w0 (.slice a n cap) l) := hl
  have HC : Hid (cfgB ⟨co, sy, la, mo, res⟩ = true) := hc
  have HM : Hid (mayV res.length l = true) := hm
  have HP : Hid (Pcs w0 (.slice ap m.length cp) m) := hp
  have HON : Hid (onB co m = true) := hon
  have HWV : Hid (waitV la res l i = V) := hV
  have HX : Hid (l[i]? = some ⟨c, d, t, .slice a2 n2 k2, xm⟩) := hX
  have HN : Hid (l.length = n) := hn
  have HNP : Hid (m.length = np) := hnp
  have HR : Hid (∀ r ∈ rows, r.length ≤ R) := hR
  have HQ : Hid (res.length = qr) := hq
  have HC0 : Hid (∀ w' : World, Below w0.heap.size w0 w' → Calls Tryz.prog 16 #[.agg #[.int .i64 co, .int .i64 sy, .int .i64 la, .int .i64 mo, .slice av qr cv], .slice a n cap, .int .i64 i] w' fun e w'' => e = .returned (.int .i64 V) ∧ Below w'.heap.size w' w'') := fun w' hb => by
    have := wTask_any co sy la mo (.slice av res.length cv) res a n cap l i w' (hv.below hb) hr hc (hl.below hb) hn (by omega) HMS.out
    unfold waitA at this
    rw [if_pos hm, hV, hq] at this
    exact this
  obtain ⟨x1, x2, x3, x4, -, -⟩ := tskB_facts hXt
  simp only [TV.tsk] at x1 x2 x3 x4
  have HLN : Hid (Tks w (.slice a n cap) l) := hl.below hL.bel
  obtain ⟨b, o, eb, hbl, y1, y2, y3, y4, -⟩ := HLN.out.at hX
  subst eb
  simp only at y1 y2 y3 y4
  rw [hV]
  rw [hnp] at HP hml ⊢
  rw [hq] at HV ⊢
  have L0 : Hid (Ly w0 [(w.heap.size + 2, #[.int .i64 c, .int .i64 d, .int .i64 t, .slice a2 n2 k2], 34), (w.heap.size + 1, #[.int .i64 kd, .slice ap np cp], 49), (w.heap.size, #[.int .i64 co, .int .i64 sy, .int .i64 la, .int .i64 mo, .slice av qr cv], 24)] (.slice ad nr cr) us rows (((w.alloc (.cells #[.int .i64 co, .int .i64 sy, .int .i64 la, .int .i64 mo, .slice av qr cv] 24)).alloc (.cells #[.int .i64 kd, .slice ap np cp] 49)).alloc (.cells #[.int .i64 c, .int .i64 d, .int .i64 t, .slice a2 n2 k2] 34))) :=
    (((show Ly w0 [] (.slice ad nr cr) us rows w from ⟨fun q hq => (by cases hq), hO, hL.bel⟩).alloc #[.int .i64 co, .int .i64 sy, .int .i64 la, .int .i64 mo, .slice av qr cv] 24 rfl).alloc #[.int .i64 kd, .slice ap np cp] 49 (by simp)).alloc #[.int .i64 c, .int .i64 d, .int .i64 t, .slice a2 n2 k2] 34 (by simp)
  have hbs := hL.bel.size
  have hrl2 : us.length = rows.length := hO.len
  clear hv hl hc hm hp hon hX hn hnp hR hq hL hO hr hV hXt HLN
  go_enter Tryz.func44, Tryz.ntmps44
  go_upto_region 2 with fail
  generalize hW : ((w.alloc _).alloc _).alloc _ = W at L0 ⊢
  clear hW y1 y2 y3 y4
  have L1 : Hid (Ly w0 [(w.heap.size + 2, #[.int .i64 c, .int .i64 d, .int .i64 t, .slice a2 n2 k2], 34), (w.heap.size + 1, #[.int .i64 kd, .slice ap np cp], 49), (w.heap.size, #[.int .i64 co, .int .i64 sy, .int .i64 la, .int .i64 mo, .slice av qr cv], 24)] (.slice ad nr cr) us rows W) := L0.out
  clear L0
  have sW : w.heap.size + 2 < W.heap.size := (L1.out.at (g := w.heap.size + 2) (cs := #[.int .i64 c, .int .i64 d, .int .i64 t, .slice a2 n2 k2]) (t := 34) (by simp)).lt
  have sz0 : w0.heap.size ≤ w.heap.size := hbs
  have W1 : IntKind.i64.wrap (c + V) = c + V := IntWalk.i64_in _ (by omega)
  have c0 : W.cell? ⟨w.heap.size, 0, none⟩ = some (.int .i64 co) := (L1.out.at (g := w.heap.size) (cs := #[.int .i64 co, .int .i64 sy, .int .i64 la, .int .i64 mo, .slice av qr cv]) (t := 24) (by simp)).cell 0
  have c1 : W.cell? ⟨w.heap.size, 1, none⟩ = some (.int .i64 sy) := (L1.out.at (g := w.heap.size) (cs := #[.int .i64 co, .int .i64 sy, .int .i64 la, .int .i64 mo, .slice av qr cv]) (t := 24) (by simp)).cell 1
  have c2 : W.cell? ⟨w.heap.size, 2, none⟩ = some (.int .i64 la) := (L1.out.at (g := w.heap.size) (cs := #[.int .i64 co, .int .i64 sy, .int .i64 la, .int .i64 mo, .slice av qr cv]) (t := 24) (by simp)).cell 2
  have c3 : W.cell? ⟨w.heap.size, 3, none⟩ = some (.int .i64 mo) := (L1.out.at (g := w.heap.size) (cs := #[.int .i64 co, .int .i64 sy, .int .i64 la, .int .i64 mo, .slice av qr cv]) (t := 24) (by simp)).cell 3
  have c4 : W.cell? ⟨w.heap.size, 4, none⟩ = some (.slice av qr cv) := (L1.out.at (g := w.heap.size) (cs := #[.int .i64 co, .int .i64 sy, .int .i64 la, .int .i64 mo, .slice av qr cv]) (t := 24) (by simp)).cell 4
  have t0 : W.cell? ⟨w.heap.size + 2, 0, none⟩ = some (.int .i64 c) := (L1.out.at (g := w.heap.size + 2) (cs := #[.int .i64 c, .int .i64 d, .int .i64 t, .slice a2 n2 k2]) (t := 34) (by simp)).cell 0
  have t1 : W.cell? ⟨w.heap.size + 2, 1, none⟩ = some (.int .i64 d) := (L1.out.at (g := w.heap.size + 2) (cs := #[.int .i64 c, .int .i64 d, .int .i64 t, .slice a2 n2 k2]) (t := 34) (by simp)).cell 1
  have t2 : W.cell? ⟨w.heap.size + 2, 2, none⟩ = some (.int .i64 t) := (L1.out.at (g := w.heap.size + 2) (cs := #[.int .i64 c, .int .i64 d, .int .i64 t, .slice a2 n2 k2]) (t := 34) (by simp)).cell 2
  go_cut [11] from 19 to 30 (fun x wx => ∃ gw : Nat, x = .pointer (some ⟨gw, 0, none⟩) ∧ w.heap.size + 2 < gw ∧ Hid (Ly w0 [(gw, #[.int .i64 (c + V), .int .i64 d, .int .i64 t], 55), (w.heap.size + 2, #[.int .i64 c, .int .i64 d, .int .i64 t, .slice a2 n2 k2], 34), (w.heap.size + 1, #[.int .i64 kd, .slice ap np cp], 49), (w.heap.size, #[.int .i64 co, .int .i64 sy, .int .i64 la, .int .i64 mo, .slice av qr cv], 24)] (.slice ad nr cr) us rows wx))
  case first =>
    go_region_held3 (fun w' => w'.cell? ⟨w.heap.size, 0, none⟩ = some (.int .i64 co) ∧ w'.cell? ⟨w.heap.size, 1, none⟩ = some (.int .i64 sy) ∧ w'.cell? ⟨w.heap.size, 2, none⟩ = some (.int .i64 la) ∧ w'.cell? ⟨w.heap.size, 3, none⟩ = some (.int .i64 mo) ∧ w'.cell? ⟨w.heap.size, 4, none⟩ = some (.slice av qr cv) ∧ w'.cell? ⟨w.heap.size + 2, 0, none⟩ = some (.int .i64 c) ∧ w'.cell? ⟨w.heap.size + 2, 1, none⟩ = some (.int .i64 d) ∧ w'.cell? ⟨w.heap.size + 2, 2, none⟩ = some (.int .i64 t)) (first | exact ⟨c0, c1, c2, c3, c4, t0, t1, t2⟩ | go_keep | exact ⟨r0, r1, r2, r3, r4, s0, s1, s2⟩ | exact ⟨u0, u1, u2, u3, u4, v0, v1, v2⟩) (first | (go_at_call 16; refine (HC0.out _ (L1.out.drew.alloc #[.int .i64 0, .int .i64 0, .int .i64 0] 55 rfl).bel).mono ?_; rintro e w4 ⟨rfl, g4⟩; have LA : Hid (Ly w0 [(W.heap.size, #[.int .i64 0, .int .i64 0, .int .i64 0], 55), (w.heap.size + 2, #[.int .i64 c, .int .i64 d, .int .i64 t, .slice a2 n2 k2], 34), (w.heap.size + 1, #[.int .i64 kd, .slice ap np cp], 49), (w.heap.size, #[.int .i64 co, .int .i64 sy, .int .i64 la, .int .i64 mo, .slice av qr cv], 24)] (.slice ad nr cr) us rows w4) := (L1.out.drew.alloc #[.int .i64 0, .int .i64 0, .int .i64 0] 55 rfl).below g4; have S4 : W.heap.size < w4.heap.size := (LA.out.at (g := W.heap.size) (cs := #[.int .i64 0, .int .i64 0, .int .i64 0]) (t := 55) (by simp)).lt; have F0 : ∀ i, w4.frozen? ⟨W.heap.size, i, none⟩ = false := (LA.out.at (g := W.heap.size) (cs := #[.int .i64 0, .int .i64 0, .int .i64 0]) (t := 55) (by simp)).frozen; have f0 := F0 0; have f1 := F0 1; have f2 := F0 2; clear F0; have z0 : w4.cell? ⟨W.heap.size, 0, none⟩ = some (.int .i64 0) := (LA.out.at (g := W.heap.size) (cs := #[.int .i64 0, .int .i64 0, .int .i64 0]) (t := 55) (by simp)).cell 0; have z1 : w4.cell? ⟨W.heap.size, 1, none⟩ = some (.int .i64 0) := (LA.out.at (g := W.heap.size) (cs := #[.int .i64 0, .int .i64 0, .int .i64 0]) (t := 55) (by simp)).cell 1; have z2 : w4.cell? ⟨W.heap.size, 2, none⟩ = some (.int .i64 0) := (LA.out.at (g := W.heap.size) (cs := #[.int .i64 0, .int .i64 0, .int .i64 0]) (t := 55) (by simp)).cell 2;  have r0 : w4.cell? ⟨w.heap.size, 0, none⟩ = some (.int .i64 co) := (LA.out.at (g := w.heap.size) (cs := #[.int .i64 co, .int .i64 sy, .int .i64 la, .int .i64 mo, .slice av qr cv]) (t := 24) (by simp)).cell 0; have r1 : w4.cell? ⟨w.heap.size, 1, none⟩ = some (.int .i64 sy) := (LA.out.at (g := w.heap.size) (cs := #[.int .i64 co, .int .i64 sy, .int .i64 la, .int .i64 mo, .slice av qr cv]) (t := 24) (by simp)).cell 1; have r2 : w4.cell? ⟨w.heap.size, 2, none⟩ = some (.int .i64 la) := (LA.out.at (g := w.heap.size) (cs := #[.int .i64 co, .int .i64 sy, .int .i64 la, .int .i64 mo, .slice av qr cv]) (t := 24) (by simp)).cell 2; have r3 : w4.cell? ⟨w.heap.size, 3, none⟩ = some (.int .i64 mo) := (LA.out.at (g := w.heap.size) (cs := #[.int .i64 co, .int .i64 sy, .int .i64 la, .int .i64 mo, .slice av qr cv]) (t := 24) (by simp)).cell 3; have r4 : w4.cell? ⟨w.heap.size, 4, none⟩ = some (.slice av qr cv) := (LA.out.at (g := w.heap.size) (cs := #[.int .i64 co, .int .i64 sy, .int .i64 la, .int .i64 mo, .slice av qr cv]) (t := 24) (by simp)).cell 4; have s0 : w4.cell? ⟨w.heap.size + 2, 0, none⟩ = some (.int .i64 c) := (LA.out.at (g := w.heap.size + 2) (cs := #[.int .i64 c, .int .i64 d, .int .i64 t, .slice a2 n2 k2]) (t := 34) (by simp)).cell 0; have s1 : w4.cell? ⟨w.heap.size + 2, 1, none⟩ = some (.int .i64 d) := (LA.out.at (g := w.heap.size + 2) (cs := #[.int .i64 c, .int .i64 d, .int .i64 t, .slice a2 n2 k2]) (t := 34) (by simp)).cell 1; have s2 : w4.cell? ⟨w.heap.size + 2, 2, none⟩ = some (.int .i64 t) := (LA.out.at (g := w.heap.size + 2) (cs := #[.int .i64 c, .int .i64 d, .int .i64 t, .slice a2 n2 k2]) (t := 34) (by simp)).cell 2; have LA2 : Hid (Ly w0 [(W.heap.size, #[.int .i64 (c + V), .int .i64 d, .int .i64 t], 55), (w.heap.size + 2, #[.int .i64 c, .int .i64 d, .int .i64 t, .slice a2 n2 k2], 34), (w.heap.size + 1, #[.int .i64 kd, .slice ap np cp], 49), (w.heap.size, #[.int .i64 co, .int .i64 sy, .int .i64 la, .int .i64 mo, .slice av qr cv], 24)] (.slice ad nr cr) us rows (((w4.setCell ⟨W.heap.size, 0, none⟩ (.int .i64 (c + V))).setCell ⟨W.heap.size, 1, none⟩ (.int .i64 d)).setCell ⟨W.heap.size, 2, none⟩ (.int .i64 t))) := Ly.store3 (g := W.heap.size) (t := 55) LA.out (by omega) (fun q hq => by simp at hq; rcases hq with rfl | rfl | rfl <;> (simp only; omega)) _ _ _; have u0 : (((w4.setCell ⟨W.heap.size, 0, none⟩ (.int .i64 (c + V))).setCell ⟨W.heap.size, 1, none⟩ (.int .i64 d)).setCell ⟨W.heap.size, 2, none⟩ (.int .i64 t)).cell? ⟨w.heap.size, 0, none⟩ = some (.int .i64 co) := (LA2.out.at (g := w.heap.size) (cs := #[.int .i64 co, .int .i64 sy, .int .i64 la, .int .i64 mo, .slice av qr cv]) (t := 24) (by simp)).cell 0; have u1 : (((w4.setCell ⟨W.heap.size, 0, none⟩ (.int .i64 (c + V))).setCell ⟨W.heap.size, 1, none⟩ (.int .i64 d)).setCell ⟨W.heap.size, 2, none⟩ (.int .i64 t)).cell? ⟨w.heap.size, 1, none⟩ = some (.int .i64 sy) := (LA2.out.at (g := w.heap.size) (cs := #[.int .i64 co, .int .i64 sy, .int .i64 la, .int .i64 mo, .slice av qr cv]) (t := 24) (by simp)).cell 1; have u2 : (((w4.setCell ⟨W.heap.size, 0, none⟩ (.int .i64 (c + V))).setCell ⟨W.heap.size, 1, none⟩ (.int .i64 d)).setCell ⟨W.heap.size, 2, none⟩ (.int .i64 t)).cell? ⟨w.heap.size, 2, none⟩ = some (.int .i64 la) := (LA2.out.at (g := w.heap.size) (cs := #[.int .i64 co, .int .i64 sy, .int .i64 la, .int .i64 mo, .slice av qr cv]) (t := 24) (by simp)).cell 2; have u3 : (((w4.setCell ⟨W.heap.size, 0, none⟩ (.int .i64 (c + V))).setCell ⟨W.heap.size, 1, none⟩ (.int .i64 d)).setCell ⟨W.heap.size, 2, none⟩ (.int .i64 t)).cell? ⟨w.heap.size, 3, none⟩ = some (.int .i64 mo) := (LA2.out.at (g := w.heap.size) (cs := #[.int .i64 co, .int .i64 sy, .int .i64 la, .int .i64 mo, .slice av qr cv]) (t := 24) (by simp)).cell 3; have u4 : (((w4.setCell ⟨W.heap.size, 0, none⟩ (.int .i64 (c + V))).setCell ⟨W.heap.size, 1, none⟩ (.int .i64 d)).setCell ⟨W.heap.size, 2, none⟩ (.int .i64 t)).cell? ⟨w.heap.size, 4, none⟩ = some (.slice av qr cv) := (LA2.out.at (g := w.heap.size) (cs := #[.int .i64 co, .int .i64 sy, .int .i64 la, .int .i64 mo, .slice av qr cv]) (t := 24) (by simp)).cell 4; have v0 : (((w4.setCell ⟨W.heap.size, 0, none⟩ (.int .i64 (c + V))).setCell ⟨W.heap.size, 1, none⟩ (.int .i64 d)).setCell ⟨W.heap.size, 2, none⟩ (.int .i64 t)).cell? ⟨w.heap.size + 2, 0, none⟩ = some (.int .i64 c) := (LA2.out.at (g := w.heap.size + 2) (cs := #[.int .i64 c, .int .i64 d, .int .i64 t, .slice a2 n2 k2]) (t := 34) (by simp)).cell 0; have v1 : (((w4.setCell ⟨W.heap.size, 0, none⟩ (.int .i64 (c + V))).setCell ⟨W.heap.size, 1, none⟩ (.int .i64 d)).setCell ⟨W.heap.size, 2, none⟩ (.int .i64 t)).cell? ⟨w.heap.size + 2, 1, none⟩ = some (.int .i64 d) := (LA2.out.at (g := w.heap.size + 2) (cs := #[.int .i64 c, .int .i64 d, .int .i64 t, .slice a2 n2 k2]) (t := 34) (by simp)).cell 1; have v2 : (((w4.setCell ⟨W.heap.size, 0, none⟩ (.int .i64 (c + V))).setCell ⟨W.heap.size, 1, none⟩ (.int .i64 d)).setCell ⟨W.heap.size, 2, none⟩ (.int .i64 t)).cell? ⟨w.heap.size + 2, 2, none⟩ = some (.int .i64 t) := (LA2.out.at (g := w.heap.size + 2) (cs := #[.int .i64 c, .int .i64 d, .int .i64 t, .slice a2 n2 k2]) (t := 34) (by simp)).cell 2; clear g4) | (go_at_call 16; refine (HC0.out _ L1.out.drew.bel).mono ?_; rintro e w4 ⟨rfl, g4⟩; have LB : Hid (Ly w0 [(w.heap.size + 2, #[.int .i64 c, .int .i64 d, .int .i64 t, .slice a2 n2 k2], 34), (w.heap.size + 1, #[.int .i64 kd, .slice ap np cp], 49), (w.heap.size, #[.int .i64 co, .int .i64 sy, .int .i64 la, .int .i64 mo, .slice av qr cv], 24)] (.slice ad nr cr) us rows w4) := L1.out.drew.below g4; have S4 : w.heap.size + 2 < w4.heap.size := (LB.out.at (g := w.heap.size + 2) (cs := #[.int .i64 c, .int .i64 d, .int .i64 t, .slice a2 n2 k2]) (t := 34) (by simp)).lt; have r0 : w4.cell? ⟨w.heap.size, 0, none⟩ = some (.int .i64 co) := (LB.out.at (g := w.heap.size) (cs := #[.int .i64 co, .int .i64 sy, .int .i64 la, .int .i64 mo, .slice av qr cv]) (t := 24) (by simp)).cell 0; have r1 : w4.cell? ⟨w.heap.size, 1, none⟩ = some (.int .i64 sy) := (LB.out.at (g := w.heap.size) (cs := #[.int .i64 co, .int .i64 sy, .int .i64 la, .int .i64 mo, .slice av qr cv]) (t := 24) (by simp)).cell 1; have r2 : w4.cell? ⟨w.heap.size, 2, none⟩ = some (.int .i64 la) := (LB.out.at (g := w.heap.size) (cs := #[.int .i64 co, .int .i64 sy, .int .i64 la, .int .i64 mo, .slice av qr cv]) (t := 24) (by simp)).cell 2; have r3 : w4.cell? ⟨w.heap.size, 3, none⟩ = some (.int .i64 mo) := (LB.out.at (g := w.heap.size) (cs := #[.int .i64 co, .int .i64 sy, .int .i64 la, .int .i64 mo, .slice av qr cv]) (t := 24) (by simp)).cell 3; have r4 : w4.cell? ⟨w.heap.size, 4, none⟩ = some (.slice av qr cv) := (LB.out.at (g := w.heap.size) (cs := #[.int .i64 co, .int .i64 sy, .int .i64 la, .int .i64 mo, .slice av qr cv]) (t := 24) (by simp)).cell 4; have s0 : w4.cell? ⟨w.heap.size + 2, 0, none⟩ = some (.int .i64 c) := (LB.out.at (g := w.heap.size + 2) (cs := #[.int .i64 c, .int .i64 d, .int .i64 t, .slice a2 n2 k2]) (t := 34) (by simp)).cell 0; have s1 : w4.cell? ⟨w.heap.size + 2, 1, none⟩ = some (.int .i64 d) := (LB.out.at (g := w.heap.size + 2) (cs := #[.int .i64 c, .int .i64 d, .int .i64 t, .slice a2 n2 k2]) (t := 34) (by simp)).cell 1; have s2 : w4.cell? ⟨w.heap.size + 2, 2, none⟩ = some (.int .i64 t) := (LB.out.at (g := w.heap.size + 2) (cs := #[.int .i64 c, .int .i64 d, .int .i64 t, .slice a2 n2 k2]) (t := 34) (by simp)).cell 2; have LB2 : Hid (Ly w0 [(w4.heap.size, #[.int .i64 (c + V), .int .i64 d, .int .i64 t], 55), (w.heap.size + 2, #[.int .i64 c, .int .i64 d, .int .i64 t, .slice a2 n2 k2], 34), (w.heap.size + 1, #[.int .i64 kd, .slice ap np cp], 49), (w.heap.size, #[.int .i64 co, .int .i64 sy, .int .i64 la, .int .i64 mo, .slice av qr cv], 24)] (.slice ad nr cr) us rows ((((w4.alloc (.cells #[.int .i64 0, .int .i64 0, .int .i64 0] 55)).setCell ⟨w4.heap.size, 0, none⟩ (.int .i64 (c + V))).setCell ⟨w4.heap.size, 1, none⟩ (.int .i64 d)).setCell ⟨w4.heap.size, 2, none⟩ (.int .i64 t))) := Ly.store3 (g := w4.heap.size) (t := 55) (LB.out.alloc #[.int .i64 0, .int .i64 0, .int .i64 0] 55 rfl) (by omega) (fun q hq => by simp at hq; rcases hq with rfl | rfl | rfl <;> (simp only; omega)) _ _ _; have u0 : ((((w4.alloc (.cells #[.int .i64 0, .int .i64 0, .int .i64 0] 55)).setCell ⟨w4.heap.size, 0, none⟩ (.int .i64 (c + V))).setCell ⟨w4.heap.size, 1, none⟩ (.int .i64 d)).setCell ⟨w4.heap.size, 2, none⟩ (.int .i64 t)).cell? ⟨w.heap.size, 0, none⟩ = some (.int .i64 co) := (LB2.out.at (g := w.heap.size) (cs := #[.int .i64 co, .int .i64 sy, .int .i64 la, .int .i64 mo, .slice av qr cv]) (t := 24) (by simp)).cell 0; have u1 : ((((w4.alloc (.cells #[.int .i64 0, .int .i64 0, .int .i64 0] 55)).setCell ⟨w4.heap.size, 0, none⟩ (.int .i64 (c + V))).setCell ⟨w4.heap.size, 1, none⟩ (.int .i64 d)).setCell ⟨w4.heap.size, 2, none⟩ (.int .i64 t)).cell? ⟨w.heap.size, 1, none⟩ = some (.int .i64 sy) := (LB2.out.at (g := w.heap.size) (cs := #[.int .i64 co, .int .i64 sy, .int .i64 la, .int .i64 mo, .slice av qr cv]) (t := 24) (by simp)).cell 1; have u2 : ((((w4.alloc (.cells #[.int .i64 0, .int .i64 0, .int .i64 0] 55)).setCell ⟨w4.heap.size, 0, none⟩ (.int .i64 (c + V))).setCell ⟨w4.heap.size, 1, none⟩ (.int .i64 d)).setCell ⟨w4.heap.size, 2, none⟩ (.int .i64 t)).cell? ⟨w.heap.size, 2, none⟩ = some (.int .i64 la) := (LB2.out.at (g := w.heap.size) (cs := #[.int .i64 co, .int .i64 sy, .int .i64 la, .int .i64 mo, .slice av qr cv]) (t := 24) (by simp)).cell 2; have u3 : ((((w4.alloc (.cells #[.int .i64 0, .int .i64 0, .int .i64 0] 55)).setCell ⟨w4.heap.size, 0, none⟩ (.int .i64 (c + V))).setCell ⟨w4.heap.size, 1, none⟩ (.int .i64 d)).setCell ⟨w4.heap.size, 2, none⟩ (.int .i64 t)).cell? ⟨w.heap.size, 3, none⟩ = some (.int .i64 mo) := (LB2.out.at (g := w.heap.size) (cs := #[.int .i64 co, .int .i64 sy, .int .i64 la, .int .i64 mo, .slice av qr cv]) (t := 24) (by simp)).cell 3; have u4 : ((((w4.alloc (.cells #[.int .i64 0, .int .i64 0, .int .i64 0] 55)).setCell ⟨w4.heap.size, 0, none⟩ (.int .i64 (c + V))).setCell ⟨w4.heap.size, 1, none⟩ (.int .i64 d)).setCell ⟨w4.heap.size, 2, none⟩ (.int .i64 t)).cell? ⟨w.heap.size, 4, none⟩ = some (.slice av qr cv) := (LB2.out.at (g := w.heap.size) (cs := #[.int .i64 co, .int .i64 sy, .int .i64 la, .int .i64 mo, .slice av qr cv]) (t := 24) (by simp)).cell 4; have v0 : ((((w4.alloc (.cells #[.int .i64 0, .int .i64 0, .int .i64 0] 55)).setCell ⟨w4.heap.size, 0, none⟩ (.int .i64 (c + V))).setCell ⟨w4.heap.size, 1, none⟩ (.int .i64 d)).setCell ⟨w4.heap.size, 2, none⟩ (.int .i64 t)).cell? ⟨w.heap.size + 2, 0, none⟩ = some (.int .i64 c) := (LB2.out.at (g := w.heap.size + 2) (cs := #[.int .i64 c, .int .i64 d, .int .i64 t, .slice a2 n2 k2]) (t := 34) (by simp)).cell 0; have v1 : ((((w4.alloc (.cells #[.int .i64 0, .int .i64 0, .int .i64 0] 55)).setCell ⟨w4.heap.size, 0, none⟩ (.int .i64 (c + V))).setCell ⟨w4.heap.size, 1, none⟩ (.int .i64 d)).setCell ⟨w4.heap.size, 2, none⟩ (.int .i64 t)).cell? ⟨w.heap.size + 2, 1, none⟩ = some (.int .i64 d) := (LB2.out.at (g := w.heap.size + 2) (cs := #[.int .i64 c, .int .i64 d, .int .i64 t, .slice a2 n2 k2]) (t := 34) (by simp)).cell 1; have v2 : ((((w4.alloc (.cells #[.int .i64 0, .int .i64 0, .int .i64 0] 55)).setCell ⟨w4.heap.size, 0, none⟩ (.int .i64 (c + V))).setCell ⟨w4.heap.size, 1, none⟩ (.int .i64 d)).setCell ⟨w4.heap.size, 2, none⟩ (.int .i64 t)).cell? ⟨w.heap.size + 2, 2, none⟩ = some (.int .i64 t) := (LB2.out.at (g := w.heap.size + 2) (cs := #[.int .i64 c, .int .i64 d, .int .i64 t, .slice a2 n2 k2]) (t := 34) (by simp)).cell 2; clear g4))
    all_goals go_wp2_with fail
    all_goals go_meet
    · exact ⟨_, rfl, S4, LB.out.alloc #[.int .i64 (c + V), .int .i64 d, .int .i64 t] 55 rfl⟩
    · exact ⟨_, rfl, sW, LA2.out⟩
  case rest =>
    obtain ⟨gw, rfl, hgw, l2⟩ := hcut
    have L2 : Hid (Ly w0 [(gw, #[.int .i64 (c + V), .int .i64 d, .int .i64 t], 55), (w.heap.size + 2, #[.int .i64 c, .int .i64 d, .int .i64 t, .slice a2 n2 k2], 34), (w.heap.size + 1, #[.int .i64 kd, .slice ap np cp], 49), (w.heap.size, #[.int .i64 co, .int .i64 sy, .int .i64 la, .int .i64 mo, .slice av qr cv], 24)] (.slice ad nr cr) us rows wc) := l2
    clear l2
    have p1 : wc.cell? ⟨w.heap.size + 1, 1, none⟩ = some (.slice ap np cp) := (L2.out.at (g := w.heap.size + 1) (cs := #[.int .i64 kd, .slice ap np cp]) (t := 49) (by simp)).cell 1
    clear L1 c0 c1 c2 c3 c4 t0 t1 t2 W1 HC0
    go_wp2_with fail
    go_loopw [34] (fun i2 wr => ∃ (j : Nat) (us2 : List Value), j ≤ np ∧ i2 = .int .i64 j ∧ Hid (Ly w0 [(gw, #[.int .i64 (c + V), .int .i64 d, .int .i64 t], 55), (w.heap.size + 2, #[.int .i64 c, .int .i64 d, .int .i64 t, .slice a2 n2 k2], 34), (w.heap.size + 1, #[.int .i64 kd, .slice ap np cp], 49), (w.heap.size, #[.int .i64 co, .int .i64 sy, .int .i64 la, .int .i64 mo, .slice av qr cv], 24)] (.slice ad nr cr) us2 (layL ⟨c, d, t, .slice a2 n2 k2, xm⟩ V kd rows (m.take j)) wr)) (fun i2 _ => np - (intOf i2).toNat)
    case atStart => exact ⟨0, us, Nat.zero_le _, rfl, by rw [List.take_zero]; exact L2.out⟩
    case round =>
      obtain ⟨j, us2, hj, rfl, l3⟩ := hrel
      have L3 : Hid (Ly w0 [(gw, #[.int .i64 (c + V), .int .i64 d, .int .i64 t], 55), (w.heap.size + 2, #[.int .i64 c, .int .i64 d, .int .i64 t, .slice a2 n2 k2], 34), (w.heap.size + 1, #[.int .i64 kd, .slice ap np cp], 49), (w.heap.size, #[.int .i64 co, .int .i64 sy, .int .i64 la, .int .i64 mo, .slice av qr cv], 24)] (.slice ad nr cr) us2 (layL ⟨c, d, t, .slice a2 n2 k2, xm⟩ V kd rows (m.take j)) wr) := l3
      clear l3 p1
      by_cases hlt : j < np
      · obtain ⟨⟨pq, po, pl, pc⟩, hx⟩ : ∃ x, m[j]? = some x := ⟨_, List.getElem?_eq_getElem (by rw [HNP.out]; exact hlt)⟩
        obtain ⟨q0, q1⟩ := onB_all HON.out _ (List.mem_of_getElem? hx)
        simp only at q0 q1
        obtain ⟨q, rfl⟩ : ∃ q : Nat, pq = q := ⟨pq.toNat, by omega⟩
        have HXP : Hid (m[j]? = some ⟨q, po, pl, pc⟩) := hx
        obtain ⟨b3, o3, e3, hb3, z0, z1, z2, z3⟩ := (HP.out.below L3.out.bel).at hx
        subst e3
        simp only at z0 z1 z2 z3
        clear hx
        have hqr : q < rows.length := by omega
        have hlr : (layL ⟨c, d, t, .slice a2 n2 k2, xm⟩ V kd rows (m.take j)).length = rows.length := layL_length _ _ _ _ _
        have hus := L3.out.own.len
        obtain ⟨lr, hlr2⟩ : ∃ lr, (layL ⟨c, d, t, .slice a2 n2 k2, xm⟩ V kd rows (m.take j))[q]? = some lr := ⟨_, List.getElem?_eq_getElem (by omega)⟩
        obtain ⟨uq, hu2⟩ : ∃ uq, us2[q]? = some uq := ⟨_, List.getElem?_eq_getElem (by omega)⟩
        have HLR : Hid ((layL ⟨c, d, t, .slice a2 n2 k2, xm⟩ V kd rows (m.take j))[q]? = some lr) := hlr2
        have HUQ : Hid (us2[q]? = some uq) := hu2
        have hlen : lr.length ≤ R + 1000 := by
          have := lay_len ⟨c, d, t, .slice a2 n2 k2, xm⟩ V kd R (m.take j) rows HR.out lr (List.mem_of_getElem? hlr2)
          rw [List.length_take] at this
          omega
        obtain ⟨g, cur, ead, hg0, -, ncr, ncr2, -, -⟩ := (L3.out.own.at (by omega)).2
        subst ead
        obtain ⟨au, cu, eu⟩ := (L3.out.own.row q uq lr hu2 hlr2).form
        subst eu
        have hnr2 : us2.length = nr := by omega
        have e0 : (0 : Int) ≤ (q : Int) := by omega
        have e1 : (q : Int) < (nr : Int) := by omega
        have e2 : (nr : Int) ≤ (cr : Int) := by omega
        clear hlr2 hu2 hlr hus
        have L4 : Hid (Ly w0 [(wr.heap.size + 1, #[.int .i64 (c + V), .int .i64 d, .int .i64 t], 55), (wr.heap.size, #[.int .i64 (q : Nat), .int .i64 po, .int .i64 pl, .int .i64 pc], 60), (gw, #[.int .i64 (c + V), .int .i64 d, .int .i64 t], 55), (w.heap.size + 2, #[.int .i64 c, .int .i64 d, .int .i64 t, .slice a2 n2 k2], 34), (w.heap.size + 1, #[.int .i64 kd, .slice (some ⟨b3, o3, none⟩) np cp], 49), (w.heap.size, #[.int .i64 co, .int .i64 sy, .int .i64 la, .int .i64 mo, .slice av qr cv], 24)] (.slice (some ⟨g, 0, none⟩) nr cr) us2 (layL ⟨c, d, t, .slice a2 n2 k2, xm⟩ V kd rows (m.take j)) ((wr.alloc (.cells #[.int .i64 (q : Nat), .int .i64 po, .int .i64 pl, .int .i64 pc] 60)).alloc (.cells #[.int .i64 (c + V), .int .i64 d, .int .i64 t] 55))) := (L3.out.alloc #[.int .i64 (q : Nat), .int .i64 po, .int .i64 pl, .int .i64 pc] 60 rfl).alloc #[.int .i64 (c + V), .int .i64 d, .int .i64 t] 55 (by simp)
        have w0' : wr.cell? ⟨gw, 0, none⟩ = some (.int .i64 (c + V)) := (L3.out.at (g := gw) (cs := #[.int .i64 (c + V), .int .i64 d, .int .i64 t]) (t := 55) (by simp)).cell 0
        have w1' : wr.cell? ⟨gw, 1, none⟩ = some (.int .i64 d) := (L3.out.at (g := gw) (cs := #[.int .i64 (c + V), .int .i64 d, .int .i64 t]) (t := 55) (by simp)).cell 1
        have w2' : wr.cell? ⟨gw, 2, none⟩ = some (.int .i64 t) := (L3.out.at (g := gw) (cs := #[.int .i64 (c + V), .int .i64 d, .int .i64 t]) (t := 55) (by simp)).cell 2
        have hgr : gw < wr.heap.size := (L3.out.at (g := gw) (cs := #[.int .i64 (c + V), .int .i64 d, .int .i64 t]) (t := 55) (by simp)).lt
        go_upto_region 7 with fail
        generalize hW5 : (wr.alloc _).alloc _ = W5 at L4 ⊢
        clear hW5 z0 z1 z2 z3 w0' w1' w2'
        obtain ⟨⟨s1, s2, s3⟩, hs⟩ : ∃ s, askOf ⟨c, d, t, .slice a2 n2 k2, xm⟩ V kd ⟨q, po, pl, pc⟩ = s := ⟨_, rfl⟩
        have HS : Hid (askOf ⟨c, d, t, .slice a2 n2 k2, xm⟩ V kd ⟨q, po, pl, pc⟩ = ⟨s1, s2, s3⟩) := hs
        have p0' : W5.cell? ⟨w.heap.size + 1, 0, none⟩ = some (.int .i64 kd) := (L4.out.at (g := w.heap.size + 1) (cs := #[.int .i64 kd, .slice (some ⟨b3, o3, none⟩) np cp]) (t := 49) (by simp)).cell 0
        go_upto_if 41 with fail
        go_cut [] from 42 to 48 (fun wx => Hid (Ly w0 [(wr.heap.size + 1, #[.int .i64 s1, .int .i64 s2, .int .i64 s3], 55), (wr.heap.size, #[.int .i64 (q : Nat), .int .i64 po, .int .i64 pl, .int .i64 pc], 60), (gw, #[.int .i64 (c + V), .int .i64 d, .int .i64 t], 55), (w.heap.size + 2, #[.int .i64 c, .int .i64 d, .int .i64 t, .slice a2 n2 k2], 34), (w.heap.size + 1, #[.int .i64 kd, .slice (some ⟨b3, o3, none⟩) np cp], 49), (w.heap.size, #[.int .i64 co, .int .i64 sy, .int .i64 la, .int .i64 mo, .slice av qr cv], 24)] (.slice (some ⟨g, 0, none⟩) nr cr) us2 (layL ⟨c, d, t, .slice a2 n2 k2, xm⟩ V kd rows (m.take j)) wx))
        case first =>
          unfold askOf at hs
          by_cases hk : kd = 1
          · rw [if_pos hk] at hs
            simp only [Sec.mk.injEq] at hs
            obtain ⟨rfl, rfl, rfl⟩ := hs
            have hk2 : (kd != 1) = false := by simp [hk]
            go_wp2_with fail
            go_meet
            exact L4.out
          · rw [if_neg hk] at hs
            simp only [Sec.mk.injEq] at hs
            obtain ⟨rfl, rfl, rfl⟩ := hs
            have hk2 : (kd != 1) = true := by simp [hk]
            have t2' : W5.cell? ⟨w.heap.size + 2, 2, none⟩ = some (.int .i64 t) := (L4.out.at (g := w.heap.size + 2) (cs := #[.int .i64 c, .int .i64 d, .int .i64 t, .slice a2 n2 k2]) (t := 34) (by simp)).cell 2
            have z0 : W5.cell? ⟨wr.heap.size, 0, none⟩ = some (.int .i64 (q : Nat)) := (L4.out.at (g := wr.heap.size) (cs := #[.int .i64 (q : Nat), .int .i64 po, .int .i64 pl, .int .i64 pc]) (t := 60) (by simp)).cell 0
            have z1 : W5.cell? ⟨wr.heap.size, 1, none⟩ = some (.int .i64 po) := (L4.out.at (g := wr.heap.size) (cs := #[.int .i64 (q : Nat), .int .i64 po, .int .i64 pl, .int .i64 pc]) (t := 60) (by simp)).cell 1
            have z2 : W5.cell? ⟨wr.heap.size, 2, none⟩ = some (.int .i64 pl) := (L4.out.at (g := wr.heap.size) (cs := #[.int .i64 (q : Nat), .int .i64 po, .int .i64 pl, .int .i64 pc]) (t := 60) (by simp)).cell 2
            have z3 : W5.cell? ⟨wr.heap.size, 3, none⟩ = some (.int .i64 pc) := (L4.out.at (g := wr.heap.size) (cs := #[.int .i64 (q : Nat), .int .i64 po, .int .i64 pl, .int .i64 pc]) (t := 60) (by simp)).cell 3
            have y0 : W5.cell? ⟨wr.heap.size + 1, 0, none⟩ = some (.int .i64 (c + V)) := (L4.out.at (g := wr.heap.size + 1) (cs := #[.int .i64 (c + V), .int .i64 d, .int .i64 t]) (t := 55) (by simp)).cell 0
            have y1 : W5.cell? ⟨wr.heap.size + 1, 1, none⟩ = some (.int .i64 d) := (L4.out.at (g := wr.heap.size + 1) (cs := #[.int .i64 (c + V), .int .i64 d, .int .i64 t]) (t := 55) (by simp)).cell 1
            have y2 : W5.cell? ⟨wr.heap.size + 1, 2, none⟩ = some (.int .i64 t) := (L4.out.at (g := wr.heap.size + 1) (cs := #[.int .i64 (c + V), .int .i64 d, .int .i64 t]) (t := 55) (by simp)).cell 2
            have fz : ∀ i, W5.frozen? ⟨wr.heap.size + 1, i, none⟩ = false := (L4.out.at (g := wr.heap.size + 1) (cs := #[.int .i64 (c + V), .int .i64 d, .int .i64 t]) (t := 55) (by simp)).frozen
            have f0 := fz 0
            have f1 := fz 1
            have f2 := fz 2
            clear fz
            go_wp2_with fail
            go_meet
            exact Ly.store3 (g := wr.heap.size + 1) L4.out (by omega) (fun x hx => by simp only [List.mem_cons, List.not_mem_nil, or_false] at hx; rcases hx with rfl | rfl | rfl | rfl | rfl <;> (simp only; omega)) _ _ _
        case rest =>
          have L6 : Hid (Ly w0 [(wr.heap.size + 1, #[.int .i64 s1, .int .i64 s2, .int .i64 s3], 55), (wr.heap.size, #[.int .i64 (q : Nat), .int .i64 po, .int .i64 pl, .int .i64 pc], 60), (gw, #[.int .i64 (c + V), .int .i64 d, .int .i64 t], 55), (w.heap.size + 2, #[.int .i64 c, .int .i64 d, .int .i64 t, .slice a2 n2 k2], 34), (w.heap.size + 1, #[.int .i64 kd, .slice (some ⟨b3, o3, none⟩) np cp], 49), (w.heap.size, #[.int .i64 co, .int .i64 sy, .int .i64 la, .int .i64 mo, .slice av qr cv], 24)] (.slice (some ⟨g, 0, none⟩) nr cr) us2 (layL ⟨c, d, t, .slice a2 n2 k2, xm⟩ V kd rows (m.take j)) wc.drew) := Ly.drew hcut
          clear hcut L4 hs
          go_upto_region 9 with fail
          refine wp_region_noPanic (wp_region_runsZ (S := (fun w' => w'.cell? ⟨wr.heap.size, 0, none⟩ = some (.int .i64 (q : Nat)) ∧ w'.cell? ⟨g, q, none⟩ = some (.slice au lr.length cu) ∧ w'.cell? ⟨wr.heap.size + 1, 0, none⟩ = some (.int .i64 s1) ∧ w'.cell? ⟨wr.heap.size + 1, 1, none⟩ = some (.int .i64 s2) ∧ w'.cell? ⟨wr.heap.size + 1, 2, none⟩ = some (.int .i64 s3))) (Z := [12]) (by kernel_rfl) ?_)
          have hS0 : (fun w' => w'.cell? ⟨wr.heap.size, 0, none⟩ = some (.int .i64 (q : Nat)) ∧ w'.cell? ⟨g, q, none⟩ = some (.slice au lr.length cu) ∧ w'.cell? ⟨wr.heap.size + 1, 0, none⟩ = some (.int .i64 s1) ∧ w'.cell? ⟨wr.heap.size + 1, 1, none⟩ = some (.int .i64 s2) ∧ w'.cell? ⟨wr.heap.size + 1, 2, none⟩ = some (.int .i64 s3)) wc.drew := ⟨(L6.out.at (g := wr.heap.size) (cs := #[.int .i64 (q : Nat), .int .i64 po, .int .i64 pl, .int .i64 pc]) (t := 60) (by simp)).cell 0, (L6.out.own.cell HUQ.out).1, (L6.out.at (g := wr.heap.size + 1) (cs := #[.int .i64 s1, .int .i64 s2, .int .i64 s3]) (t := 55) (by simp)).cell 0, (L6.out.at (g := wr.heap.size + 1) (cs := #[.int .i64 s1, .int .i64 s2, .int .i64 s3]) (t := 55) (by simp)).cell 1, (L6.out.at (g := wr.heap.size + 1) (cs := #[.int .i64 s1, .int .i64 s2, .int .i64 s3]) (t := 55) (by simp)).cell 2⟩
          generalize wc.drew = u0 at L6 hS0 ⊢
          refine RunsZ.take 12 (i := 0) (v := ?v0) (nth_z rfl) (by kernel_rfl) (by kernel_rfl) (by kernel_rfl) (by kernel_rfl) (by kernel_rfl) (fun _ _ _ h => h) (Or.inl ⟨by rfl, ?y0⟩) hS0 ?_
          case y0 =>
            intro u hu
            try dsimp only at hu
            go_split_ands
            go_simp
            try with_reducible rfl
          simp only [Act.put, List.setIfInBounds_toArray, List.set_cons_zero, List.set_cons_succ]
          refine RunsZ.take 12 (i := 1) (v := ?v1) (nth_z rfl) (by kernel_rfl) (by kernel_rfl) (by kernel_rfl) (by kernel_rfl) (by kernel_rfl) (fun _ _ _ h => h) (Or.inl ⟨by rfl, ?y1⟩) hS0 ?_
          case y1 =>
            intro u hu
            try dsimp only at hu
            go_split_ands
            go_simp
            try with_reducible rfl
          simp only [Act.put, List.setIfInBounds_toArray, List.set_cons_zero, List.set_cons_succ]
          refine RunsZ.take 12 (i := 2) (v := ?v2) (nth_z rfl) (by kernel_rfl) (by kernel_rfl) (by kernel_rfl) (by kernel_rfl) (by kernel_rfl) (fun _ _ _ h => h) (Or.inl ⟨by rfl, ?y2⟩) hS0 ?_
          case y2 =>
            intro u hu
            try dsimp only at hu
            go_split_ands
            go_simp
            try with_reducible rfl
          simp only [Act.put, List.setIfInBounds_toArray, List.set_cons_zero, List.set_cons_succ]
          refine RunsZ.take 12 (i := 3) (v := ?v3) (nth_z rfl) (by kernel_rfl) (by kernel_rfl) (by kernel_rfl) (by kernel_rfl) (by kernel_rfl) (fun _ _ _ h => h) (Or.inl ⟨by rfl, ?y3⟩) hS0 ?_
          case y3 =>
            intro u hu
            try dsimp only at hu
            go_split_ands
            go_simp
            try with_reducible rfl
          simp only [Act.put, List.setIfInBounds_toArray, List.set_cons_zero, List.set_cons_succ]
          refine RunsZ.take 12 (i := 4) (v := ?v4) (nth_z rfl) (by kernel_rfl) (by kernel_rfl) (by kernel_rfl) (by kernel_rfl) (by kernel_rfl) (fun _ _ _ h => h) (Or.inl ⟨by rfl, ?y4⟩) hS0 ?_
          case y4 =>
            intro u hu
            try dsimp only at hu
            go_split_ands
            go_simp
            try with_reducible rfl
          simp only [Act.put, List.setIfInBounds_toArray, List.set_cons_zero, List.set_cons_succ]
          refine RunsZ.take 12 (i := 5) (v := ?v5) (nth_z rfl) (by kernel_rfl) (by kernel_rfl) (by kernel_rfl) (by kernel_rfl) (by kernel_rfl) (fun _ _ _ h => h) (Or.inl ⟨by rfl, ?y5⟩) hS0 ?_
          case y5 =>
            intro u hu
            try dsimp only at hu
            go_split_ands
            go_simp
            try with_reducible rfl
          simp only [Act.put, List.setIfInBounds_toArray, List.set_cons_zero, List.set_cons_succ]
          refine RunsZ.take 12 (i := 6) (v := ?v6) (nth_z rfl) (by kernel_rfl) (by kernel_rfl) (by kernel_rfl) (by kernel_rfl) (by kernel_rfl) (fun _ _ _ h => h) (Or.inl ⟨by rfl, ?y6⟩) hS0 ?_
          case y6 =>
            intro u hu
            try dsimp only at hu
            go_split_ands
            go_simp
            try with_reducible rfl
          simp only [Act.put, List.setIfInBounds_toArray, List.set_cons_zero, List.set_cons_succ]
          refine RunsZ.take 12 (i := 7) (v := ?v7) (nth_z rfl) (by kernel_rfl) (by kernel_rfl) (by kernel_rfl) (by kernel_rfl) (by kernel_rfl) (fun _ _ _ h => h) (Or.inl ⟨by rfl, ?y7⟩) hS0 ?_
          case y7 =>
            intro u hu
            try dsimp only at hu
            go_split_ands
            go_simp
            try with_reducible rfl
          simp only [Act.put, List.setIfInBounds_toArray, List.set_cons_zero, List.set_cons_succ]
          refine RunsZ.take 12 (i := 8) (v := ?v8) (nth_z rfl) (by kernel_rfl) (by kernel_rfl) (by kernel_rfl) (by kernel_rfl) (by kernel_rfl) (fun _ _ _ h => h) (Or.inl ⟨by rfl, ?y8⟩) hS0 ?_
          case y8 =>
            intro u hu
            try dsimp only at hu
            go_split_ands
            go_simp
            try with_reducible rfl
          simp only [Act.put, List.setIfInBounds_toArray, List.set_cons_zero, List.set_cons_succ]
          have L7 : Hid (Ly w0 [(wr.heap.size + 1, #[.int .i64 s1, .int .i64 s2, .int .i64 s3], 55), (wr.heap.size, #[.int .i64 (q : Nat), .int .i64 po, .int .i64 pl, .int .i64 pc], 60), (gw, #[.int .i64 (c + V), .int .i64 d, .int .i64 t], 55), (w.heap.size + 2, #[.int .i64 c, .int .i64 d, .int .i64 t, .slice a2 n2 k2], 34), (w.heap.size + 1, #[.int .i64 kd, .slice (some ⟨b3, o3, none⟩) np cp], 49), (w.heap.size, #[.int .i64 co, .int .i64 sy, .int .i64 la, .int .i64 mo, .slice av qr cv], 24)] (.slice (some ⟨g, 0, none⟩) nr cr) us2 (layL ⟨c, d, t, .slice a2 n2 k2, xm⟩ V kd rows (m.take j)) (u0.alloc (.cells #[.int .i64 s1, .int .i64 s2, .int .i64 s3] 55))) := L6.out.below (balloc _ _)
          have hS1 : (fun w' => w'.cell? ⟨wr.heap.size, 0, none⟩ = some (.int .i64 (q : Nat)) ∧ w'.cell? ⟨g, q, none⟩ = some (.slice au lr.length cu) ∧ w'.cell? ⟨wr.heap.size + 1, 0, none⟩ = some (.int .i64 s1) ∧ w'.cell? ⟨wr.heap.size + 1, 1, none⟩ = some (.int .i64 s2) ∧ w'.cell? ⟨wr.heap.size + 1, 2, none⟩ = some (.int .i64 s3)) (u0.alloc (.cells #[.int .i64 s1, .int .i64 s2, .int .i64 s3] 55)) := ⟨(L7.out.at (g := wr.heap.size) (cs := #[.int .i64 (q : Nat), .int .i64 po, .int .i64 pl, .int .i64 pc]) (t := 60) (by simp)).cell 0, (L7.out.own.cell HUQ.out).1, (L7.out.at (g := wr.heap.size + 1) (cs := #[.int .i64 s1, .int .i64 s2, .int .i64 s3]) (t := 55) (by simp)).cell 0, (L7.out.at (g := wr.heap.size + 1) (cs := #[.int .i64 s1, .int .i64 s2, .int .i64 s3]) (t := 55) (by simp)).cell 1, (L7.out.at (g := wr.heap.size + 1) (cs := #[.int .i64 s1, .int .i64 s2, .int .i64 s3]) (t := 55) (by simp)).cell 2⟩
          refine RunsZ.one (i := 9) (by kernel_rfl) (nth_z rfl) (by rfl) (fun K hK => ?_)
          go_simp
          refine hK.out _ _ (fun _ => hS1) ?_
          clear hK K
          try simp only [Act.put, List.setIfInBounds_toArray, List.set_cons_zero, List.set_cons_succ]
          have O6 := L7.out.own.row q _ lr HUQ.out HLR.out
          have su0 := L6.out.bel.size
          refine RunsZ.one (i := 10) (by kernel_rfl) (nth_z rfl) (by rfl) (fun K hK => ?_)
          refine wp_append_at (u0.alloc (.cells #[.int .i64 s1, .int .i64 s2, .int .i64 s3] 55)) (.tmp 56) (.tmp 58) 51 (by rfl) w0.heap.size 55 i0 _ 3 24 Tryz.underlying51 hi0 hz0 hz1 hz2 rfl (by omega) (.slice au lr.length cu) lr.length (secC lr) (by rfl) O6 ⟨u0.heap.size, 0, none⟩ 1 1 [.int .i64 s1, .int .i64 s2, .int .i64 s3] (by rfl) rfl (cell_three _ _ _ _ _) (by intro u hu; simp at hu; rcases hu with rfl | rfl | rfl <;> rfl) (by unfold maxLen; omega) (by omega) (by simp; omega) ?_
          intro u7 w7 own7 gr7 at7
          have hown7 : OwnL w7 w0.heap.size u7 (lr ++ [⟨s1, s2, s3⟩]) := by unfold OwnL; rw [List.length_append, secC_append]; exact own7
          obtain ⟨h70, h71, h72⟩ := L6.out.kept HUQ.out HLR.out gr7
          have K1 := L6.out.keptB HUQ.out gr7 (x := wr.heap.size) (cs := #[.int .i64 (q : Nat), .int .i64 po, .int .i64 pl, .int .i64 pc]) (t := 60) (by simp)
          have K2 := L6.out.keptB HUQ.out gr7 (x := wr.heap.size + 1) (cs := #[.int .i64 s1, .int .i64 s2, .int .i64 s3]) (t := 55) (by simp)
          have hS2 : (fun w' => w'.cell? ⟨wr.heap.size, 0, none⟩ = some (.int .i64 (q : Nat)) ∧ w'.cell? ⟨g, q, none⟩ = some (.slice au lr.length cu) ∧ w'.cell? ⟨wr.heap.size + 1, 0, none⟩ = some (.int .i64 s1) ∧ w'.cell? ⟨wr.heap.size + 1, 1, none⟩ = some (.int .i64 s2) ∧ w'.cell? ⟨wr.heap.size + 1, 2, none⟩ = some (.int .i64 s3)) w7 := ⟨K1.cell 0, h70, K2.cell 0, K2.cell 1, K2.cell 2⟩
          have L8 : Hid (Ly w0 [(wr.heap.size + 1, #[.int .i64 s1, .int .i64 s2, .int .i64 s3], 55), (wr.heap.size, #[.int .i64 (q : Nat), .int .i64 po, .int .i64 pl, .int .i64 pc], 60), (gw, #[.int .i64 (c + V), .int .i64 d, .int .i64 t], 55), (w.heap.size + 2, #[.int .i64 c, .int .i64 d, .int .i64 t, .slice a2 n2 k2], 34), (w.heap.size + 1, #[.int .i64 kd, .slice (some ⟨b3, o3, none⟩) np cp], 49), (w.heap.size, #[.int .i64 co, .int .i64 sy, .int .i64 la, .int .i64 mo, .slice av qr cv], 24)] (.slice (some ⟨g, 0, none⟩) nr cr) (us2.set q u7) (((layL ⟨c, d, t, .slice a2 n2 k2, xm⟩ V kd rows (m.take j))).set q (lr ++ [⟨s1, s2, s3⟩])) (w7.setCell ⟨g, q, none⟩ u7)) := L6.out.put HUQ.out HLR.out hown7 gr7 (at7.imp id (fun e => ⟨_, e, by simp⟩))
          obtain ⟨a7, c7, e7⟩ := own_form own7
          subst e7
          clear own7 gr7 at7 hown7 K1 K2
          refine hK.out _ _ (fun _ => hS2) ?_
          clear hK K hS0 hS1
          try simp only [Act.put, List.setIfInBounds_toArray, List.set_cons_zero, List.set_cons_succ]
          refine RunsZ.take 12 (i := 11) (v := ?v11) (nth_z rfl) (by kernel_rfl) (by kernel_rfl) (by kernel_rfl) (by kernel_rfl) (by kernel_rfl) (fun _ _ _ h => h) (Or.inl ⟨by rfl, ?y11⟩) hS2 ?_
          case y11 =>
            intro u hu
            try dsimp only at hu
            go_split_ands
            go_simp
            try with_reducible rfl
          simp only [Act.put, List.setIfInBounds_toArray, List.set_cons_zero, List.set_cons_succ]
          refine RunsZ.one (i := 12) (by kernel_rfl) (nth_z rfl) (by rfl) (fun K hK => ?_)
          go_simp
          refine hK.out _ _ (fun h => absurd (by decide) h) ?_
          clear hK K
          try simp only [Act.put, List.setIfInBounds_toArray, List.set_cons_zero, List.set_cons_succ]
          refine RunsZ.done (by kernel_rfl) (NoPanic.normal ?_)
          go_wp2_with fail
          go_round
          case rel => exact ⟨j + 1, _, by omega, by go_num, by rw [layL_take _ _ _ HXP.out, HS.out, show (⟨(q : Int), po, pl, pc⟩ : Pc).core.toNat = q from Int.toNat_natCast q, addAt_set HLR.out]; exact L8.out.sub (fun x hx => List.mem_cons_of_mem _ (List.mem_cons_of_mem _ hx))⟩
          case measure => simp [intOf]; omega
      · have e : m.take j = m := List.take_of_length_le (by have := HNP.out; omega)
        rw [e] at L3
        clear e
        go_wp2_with fail
        go_end0
        exact ⟨rfl, ⟨_, L3.out.own⟩, L3.out.bel⟩
end Go.Proofs.YtakdliecjfeedaaGreatDoor

/- The contracts of load.Of and load.All. -/
namespace Go.Proofs.YtakdliecjfeedaaGreatDoor
open Go Go.RowKit

theorem blk_twoC (w : World) (a b : Array Value) (s t : TypeId) : Blk ((w.alloc (.cells a s)).alloc (.cells b t)) w.heap.size a s ∧ Blk ((w.alloc (.cells a s)).alloc (.cells b t)) (w.heap.size + 1) b t :=
  ⟨(show Blk (w.alloc (.cells a s)) w.heap.size a s from heap_alloc_new _ _).below (balloc _ _), blkTwo _ _ _ _⟩
theorem infoR : (Tryz.prog.info? 51).map (fun i => (i.zero, i.size, i.bytes)) = some (some (.slice none 0 0), 1, 24) := by kernel_rfl
theorem mkR (N : Nat) (hN : N ≤ 1000) (w : World) : (Instr.makeSlice 43 (.int .i64 (N : Int)) (.int .i64 (N : Int))).run Tryz.prog w = .ok (.slice (some ⟨w.heap.size, 0, none⟩) N N) (w.alloc (.cells (Array.replicate N (.slice none 0 0)) 51)) := by
  obtain ⟨i0, hi0, hz0, hz1, hz2⟩ := info_parts infoR
  have h := run_makeSlice (P := Tryz.prog) w 43 51 i0 (.slice none 0 0) Tryz.underlying43 hi0 hz0 .i64 .i64 (N : Int) (N : Int) (by omega) (by omega) (by rw [hz1]; simp; omega) (by rw [hz2]; omega) (by omega)
  rw [hz1] at h
  have e : madeCells (Value.cells (.slice none 0 0)) (N * 1) = Array.replicate N (.slice none 0 0) := by
    have := toList_madeCells_one (.slice none 0 0) N
    apply Array.toList_inj.1
    rw [Nat.mul_one]
    show (madeCells #[.slice none 0 0] N).toList = _
    rw [this]
    simp
  simp only [Int.toNat_natCast] at h
  rw [e] at h
  exact h
theorem lay_made {w0 W : World} (g : Below w0.heap.size w0 W) (N : Nat) (hN : N ≤ 1000) : Lay w0 (.slice (some ⟨W.heap.size, 0, none⟩) N N) (List.replicate N []) (W.alloc (.cells (Array.replicate N (.slice none 0 0)) 51)) :=
  ⟨⟨_, ownR_made g.size N hN⟩, btrans g (balloc _ _)⟩
theorem Lay.mono {w0 w1 w : World} {v : Value} {rows : List (List Sec)} (h : Lay w1 v rows w) (g : Below w0.heap.size w0 w1) : Lay w0 v rows w := by
  obtain ⟨us, h1⟩ := h.own
  exact ⟨⟨us, h1.mono g.size⟩, btrans g h.bel⟩
theorem all_len (la : Int) (res : List Int) (l : List TV) (ps : List PV) (N : Nat) (hp : ∀ p ∈ ps, p.m.length ≤ 1000) (n : Nat) : ∀ r ∈ allL la res l ps (List.replicate N []) n, r.length ≤ 1000 * n := by
  induction n with
  | zero => intro r hr; simp only [allL] at hr; rw [List.eq_of_mem_replicate hr]; simp
  | succ n ih =>
    intro r hr
    simp only [allL] at hr
    split at hr
    · rename_i x p hx hq
      have := lay_len _ _ _ _ _ _ ih r hr
      have := hp p (List.mem_of_getElem? hq)
      omega
    · have := ih r hr
      omega
set_option maxHeartbeats 16000000 in
set_option maxRecDepth 100000 in
theorem lall_any (co sy la mo : Int) (v : Value) (res : List Int) (a : Option Addr) (n cap : Nat) (l : List TV) (pa : Option Addr) (pcap : Nat) (ps : List PV) (N : Nat) (w : World)
    (hv : Ints w v res) (hr : res.length ≤ 1000000) (hc : cfgB ⟨co, sy, la, mo, res⟩ = true) (hl : Tks w (.slice a n cap) l) (hn : l.length = n) (hm : mayV res.length l = true)
    (hp : Plns w (.slice pa n pcap) ps) (hpn : ps.length = n) (hpm : ∀ p ∈ ps, p.m.length ≤ 1000 ∧ onB co p.m = true) (hN : co = N) :
    Calls Tryz.prog 23 #[.agg #[.int .i64 co, .int .i64 sy, .int .i64 la, .int .i64 mo, v], .slice a n cap, .slice pa n pcap] w fun e w' => ∃ g, e = .returned (.slice (some ⟨g, 0, none⟩) N N) ∧ Lay w (.slice (some ⟨g, 0, none⟩) N N) (allL la res l ps (List.replicate N []) n) w' := by
  subst hN
  obtain ⟨av, cv, rfl⟩ := hv.form
  obtain ⟨qr, hq⟩ : ∃ qr, res.length = qr := ⟨_, rfl⟩
  have HMS : Hid (∀ x ∈ l, x.m.length ≤ 1000000) := fun x hx => by have := (tv_secs (mayV_all hm x hx)).1; omega
  have h12 := mayV_len hm
  have hN6 : N ≤ 6 := by have := (cfgB_iff.1 hc).1; simp only at this; omega
  have b0 := balloc w (.cells #[.int .i64 N, .int .i64 sy, .int .i64 la, .int .i64 mo, .slice av res.length cv] 24)
  have HB0 : Hid (Below w.heap.size w (w.alloc (.cells #[.int .i64 N, .int .i64 sy, .int .i64 la, .int .i64 mo, .slice av qr cv] 24))) := by rw [← hq]; exact b0
  have HV : Hid (Ints (w.alloc (.cells #[.int .i64 N, .int .i64 sy, .int .i64 la, .int .i64 mo, .slice av qr cv] 24)) (.slice av qr cv) res) := by rw [← hq]; exact hv.below (by have := HB0.out; rw [← hq] at this; exact this)
  have HL : Hid (Tks (w.alloc (.cells #[.int .i64 N, .int .i64 sy, .int .i64 la, .int .i64 mo, .slice av qr cv] 24)) (.slice a n cap) l) := hl.below HB0.out
  have HP : Hid (Plns (w.alloc (.cells #[.int .i64 N, .int .i64 sy, .int .i64 la, .int .i64 mo, .slice av qr cv] 24)) (.slice pa n pcap) ps) := hp.below HB0.out
  have KW : Hid (Blk (w.alloc (.cells #[.int .i64 N, .int .i64 sy, .int .i64 la, .int .i64 mo, .slice av qr cv] 24)) w.heap.size #[.int .i64 N, .int .i64 sy, .int .i64 la, .int .i64 mo, .slice av qr cv] 24) := heap_alloc_new _ _
  have HC : Hid (cfgB ⟨N, sy, la, mo, res⟩ = true) := hc
  have HM : Hid (mayV res.length l = true) := hm
  have HN : Hid (l.length = n) := hn
  have HPN : Hid (ps.length = n) := hpn
  have HPM : Hid (∀ p ∈ ps, p.m.length ≤ 1000 ∧ onB N p.m = true) := hpm
  have HQ : Hid (res.length = qr) := hq
  have HR : Hid (res.length ≤ 1000000) := hr
  have hne : (n != n) = false := by simp
  have n12 : n ≤ 12 := by omega
  have mk := mkR N (by omega)
  rw [hq]
  clear hv hl hc hm hp hn hpn hpm hq b0 hr
  go_enter Tryz.func23, Tryz.ntmps23
  go_wp2_with fail
  generalize hW : w.alloc _ = W at HB0 HV HL HP KW ⊢
  clear hW
  have sW := KW.out.lt
  have c0 := KW.out.cell 0
  have c1 := KW.out.cell 1
  have c2 := KW.out.cell 2
  have c3 := KW.out.cell 3
  have c4 := KW.out.cell 4
  simp at c0 c1 c2 c3 c4
  go_wp2_with fail
  refine (lmay_any N sy la mo (.slice av qr cv) res a n cap l W HV.out HR.out HC.out HL.out HN.out (by omega) HMS.out).mono ?_
  rintro e w2 ⟨rfl, g2⟩
  rw [HM.out]
  have G2 : Hid (Below W.heap.size W w2) := g2
  have K2 := KW.out.below g2
  have c0 := K2.cell 0
  simp at c0
  have LM : Hid (Lay W (.slice (some ⟨w2.heap.size, 0, none⟩) N N) (List.replicate N []) (w2.alloc (.cells (Array.replicate N (.slice none 0 0)) 51))) := lay_made g2 N (by omega)
  clear g2 K2 c1 c2 c3 c4
  go_wp2_with fail
  generalize hW3 : w2.alloc _ = W3 at LM ⊢
  generalize hg0 : w2.heap.size = g0 at LM ⊢
  clear hW3 mk c0
  go_loopw [26] (fun i wr => ∃ k : Nat, k ≤ n ∧ i = .int .i64 k ∧ Hid (Lay W (.slice (some ⟨g0, 0, none⟩) N N) (allL la res l ps (List.replicate N []) k) wr)) (fun i _ => n - (intOf i).toNat)
  case atStart => exact ⟨0, Nat.zero_le _, rfl, LM.out⟩
  case round =>
    obtain ⟨k, hk, rfl, l3⟩ := hrel
    have L3 : Hid (Lay W (.slice (some ⟨g0, 0, none⟩) N N) (allL la res l ps (List.replicate N []) k) wr) := l3
    clear l3 LM
    by_cases hlt : k < n
    · obtain ⟨⟨c, d, t, xu, xm⟩, hx⟩ : ∃ x, l[k]? = some x := ⟨_, List.getElem?_eq_getElem (by rw [HN.out]; exact hlt)⟩
      obtain ⟨⟨kd, pu, m⟩, hy⟩ : ∃ x, ps[k]? = some x := ⟨_, List.getElem?_eq_getElem (by rw [HPN.out]; exact hlt)⟩
      obtain ⟨-, -, -, -, -, -, -, -, ys⟩ := HL.out.at hx
      obtain ⟨a2, k2, exu⟩ := ys.form
      simp only at exu
      subst exu
      obtain ⟨b, o, e, hb, y1, y2, ym⟩ := HP.out.at hy
      subst e
      obtain ⟨ap, cp, epu⟩ := ym.form
      simp only at epu
      subst epu
      obtain ⟨hpm, hon⟩ := HPM.out _ (List.mem_of_getElem? hy)
      have HYM : Hid (Pcs W (.slice ap m.length cp) m) := ym
      obtain ⟨np, hnp⟩ : ∃ np, m.length = np := ⟨_, rfl⟩
      simp only at y1 y2 hpm hon
      have HON : Hid (onB N m = true) := hon
      have HX : Hid (l[k]? = some ⟨c, d, t, .slice a2 xm.length k2, xm⟩) := hx
      have HY : Hid (ps[k]? = some ⟨kd, .slice ap m.length cp, m⟩) := hy
      have HM2 : Hid (m.length ≤ 1000) := hpm
      rw [hnp] at y2 HYM
      replace y1 := (L3.out.bel.cell (p := ⟨b, _, none⟩) hb).trans y1
      replace y2 := (L3.out.bel.cell (p := ⟨b, _, none⟩) hb).trans y2
      have PB : Hid (Blk (wr.alloc (.cells #[.int .i64 kd, .slice ap np cp] 49)) wr.heap.size #[.int .i64 kd, .slice ap np cp] 49) := heap_alloc_new _ _
      have L4 : Hid (Lay W (.slice (some ⟨g0, 0, none⟩) N N) (allL la res l ps (List.replicate N []) k) (wr.alloc (.cells #[.int .i64 kd, .slice ap np cp] 49))) := L3.out.below (balloc _ _)
      have hbr : b < wr.heap.size := Nat.lt_of_lt_of_le hb L3.out.bel.size
      clear hx hy ys hpm hon ym
      go_upto_region 7 with fail
      generalize hW4 : wr.alloc _ = W4 at PB L4 ⊢
      clear hW4 y1 y2
      have K4 := KW.out.below L4.out.bel
      have c0 := K4.cell 0
      have c1 := K4.cell 1
      have c2 := K4.cell 2
      have c3 := K4.cell 3
      have c4 := K4.cell 4
      simp at c0 c1 c2 c3 c4
      have p0 := PB.out.cell 0
      have p1 := PB.out.cell 1
      simp at p0 p1
      clear K4
      go_wp2_with fail
      refine (onc_any N sy la mo _ kd _ m _ (by have := HM2.out; omega) (HYM.out.below L4.out.bel)).mono ?_
      rintro e w5 ⟨rfl, g5⟩
      rw [HON.out]
      have L5 : Hid (Lay W (.slice (some ⟨g0, 0, none⟩) N N) (allL la res l ps (List.replicate N []) k) w5) := L4.out.below g5
      have P5 := PB.out.below g5
      have K5 := KW.out.below L5.out.bel
      clear g5 c0 c1 c2 c3 c4 p0 p1 PB L4
      have c0 := K5.cell 0
      have c1 := K5.cell 1
      have c2 := K5.cell 2
      have c3 := K5.cell 3
      have c4 := K5.cell 4
      simp at c0 c1 c2 c3 c4
      have p0 := P5.cell 0
      have p1 := P5.cell 1
      simp at p0 p1
      clear K5 P5
      go_wp2_with fail
      refine (lay_any N sy la mo (.slice av qr cv) res a n cap l k c d t a2 xm.length k2 xm kd (.slice ap np cp) m (some ⟨g0, 0, none⟩) N N _ (1000 * k) W w5 HV.out HR.out HC.out HL.out HN.out HM.out HX.out HYM.out HM2.out HON.out L5.out (by rw [allL_length, List.length_replicate]) (all_len la res l ps N (fun p hp => (HPM.out p hp).1) k) (by omega)).mono ?_
      rintro e w6 ⟨rfl, l6⟩
      rw [← allL_succ HX.out HY.out] at l6
      have L6 : Hid (Lay W (.slice (some ⟨g0, 0, none⟩) N N) (allL la res l ps (List.replicate N []) (k + 1)) w6) := l6
      clear l6 c0 c1 c2 c3 c4 p0 p1
      go_wp2_with fail
      go_round
      case rel => exact ⟨k + 1, by omega, by go_num, L6.out⟩
      case measure => simp [intOf]; omega
    · have e : k = n := by omega
      subst e
      go_wp2_with fail
      go_ret
      exact ⟨g0, rfl, L3.out.mono HB0.out⟩
set_option maxHeartbeats 4000000 in
/-- Where c or one of all may not be, or there are not as many plans, nothing is told. -/
theorem lall_no (co sy la mo : Int) (v : Value) (res : List Int) (a : Option Addr) (n cap : Nat) (l : List TV) (pa : Option Addr) (pn pcap : Nat) (w : World)
    (hv : Ints w v res) (hr : res.length ≤ 1000000) (hc : cfgB ⟨co, sy, la, mo, res⟩ = true) (hl : Tks w (.slice a n cap) l) (hn : l.length = n) (n6 : n ≤ 1000000) (hms : ∀ x ∈ l, x.m.length ≤ 1000000) (hb : mayV res.length l = false ∨ pn ≠ n) :
    Calls Tryz.prog 23 #[.agg #[.int .i64 co, .int .i64 sy, .int .i64 la, .int .i64 mo, v], .slice a n cap, .slice pa pn pcap] w fun e w' => e = .returned (.slice none 0 0) ∧ Below w.heap.size w w' := by
  obtain ⟨av, cv, rfl⟩ := hv.form
  have HB0 : Hid (Below w.heap.size w (w.alloc (.cells #[.int .i64 co, .int .i64 sy, .int .i64 la, .int .i64 mo, .slice av res.length cv] 24))) := balloc _ _
  have HV : Hid (Ints (w.alloc (.cells #[.int .i64 co, .int .i64 sy, .int .i64 la, .int .i64 mo, .slice av res.length cv] 24)) (.slice av res.length cv) res) := hv.below HB0.out
  have HL : Hid (Tks (w.alloc (.cells #[.int .i64 co, .int .i64 sy, .int .i64 la, .int .i64 mo, .slice av res.length cv] 24)) (.slice a n cap) l) := hl.below HB0.out
  have HC : Hid (cfgB ⟨co, sy, la, mo, res⟩ = true) := hc
  have HM : Hid (mayV res.length l = false ∨ pn ≠ n) := hb
  have HN : Hid (l.length = n) := hn
  have HMS : Hid (∀ x ∈ l, x.m.length ≤ 1000000) := hms
  clear hv hl hc hn hb hms
  go_enter Tryz.func23, Tryz.ntmps23
  go_wp2_with fail
  refine (lmay_any co sy la mo _ res a n cap l _ HV.out hr HC.out HL.out HN.out n6 HMS.out).mono ?_
  rintro e w2 ⟨rfl, g2⟩
  have B2 : Hid (Below w.heap.size w w2) := btrans HB0.out g2
  clear g2
  cases hmv : mayV res.length l
  · clear hmv HM
    go_wp2_with fail
    go_ret
    exact ⟨rfl, B2.out⟩
  · have hne : (pn != n) = true := by
      rcases HM.out with h | h
      · rw [hmv] at h; cases h
      · simp [h]
    clear hmv HM
    go_wp2_with fail
    go_ret
    exact ⟨rfl, B2.out⟩
end Go.Proofs.YtakdliecjfeedaaGreatDoor
