/- Plans of one's own: rows of plans, their pieces beside. -/
import Derived.Test.YtakdliecjfeedaaGreatDoorLMay
import Derived.Test.YtakdliecjfeedaaGreatDoorArgs9J
import Derived.Test.YtakdliecjfeedaaGreatDoorBits9
import Derived.Deep.Slices
import Derived.Deep.LoopGhost
import Derived.Lib.RowBridge
import Derived.Deep.Cut
import Derived.Deep.CutRange
namespace Go.Proofs.YtakdliecjfeedaaGreatDoor
open Go Go.RowKit

def plC (l : List PV) : List Value := l.flatMap fun x => [.int .i64 x.k, x.u]
def pcC (m : List Pc) : List Value := m.flatMap fun x => [.int .i64 x.core, .int .i64 x.off, .int .i64 x.len, .int .i64 x.c]
theorem plC_length (l : List PV) : (plC l).length = l.length * 2 := by
  induction l with
  | nil => rfl
  | cons e es ih => simp only [plC, List.flatMap_cons, List.length_append] at *; rw [ih]; simp; omega
theorem plC_get {l : List PV} {i : Nat} {x : PV} (h : l[i]? = some x) : (plC l)[i * 2]? = some (.int .i64 x.k) ∧ (plC l)[i * 2 + 1]? = some x.u := by
  induction l generalizing i with
  | nil => simp at h
  | cons e es ih =>
    cases i with
    | zero => simp at h; subst h; simp [plC]
    | succ i =>
      have := ih (i := i) (by simpa using h)
      rw [show (i + 1) * 2 = i * 2 + 2 by omega]
      simpa [plC] using this
theorem plC_append (l m : List PV) : plC (l ++ m) = plC l ++ plC m := by simp [plC]
theorem pcC_get {l : List Pc} {i : Nat} {x : Pc} (h : l[i]? = some x) : (pcC l)[i * 4]? = some (.int .i64 x.core) ∧ (pcC l)[i * 4 + 1]? = some (.int .i64 x.off) ∧ (pcC l)[i * 4 + 2]? = some (.int .i64 x.len) ∧ (pcC l)[i * 4 + 3]? = some (.int .i64 x.c) := by
  induction l generalizing i with
  | nil => simp at h
  | cons e es ih =>
    cases i with
    | zero => simp at h; subst h; simp [pcC]
    | succ i =>
      have := ih (i := i) (by simpa using h)
      rw [show (i + 1) * 4 = i * 4 + 4 by omega]
      simpa [pcC] using this
/-- A plan that the laws make of a task. -/
def PlOk (co : Int) (X : TV) (p : PV) : Prop := p.m.length ≤ 2 ∧ onB co p.m = true ∧ (p.k = 1 → ∀ q ∈ p.m, q.c = X.c ∧ q.len = X.d)
/-- Its pieces, in a block of their own. -/
def PcB (w : World) (base : Nat) (p : PV) : Prop := ∃ g, p.u = .slice (some ⟨g, 0, none⟩) p.m.length p.m.length ∧ base ≤ g ∧ Blk w g (pcC p.m).toArray 60
theorem pcs_of {w : World} {g : Nat} {m : List Pc} {cap : Nat} (h : Blk w g (pcC m).toArray 60) : Pcs w (.slice (some ⟨g, 0, none⟩) m.length cap) m := by
  refine .inr ⟨g, 0, cap, rfl, h.lt, fun j x hj => ?_⟩
  obtain ⟨e0, e1, e2, e3⟩ := pcC_get hj
  rw [Nat.zero_add, h.cell, h.cell, h.cell, h.cell]
  exact ⟨by simpa using e0, by simpa using e1, by simpa using e2, by simpa using e3⟩
variable {w w' : World}
theorem PcB.pcs {base : Nat} {p : PV} (h : PcB w base p) : Pcs w p.u p.m := by
  obtain ⟨g, e, _, hb⟩ := h
  rw [e]
  exact pcs_of hb
theorem PcB.below {base : Nat} {p : PV} (h : PcB w base p) (g : Below w.heap.size w w') : PcB w' base p := by
  obtain ⟨k, e, h1, hb⟩ := h
  exact ⟨k, e, h1, hb.below g⟩
/-- A slice of plans of one's own. -/
structure OwnP (w : World) (base : Nat) (v : Value) (ps : List PV) : Prop where
  own : w.ownsRow base 49 2 v ps.length (plC ps)
  pcb : ∀ p ∈ ps, PcB w base p
theorem OwnP.nil (w : World) (base : Nat) : OwnP w base (.slice none 0 0) [] := ⟨World.ownsRow_nil _ _ _ _, fun x hx => by cases hx⟩
theorem OwnP.below {base : Nat} {v : Value} {ps : List PV} (h : OwnP w base v ps) (g : Below w.heap.size w w') : OwnP w' base v ps := ⟨own_below h.own g, fun p hp => (h.pcb p hp).below g⟩
theorem OwnP.form {base : Nat} {v : Value} {ps : List PV} (h : OwnP w base v ps) : ∃ a cap, v = .slice a ps.length cap := own_form h.own
theorem OwnP.mono {base base' : Nat} {v : Value} {ps : List PV} (h : OwnP w base v ps) (hb : base' ≤ base) : OwnP w base' v ps := ⟨ownT_mono h.own hb, fun p hp => by
  obtain ⟨g, e, h1, h2⟩ := h.pcb p hp
  exact ⟨g, e, by omega, h2⟩⟩
theorem OwnP.plns {base : Nat} {v : Value} {ps : List PV} (h : OwnP w base v ps) : Plns w v ps := by
  rcases h.own.2 with ⟨rfl, hn⟩ | ⟨g, cap, cur, rfl, hb, hh, h1, h2, h3, h4⟩
  · exact .inl ⟨List.length_eq_zero_iff.1 hn, _, _, rfl⟩
  · refine .inr ⟨g, 0, cap, rfl, (Array.getElem?_eq_some_iff.1 hh).1, fun j x hj => ?_⟩
    have hl := (List.getElem?_eq_some_iff.1 hj).1
    obtain ⟨e0, e1⟩ := plC_get hj
    rw [← h4, List.getElem?_take_of_lt (by omega)] at e0 e1
    rw [Nat.zero_add]
    simp only [World.cell?, hh]
    exact ⟨⟨by simpa using e0, by simpa using e1⟩, (h.pcb x (List.mem_of_getElem? hj)).pcs⟩
theorem OwnP.one {base : Nat} {v : Value} {ps : List PV} (h : OwnP w base v ps) : ∀ u ∈ plC ps, u.oneCell' = true := by
  intro u hu
  simp only [plC, List.mem_flatMap] at hu
  obtain ⟨p, hp, hu⟩ := hu
  simp at hu
  rcases hu with rfl | rfl
  · rfl
  · obtain ⟨g, e, _, _⟩ := h.pcb p hp
    rw [e]; rfl
theorem pl_ty : (60 : Nat) ≠ 49 := by decide
/-- What an append to plans leaves of a block of pieces. -/
theorem blk_keep {base g : Nat} {v : Value} {n : Nat} {xs : List Value} {cs : Array Value} (h : w.ownsRow base 49 2 v n xs) (hb : Blk w g cs 60) (gr : w.grownBy w' v.ownBlock) : Blk w' g cs 60 := by
  unfold Blk at *
  rw [gr.block g (Array.getElem?_eq_some_iff.1 hb).1 (fun e => ?_)]
  · exact hb
  · rcases h.2 with ⟨rfl, _⟩ | ⟨g', cap, cur, rfl, _, hh, _⟩
    · simp [Value.ownBlock] at e
    · simp [Value.ownBlock] at e
      subst e
      rw [hh] at hb
      simp at hb
/-- .. with a plan more. -/
theorem OwnP.snoc {W : World} {base : Nat} {v v' : Value} {ps : List PV} {p : PV} {o : Obj} (h : OwnP W base v ps) (hx : PcB W base p)
    (own' : w'.ownsRow base 49 2 v' (ps.length + 1) (plC ps ++ [.int .i64 p.k, p.u])) (gr : (W.alloc o).grownBy w' v.ownBlock) : OwnP w' base v' (ps ++ [p]) := by
  have keep : ∀ y : PV, PcB W base y → PcB w' base y := fun y hy => by
    obtain ⟨g, e, h1, hb⟩ := hy
    exact ⟨g, e, h1, blk_keep (own_below h.own (balloc W o)) (hb.below (balloc W o)) gr⟩
  refine ⟨?_, fun y hy => ?_⟩
  · rw [plC_append, List.length_append]; exact own'
  · rcases List.mem_append.1 hy with hy | hy
    · exact keep y (h.pcb y hy)
    · simp at hy; subst hy; exact keep y hx
theorem infoPl : (Tryz.prog.info? 49).map (fun i => (i.zero, i.size, i.bytes)) = some (some (.agg #[.int .i64 0, .slice none 0 0]), 2, 32) := by kernel_rfl
theorem cell_two (w : World) (x y : Value) (t : TypeId) : ∀ (j : Nat) (q : Value), [x, y][j]? = some q → (w.alloc (.cells #[x, y] t)).cell? ((⟨w.heap.size, 0, none⟩ : Addr).add j) = some q := by
  intro j q hj
  match j, hj with
  | 0, hj => simp at hj; subst hj; simp [Addr.add]
  | 1, hj => simp at hj; subst hj; simp [Addr.add]
theorem and1 (n : Int) : bits .and .i64 n 1 = n % 2 := and_low n 1 1 (by omega) (by decide)
/-- What is under way in Plans: a plan in its box, its pieces, those that are told; the rest as it was. -/
structure PlW (w0 : World) (gp gq : Nat) (kd : Int) (m : List Pc) (v : Value) (ps : List PV) (w : World) : Prop where
  box : Blk w gp #[.int .i64 kd, .slice (some ⟨gq, 0, none⟩) m.length m.length] 49
  pcs : Blk w gq (pcC m).toArray 60
  own : OwnP w w0.heap.size v ps
  bel : Below w0.heap.size w0 w
  far : v.ownBlock ≠ some gp
  ge : w0.heap.size ≤ gp ∧ w0.heap.size ≤ gq
/-- Plans told so far. -/
structure PlS (w0 : World) (v : Value) (ps : List PV) (w : World) : Prop where
  own : OwnP w w0.heap.size v ps
  bel : Below w0.heap.size w0 w
theorem PlS.below {w0 : World} {v : Value} {ps : List PV} (h : PlS w0 v ps w) (g : Below w.heap.size w w') : PlS w0 v ps w' := ⟨h.own.below g, btrans h.bel g⟩
end Go.Proofs.YtakdliecjfeedaaGreatDoor

/- The contract of the laws' own Plans. -/
namespace Go.Proofs.YtakdliecjfeedaaGreatDoor
open Go Go.RowKit

theorem PlW.below {w0 w w' : World} {gp gq : Nat} {kd : Int} {m : List Pc} {v : Value} {ps : List PV} (h : PlW w0 gp gq kd m v ps w) (g : Below w.heap.size w w') : PlW w0 gp gq kd m v ps w' := ⟨h.box.below g, h.pcs.below g, h.own.below g, btrans h.bel g, h.far, h.ge⟩
theorem plw_mk {w0 w u : World} {gp gq : Nat} {kd : Int} {m : List Pc} {v : Value} {ps : List PV} (h : PlS w0 v ps w) (g : Below w.heap.size w u) (h1 : w.heap.size ≤ gp) (h2 : w.heap.size ≤ gq) (hb : Blk u gp #[.int .i64 kd, .slice (some ⟨gq, 0, none⟩) m.length m.length] 49) (hq : Blk u gq (pcC m).toArray 60) : PlW w0 gp gq kd m v ps u :=
  ⟨hb, hq, h.own.below g, btrans h.bel g, fun e => by have := (h.own.own.lt gp e).2; omega, by have := h.bel.size; omega, by have := h.bel.size; omega⟩
theorem blk_two (w : World) (a b : Array Value) (s t : TypeId) : Blk ((w.alloc (.cells a s)).alloc (.cells b t)) w.heap.size a s ∧ Blk ((w.alloc (.cells a s)).alloc (.cells b t)) (w.heap.size + 1) b t :=
  ⟨(show Blk (w.alloc (.cells a s)) w.heap.size a s from heap_alloc_new _ _).below (balloc _ _), blkTwo _ _ _ _⟩
theorem plok_one {N r : Nat} {c d t : Int} {u pu : Value} {xm : List Sec} (hr : r < N) : PlOk N ⟨c, d, t, u, xm⟩ ⟨1, pu, [⟨r, 0, d, c⟩]⟩ :=
  ⟨by simp, by simp [onB, hr], fun _ q hq => by simp at hq; subst hq; exact ⟨rfl, rfl⟩⟩
theorem plok_two {N r s : Nat} {x : TV} {e : Int} {pu : Value} (hr : r < N) (hs : s < N) : PlOk N x ⟨2, pu, [⟨r, 0, e, e⟩, ⟨s, e, 1, 1⟩]⟩ :=
  ⟨by simp, by simp [onB, hr, hs], fun h => by simp at h⟩
theorem plok_snoc {N : Int} {l : List TV} {ps : List PV} {k : Nat} {X : TV} {p : PV} (hk : ps.length = k) (h : ∀ (j : Nat) (x : TV) (p : PV), l[j]? = some x → ps[j]? = some p → PlOk N x p) (hX : l[k]? = some X) (hp : PlOk N X p) : ∀ (j : Nat) (x : TV) (p' : PV), l[j]? = some x → (ps ++ [p])[j]? = some p' → PlOk N x p' := by
  intro j x p' hx hq
  by_cases hj : j < ps.length
  · rw [List.getElem?_append_left hj] at hq
    exact h j x p' hx hq
  · have hl := (List.getElem?_eq_some_iff.1 hq).1
    simp at hl
    obtain rfl : j = k := by omega
    rw [hX] at hx
    rw [List.getElem?_append_right (by omega), hk] at hq
    simp at hx hq
    subst hx hq
    exact hp
/-- A store of another plan into its box. -/
theorem PlW.again {w0 w : World} {gp gq gq' : Nat} {kd kd' : Int} {m m' : List Pc} {v : Value} {ps : List PV} (h : PlW w0 gp gq kd m v ps w) (hq : Blk w gq' (pcC m').toArray 60) (h2 : w0.heap.size ≤ gq') (hne : gp ≠ gq') :
    PlW w0 gp gq' kd' m' v ps ((w.setCell ⟨gp, 0, none⟩ (.int .i64 kd')).setCell ⟨gp, 1, none⟩ (.slice (some ⟨gq', 0, none⟩) m'.length m'.length)) := by
  obtain ⟨a1, a2⟩ := Blk.set h.box 0 (.int .i64 kd')
  obtain ⟨b1, b2⟩ := Blk.set a1 1 (.slice (some ⟨gq', 0, none⟩) m'.length m'.length)
  have on := a2.same b2
  refine ⟨by simpa using b1, hq.only on (by simp; omega), ⟨own_off h.own.own on (fun k hk => by simp; rintro rfl; exact h.far hk), fun p hp => ?_⟩, (h.bel.setCell (p := ⟨gp, 0, none⟩) h.ge.1 _).setCell (p := ⟨gp, 1, none⟩) h.ge.1 _, h.far, h.ge.1, h2⟩
  obtain ⟨g, e, hg, hb⟩ := h.own.pcb p hp
  refine ⟨g, e, hg, hb.only on (by
    simp
    rintro rfl
    have h1 := h.box
    unfold Blk at h1 hb
    rw [h1] at hb
    simp at hb)⟩
set_option maxHeartbeats 16000000 in
set_option maxRecDepth 100000 in
theorem plans_any (N : Nat) (sy la mo : Int) (av : Option Addr) (nv cv : Nat) (a : Option Addr) (n cap : Nat) (l : List TV) (ka : Option Addr) (kn kc : Nat) (kz : List Int) (nn : Nat) (w : World) (hN : 1 ≤ N ∧ N ≤ 6) (hl : Tks w (.slice a n cap) l) (hn : l.length = n) (n12 : n ≤ 12) (ht : ∀ x ∈ l, tskB nn x.tsk = true) (hk : ANums w ka kn kz) :
    Calls Tryz.prog 22 #[.agg #[.int .i64 N, .int .i64 sy, .int .i64 la, .int .i64 mo, .slice av nv cv], .slice a n cap, .slice ka kn kc] w fun e w' => ∃ b k ps, e = .returned (.slice b n k) ∧ ps.length = n ∧ (∀ (i : Nat) (x : TV) (p : PV), l[i]? = some x → ps[i]? = some p → PlOk N x p) ∧ OwnP w' w.heap.size (.slice b n k) ps ∧ Below w.heap.size w w' := by
  obtain ⟨i0, hi0, hz0, hz1, hz2⟩ := info_parts infoPl
  have HB0 : Hid (Below w.heap.size w (w.alloc (.cells #[.int .i64 N, .int .i64 sy, .int .i64 la, .int .i64 mo, .slice av nv cv] 24))) := balloc _ _
  have KW : Hid (Blk (w.alloc (.cells #[.int .i64 N, .int .i64 sy, .int .i64 la, .int .i64 mo, .slice av nv cv] 24)) w.heap.size #[.int .i64 N, .int .i64 sy, .int .i64 la, .int .i64 mo, .slice av nv cv] 24) := heap_alloc_new _ _
  have HL : Hid (Tks (w.alloc (.cells #[.int .i64 N, .int .i64 sy, .int .i64 la, .int .i64 mo, .slice av nv cv] 24)) (.slice a n cap) l) := hl.below (balloc _ _)
  have HK : Hid (ANums (w.alloc (.cells #[.int .i64 N, .int .i64 sy, .int .i64 la, .int .i64 mo, .slice av nv cv] 24)) ka kn kz) := hk.below (balloc _ _)
  have HKN : Hid (kz.length = kn) := hk.1
  have hkn := hk.2.1
  have HN : Hid (l.length = n) := hn
  have HT : Hid (∀ x ∈ l, tskB nn x.tsk = true) := ht
  obtain ⟨N1, N6⟩ := hN
  have e0 : ¬ (N : Int) = 0 := by omega
  have e9 : ¬ N = 0 := by omega
  clear hl hk hn ht
  go_enter Tryz.func22, Tryz.ntmps22
  go_wp2_with fail
  generalize hW : w.alloc _ = W at HB0 KW HL HK
  clear hW
  have sW := KW.out.lt
  go_loopg [7, 8] n (fun gk x i wr => ∃ (k : Nat) (b : Option Addr) (kb : Nat) (ps : List PV), gk + k = n ∧ i = .int .i64 k ∧ x = .slice b k kb ∧ ps.length = k ∧ Hid (∀ (j : Nat) (x : TV) (p : PV), l[j]? = some x → ps[j]? = some p → PlOk N x p) ∧ Hid (PlS W (.slice b k kb) ps wr))
  case atStart => exact ⟨0, none, 0, [], by omega, rfl, rfl, rfl, (show ∀ (j : Nat) (x : TV) (p : PV), l[j]? = some x → ([] : List PV)[j]? = some p → PlOk N x p from fun j x p _ h => by simp at h), (show PlS W (.slice none 0 0) [] W from ⟨OwnP.nil _ _, Below.refl _ _⟩)⟩
  case round =>
    obtain ⟨k, b, kb, ps, k1, rfl, rfl, hpl, hOk, hS⟩ := hrel
    have HPL : Hid (ps.length = k) := hpl
    have S0 : Hid (PlS W (.slice b k kb) ps wr) := hS.out
    have BB : Hid (Below w.heap.size w wr) := HB0.out.trans (S0.out.bel.mono (by omega))
    clear hpl hS
    by_cases hlt : k < n
    · obtain ⟨⟨c, d, t, xu, xm⟩, hx⟩ : ∃ x, l[k]? = some x := ⟨_, List.getElem?_eq_getElem (by rw [HN.out]; exact hlt)⟩
      obtain ⟨x1, x2, x3, x4, -, -⟩ := tskB_facts (HT.out _ (List.mem_of_getElem? hx))
      simp only [TV.tsk] at x1 x2 x3 x4
      have HX : Hid (l[k]? = some ⟨c, d, t, xu, xm⟩) := hx
      clear hx
      have q0 : (0 : Int) ≤ (k : Int) := by omega
      have q1 : (k : Int) < (n : Int) := by omega
      go_upto_if 21 with fail
      go_cut [9] from 22 to 26 (fun x wx => ∃ q : Nat, x = .int .i64 q ∧ q ≤ 63 ∧ wr = wx)
      case first =>
        by_cases hk : k < kn
        · obtain ⟨y, hy⟩ : ∃ y, kz[k]? = some y := ⟨_, List.getElem?_eq_getElem (by rw [HKN.out]; exact hk)⟩
          obtain ⟨x, ex, hc, -⟩ := (HK.out.below S0.out.bel).2.2 k y hy
          subst ex
          obtain ⟨q, hq⟩ : ∃ q : Nat, y % 64 = q := ⟨(y % 64).toNat, by omega⟩
          have e1 := and63 y
          rw [hq] at e1
          have q2 : (k : Int) < (kn : Int) := by omega
          clear hy
          go_wp2_with fail
          go_meet
          exact ⟨q, by first | rfl | rw [e1], by omega, rfl⟩
        · go_wp2_with fail
          go_meet
          exact ⟨k, rfl, by omega, rfl⟩
      case rest =>
        obtain ⟨q, rfl, hq, rfl⟩ := hcut
        obtain ⟨r, hr, hrN⟩ : ∃ r : Nat, (q : Int).tmod N = r ∧ r < N := ⟨q % N, by rw [Int.tmod_eq_emod_of_nonneg (by omega)]; simp, Nat.mod_lt _ (by omega)⟩
        obtain ⟨r2, hr2, hrN2⟩ : ∃ r : Nat, ((q : Int) + 1).tmod N = r ∧ r < N := ⟨(q + 1) % N, by rw [Int.tmod_eq_emod_of_nonneg (by omega)]; simp, Nat.mod_lt _ (by omega)⟩
        have W1 : IntKind.i64.wrap (r : Int) = r := IntWalk.i64_in _ (by omega)
        have W2 : IntKind.i64.wrap (r2 : Int) = r2 := IntWalk.i64_in _ (by omega)
        have W3 : IntKind.i64.wrap ((q : Int) + 1) = (q : Int) + 1 := IntWalk.i64_in _ (by omega)
        have W4 : IntKind.i64.wrap (c - 1) = c - 1 := IntWalk.i64_in _ (by omega)
        obtain ⟨bb, oo, eb, hbl, y1, y2, -, y4, ys⟩ := (HL.out.below S0.out.bel).at HX.out
        subst eb
        simp only at y1 y2 y4 ys
        obtain ⟨a5, cap5, e5⟩ := ys.form
        subst e5
        have K0 := KW.out.below S0.out.bel
        have k0 : wr.cell? ⟨w.heap.size, 0, none⟩ = some (.int .i64 N) := K0.cell 0
        have bW : bb < W.heap.size := by
          obtain ⟨b9, o9, e9, h9, _⟩ := HL.out.at HX.out
          simp only [Option.some.injEq, Addr.mk.injEq, and_true] at e9
          omega
        go_upto_region 8 with fail
        go_cut [10] from 27 to 43 (fun x wx => ∃ gp gq : Nat, x = .pointer (some ⟨gp, 0, none⟩) ∧ Hid (PlW W gp gq 1 [⟨(r : Int), 0, d, c⟩] (.slice b k kb) ps wx))
        case first =>
          have D0 : Hid (PlS W (.slice b k kb) ps wr.drew) := S0.out.below (bdrew _)
          refine wp_region_noPanic (wp_region_runsZ (S := (fun w' => w'.cell? ⟨w.heap.size, 0, none⟩ = some (.int .i64 N) ∧ w'.cell? ⟨bb, oo + k * 4, none⟩ = some (.int .i64 c) ∧ w'.cell? ⟨bb, oo + k * 4 + 1, none⟩ = some (.int .i64 d))) (Z := [18]) (by kernel_rfl) ?_)
          have hS0 : (fun w' => w'.cell? ⟨w.heap.size, 0, none⟩ = some (.int .i64 N) ∧ w'.cell? ⟨bb, oo + k * 4, none⟩ = some (.int .i64 c) ∧ w'.cell? ⟨bb, oo + k * 4 + 1, none⟩ = some (.int .i64 d)) wr.drew := ⟨cell_keep k0 (bdrew _), cell_keep y1 (bdrew _), cell_keep y2 (bdrew _)⟩
          generalize wr.drew = u0 at D0 hS0 ⊢
          refine RunsZ.take 12 (i := 0) (v := ?v0) (nth_z rfl) (by kernel_rfl) (by kernel_rfl) (by kernel_rfl) (by kernel_rfl) (by kernel_rfl) (fun _ _ _ h => h) (Or.inl ⟨by rfl, ?y0⟩) hS0 ?_
          case y0 =>
            intro u hu
            try dsimp only at hu
            go_split_ands
            go_simp
            try with_reducible rfl
          simp only [Act.put, List.setIfInBounds_toArray, List.set_cons_zero, List.set_cons_succ]
          refine RunsZ.take 12 (i := 1) (v := ?v1) (nth_z rfl) (by kernel_rfl) (by kernel_rfl) (by kernel_rfl) (by kernel_rfl) (by kernel_rfl) (fun _ _ _ h => h) (Or.inl ⟨by rfl, ?y1⟩) hS0 ?_
          case y1 =>
            intro u hu
            try dsimp only at hu
            go_split_ands
            go_simp
            try with_reducible rfl
          simp only [Act.put, List.setIfInBounds_toArray, List.set_cons_zero, List.set_cons_succ]
          refine RunsZ.take 12 (i := 2) (v := ?v2) (nth_z rfl) (by kernel_rfl) (by kernel_rfl) (by kernel_rfl) (by kernel_rfl) (by kernel_rfl) (fun _ _ _ h => h) (Or.inl ⟨by rfl, ?y2⟩) hS0 ?_
          case y2 =>
            intro u hu
            try dsimp only at hu
            go_split_ands
            go_simp
            try with_reducible rfl
          simp only [Act.put, List.setIfInBounds_toArray, List.set_cons_zero, List.set_cons_succ]
          refine RunsZ.take 12 (i := 3) (v := ?v3) (nth_z rfl) (by kernel_rfl) (by kernel_rfl) (by kernel_rfl) (by kernel_rfl) (by kernel_rfl) (fun _ _ _ h => h) (Or.inl ⟨by rfl, ?y3⟩) hS0 ?_
          case y3 =>
            intro u hu
            try dsimp only at hu
            go_split_ands
            go_simp
            try with_reducible rfl
          simp only [Act.put, List.setIfInBounds_toArray, List.set_cons_zero, List.set_cons_succ]
          refine RunsZ.take 12 (i := 4) (v := ?v4) (nth_z rfl) (by kernel_rfl) (by kernel_rfl) (by kernel_rfl) (by kernel_rfl) (by kernel_rfl) (fun _ _ _ h => h) (Or.inl ⟨by rfl, ?y4⟩) hS0 ?_
          case y4 =>
            intro u hu
            try dsimp only at hu
            go_split_ands
            go_simp
            try with_reducible rfl
          simp only [Act.put, List.setIfInBounds_toArray, List.set_cons_zero, List.set_cons_succ]
          refine RunsZ.take 12 (i := 5) (v := ?v5) (nth_z rfl) (by kernel_rfl) (by kernel_rfl) (by kernel_rfl) (by kernel_rfl) (by kernel_rfl) (fun _ _ _ h => h) (Or.inl ⟨by rfl, ?y5⟩) hS0 ?_
          case y5 =>
            intro u hu
            try dsimp only at hu
            go_split_ands
            go_simp
            try with_reducible rfl
          simp only [Act.put, List.setIfInBounds_toArray, List.set_cons_zero, List.set_cons_succ]
          refine RunsZ.take 12 (i := 6) (v := ?v6) (nth_z rfl) (by kernel_rfl) (by kernel_rfl) (by kernel_rfl) (by kernel_rfl) (by kernel_rfl) (fun _ _ _ h => h) (Or.inl ⟨by rfl, ?y6⟩) hS0 ?_
          case y6 =>
            intro u hu
            try dsimp only at hu
            go_split_ands
            go_simp
            try with_reducible rfl
          simp only [Act.put, List.setIfInBounds_toArray, List.set_cons_zero, List.set_cons_succ]
          refine RunsZ.take 12 (i := 7) (v := ?v7) (nth_z rfl) (by kernel_rfl) (by kernel_rfl) (by kernel_rfl) (by kernel_rfl) (by kernel_rfl) (fun _ _ _ h => h) (Or.inl ⟨by rfl, ?y7⟩) hS0 ?_
          case y7 =>
            intro u hu
            try dsimp only at hu
            go_split_ands
            go_simp
            try with_reducible rfl
          simp only [Act.put, List.setIfInBounds_toArray, List.set_cons_zero, List.set_cons_succ]
          refine RunsZ.take 12 (i := 8) (v := ?v8) (nth_z rfl) (by kernel_rfl) (by kernel_rfl) (by kernel_rfl) (by kernel_rfl) (by kernel_rfl) (fun _ _ _ h => h) (Or.inl ⟨by rfl, ?y8⟩) hS0 ?_
          case y8 =>
            intro u hu
            try dsimp only at hu
            go_split_ands
            go_simp
            try with_reducible rfl
          simp only [Act.put, List.setIfInBounds_toArray, List.set_cons_zero, List.set_cons_succ]
          refine RunsZ.take 12 (i := 9) (v := ?v9) (nth_z rfl) (by kernel_rfl) (by kernel_rfl) (by kernel_rfl) (by kernel_rfl) (by kernel_rfl) (fun _ _ _ h => h) (Or.inl ⟨by rfl, ?y9⟩) hS0 ?_
          case y9 =>
            intro u hu
            try dsimp only at hu
            go_split_ands
            go_simp
            try with_reducible rfl
          simp only [Act.put, List.setIfInBounds_toArray, List.set_cons_zero, List.set_cons_succ]
          refine RunsZ.take 12 (i := 10) (v := ?v10) (nth_z rfl) (by kernel_rfl) (by kernel_rfl) (by kernel_rfl) (by kernel_rfl) (by kernel_rfl) (fun _ _ _ h => h) (Or.inl ⟨by rfl, ?y10⟩) hS0 ?_
          case y10 =>
            intro u hu
            try dsimp only at hu
            go_split_ands
            go_simp
            try with_reducible rfl
          simp only [Act.put, List.setIfInBounds_toArray, List.set_cons_zero, List.set_cons_succ]
          refine RunsZ.take 12 (i := 11) (v := ?v11) (nth_z rfl) (by kernel_rfl) (by kernel_rfl) (by kernel_rfl) (by kernel_rfl) (by kernel_rfl) (fun _ _ _ h => h) (Or.inl ⟨by rfl, ?y11⟩) hS0 ?_
          case y11 =>
            intro u hu
            try dsimp only at hu
            go_split_ands
            go_simp
            try with_reducible rfl
          simp only [Act.put, List.setIfInBounds_toArray, List.set_cons_zero, List.set_cons_succ]
          refine RunsZ.take 12 (i := 12) (v := ?v12) (nth_z rfl) (by kernel_rfl) (by kernel_rfl) (by kernel_rfl) (by kernel_rfl) (by kernel_rfl) (fun _ _ _ h => h) (Or.inl ⟨by rfl, ?y12⟩) hS0 ?_
          case y12 =>
            intro u hu
            try dsimp only at hu
            go_split_ands
            go_simp
            try with_reducible rfl
          simp only [Act.put, List.setIfInBounds_toArray, List.set_cons_zero, List.set_cons_succ]
          refine RunsZ.take 12 (i := 13) (v := ?v13) (nth_z rfl) (by kernel_rfl) (by kernel_rfl) (by kernel_rfl) (by kernel_rfl) (by kernel_rfl) (fun _ _ _ h => h) (Or.inl ⟨by rfl, ?y13⟩) hS0 ?_
          case y13 =>
            intro u hu
            try dsimp only at hu
            go_split_ands
            go_simp
            try with_reducible rfl
          simp only [Act.put, List.setIfInBounds_toArray, List.set_cons_zero, List.set_cons_succ]
          refine RunsZ.take 12 (i := 14) (v := ?v14) (nth_z rfl) (by kernel_rfl) (by kernel_rfl) (by kernel_rfl) (by kernel_rfl) (by kernel_rfl) (fun _ _ _ h => h) (Or.inl ⟨by rfl, ?y14⟩) hS0 ?_
          case y14 =>
            intro u hu
            try dsimp only at hu
            go_split_ands
            go_simp
            try with_reducible rfl
          simp only [Act.put, List.setIfInBounds_toArray, List.set_cons_zero, List.set_cons_succ]
          refine RunsZ.two (i := 15) (j := 17) (by kernel_rfl) (nth_z rfl) (nth_z rfl) (by rfl) (by rfl) (fun K hK => ?_) (fun K hK => ?_)
          · go_simp
            have hS1 : (fun w' => w'.cell? ⟨w.heap.size, 0, none⟩ = some (.int .i64 N) ∧ w'.cell? ⟨bb, oo + k * 4, none⟩ = some (.int .i64 c) ∧ w'.cell? ⟨bb, oo + k * 4 + 1, none⟩ = some (.int .i64 d)) (u0.alloc (.cells #[.int .i64 r, .int .i64 0, .int .i64 d, .int .i64 c] 60)) := ⟨cell_keep hS0.1 (balloc _ _), cell_keep hS0.2.1 (balloc _ _), cell_keep hS0.2.2 (balloc _ _)⟩
            refine hK.out _ _ (fun _ => hS1) ?_
            clear hK K
            try simp only [Act.put, List.setIfInBounds_toArray, List.set_cons_zero, List.set_cons_succ]
            refine RunsZ.take 12 (i := 16) (v := ?v16) (nth_z rfl) (by kernel_rfl) (by kernel_rfl) (by kernel_rfl) (by kernel_rfl) (by kernel_rfl) (fun _ _ _ h => h) (Or.inl ⟨by rfl, ?y16⟩) hS1 ?_
            case y16 =>
              intro u hu
              try dsimp only at hu
              go_split_ands
              go_simp
              try with_reducible rfl
            simp only [Act.put, List.setIfInBounds_toArray, List.set_cons_zero, List.set_cons_succ]
            refine RunsZ.one (i := 17) (by kernel_rfl) (nth_z rfl) (by rfl) (fun K hK => ?_)
            go_simp
            have hS2 : (fun w' => w'.cell? ⟨w.heap.size, 0, none⟩ = some (.int .i64 N) ∧ w'.cell? ⟨bb, oo + k * 4, none⟩ = some (.int .i64 c) ∧ w'.cell? ⟨bb, oo + k * 4 + 1, none⟩ = some (.int .i64 d)) ((u0.alloc (.cells #[.int .i64 r, .int .i64 0, .int .i64 d, .int .i64 c] 60)).alloc (.cells #[.int .i64 0, .slice none 0 0] 49)) := ⟨cell_keep hS1.1 (balloc _ _), cell_keep hS1.2.1 (balloc _ _), cell_keep hS1.2.2 (balloc _ _)⟩
            refine hK.out _ _ (fun _ => hS2) ?_
            clear hK K
            try simp only [Act.put, List.setIfInBounds_toArray, List.set_cons_zero, List.set_cons_succ]
            refine RunsZ.one (i := 18) (by kernel_rfl) (nth_z rfl) (by rfl) (fun K hK => ?_)
            go_simp
            refine hK.out _ _ (fun h => absurd (by decide) h) ?_
            clear hK K
            try simp only [Act.put, List.setIfInBounds_toArray, List.set_cons_zero, List.set_cons_succ]
            refine RunsZ.done (by kernel_rfl) (NoPanic.normal ?_)
            go_wp2_with fail
            go_meet
            exact ⟨_, _, rfl, plw_mk D0.out (u := (u0.alloc (.cells #[.int .i64 r, .int .i64 0, .int .i64 d, .int .i64 c] 60)).alloc (.cells #[.int .i64 1, .slice (some ⟨u0.heap.size, 0, none⟩) 1 1] 49)) (btrans (balloc _ _) (balloc _ _)) (by omega) (Nat.le_refl _) (blk_two _ _ _ _ _).2 (blk_two _ _ _ _ _).1⟩
          · go_simp
            have hS1 : (fun w' => w'.cell? ⟨w.heap.size, 0, none⟩ = some (.int .i64 N) ∧ w'.cell? ⟨bb, oo + k * 4, none⟩ = some (.int .i64 c) ∧ w'.cell? ⟨bb, oo + k * 4 + 1, none⟩ = some (.int .i64 d)) (u0.alloc (.cells #[.int .i64 0, .slice none 0 0] 49)) := ⟨cell_keep hS0.1 (balloc _ _), cell_keep hS0.2.1 (balloc _ _), cell_keep hS0.2.2 (balloc _ _)⟩
            refine hK.out _ _ (fun _ => hS1) ?_
            clear hK K
            try simp only [Act.put, List.setIfInBounds_toArray, List.set_cons_zero, List.set_cons_succ]
            refine RunsZ.one (i := 15) (by kernel_rfl) (nth_z rfl) (by rfl) (fun K hK => ?_)
            go_simp
            have hS2 : (fun w' => w'.cell? ⟨w.heap.size, 0, none⟩ = some (.int .i64 N) ∧ w'.cell? ⟨bb, oo + k * 4, none⟩ = some (.int .i64 c) ∧ w'.cell? ⟨bb, oo + k * 4 + 1, none⟩ = some (.int .i64 d)) ((u0.alloc (.cells #[.int .i64 0, .slice none 0 0] 49)).alloc (.cells #[.int .i64 r, .int .i64 0, .int .i64 d, .int .i64 c] 60)) := ⟨cell_keep hS1.1 (balloc _ _), cell_keep hS1.2.1 (balloc _ _), cell_keep hS1.2.2 (balloc _ _)⟩
            refine hK.out _ _ (fun _ => hS2) ?_
            clear hK K
            try simp only [Act.put, List.setIfInBounds_toArray, List.set_cons_zero, List.set_cons_succ]
            refine RunsZ.take 12 (i := 16) (v := ?vb16) (nth_z rfl) (by kernel_rfl) (by kernel_rfl) (by kernel_rfl) (by kernel_rfl) (by kernel_rfl) (fun _ _ _ h => h) (Or.inl ⟨by rfl, ?yb16⟩) hS2 ?_
            case yb16 =>
              intro u hu
              try dsimp only at hu
              go_split_ands
              go_simp
              try with_reducible rfl
            simp only [Act.put, List.setIfInBounds_toArray, List.set_cons_zero, List.set_cons_succ]
            refine RunsZ.one (i := 18) (by kernel_rfl) (nth_z rfl) (by rfl) (fun K hK => ?_)
            go_simp
            refine hK.out _ _ (fun h => absurd (by decide) h) ?_
            clear hK K
            try simp only [Act.put, List.setIfInBounds_toArray, List.set_cons_zero, List.set_cons_succ]
            refine RunsZ.done (by kernel_rfl) (NoPanic.normal ?_)
            go_wp2_with fail
            go_meet
            exact ⟨_, _, rfl, plw_mk D0.out (u := (u0.alloc (.cells #[.int .i64 1, .slice (some ⟨(u0.heap.size + 1), 0, none⟩) 1 1] 49)).alloc (.cells #[.int .i64 r, .int .i64 0, .int .i64 d, .int .i64 c] 60)) (btrans (balloc _ _) (balloc _ _)) (Nat.le_refl _) (by omega) (blk_two _ _ _ _ _).1 (blk_two _ _ _ _ _).2⟩
        case rest =>
          obtain ⟨gp, gq, rfl, pw⟩ := hcut
          have P1 : Hid (PlW W gp gq 1 [⟨(r : Int), 0, d, c⟩] (.slice b k kb) ps wc) := pw.out
          clear pw S0 k0 y1 y2 y4 ys K0
          obtain ⟨⟨y1, y2, -, y4⟩, -⟩ : (wc.cell? ⟨bb, oo + k * 4, none⟩ = some (.int .i64 c) ∧ wc.cell? ⟨bb, oo + k * 4 + 1, none⟩ = some (.int .i64 d) ∧ wc.cell? ⟨bb, oo + k * 4 + 2, none⟩ = some (.int .i64 t) ∧ wc.cell? ⟨bb, oo + k * 4 + 3, none⟩ = some (.slice a5 xm.length cap5)) ∧ True := by
            obtain ⟨b9, o9, e9, _, h1, h2, h3, h4, _⟩ := (HL.out.below P1.out.bel).at HX.out
            simp only [Option.some.injEq, Addr.mk.injEq, and_true] at e9
            obtain ⟨rfl, rfl⟩ := e9
            exact ⟨⟨h1, h2, h3, h4⟩, trivial⟩
          have k0 : wc.cell? ⟨w.heap.size, 0, none⟩ = some (.int .i64 N) := (KW.out.below P1.out.bel).cell 0
          have e1 := and1 (q : Int)
          go_upto_region 9 with fail
          go_cut [68] from 44 to 67 (fun x wx => ∃ β : Bool, x = .bool β ∧ wc = wx)
          case first =>
            by_cases h0 : xm.length = 0
            · have d0 : ((xm.length : Int) == 0) = true := by simp [h0]
              by_cases h1 : (q : Int) % 2 = 1
              · have d1 : ((q : Int) % 2 == 1) = true := by simp [h1]
                rw [h1] at e1
                by_cases h2 : 1 < N
                · have d2 : decide ((1 : Int) < (N : Int)) = true := by simp; omega
                  go_wp2_with fail
                  go_meet
                  exact ⟨_, rfl, rfl⟩
                · have d2 : decide ((1 : Int) < (N : Int)) = false := by simp; omega
                  go_wp2_with fail
                  go_meet
                  exact ⟨_, rfl, rfl⟩
              · have d1 : ((q : Int) % 2 == 1) = false := by simp [h1]
                have h1b : (q : Int) % 2 = 0 := by omega
                rw [h1b] at e1
                go_wp2_with fail
                go_meet
                exact ⟨_, rfl, rfl⟩
            · have d0 : ((xm.length : Int) == 0) = false := beq_eq_false_iff_ne.2 (by omega)
              go_wp2_with fail
              go_meet
              exact ⟨_, rfl, rfl⟩
          case rest =>
            obtain ⟨β, rfl, rfl⟩ := hcut
            go_upto_if 68 with fail
            go_cut [] from 69 to 99 (fun wx => ∃ (kd : Int) (gq : Nat) (ms : List Pc), Hid (PlW W gp gq kd ms (.slice b k kb) ps wx) ∧ PlOk N ⟨c, d, t, .slice a5 xm.length cap5, xm⟩ ⟨kd, .slice (some ⟨gq, 0, none⟩) ms.length ms.length, ms⟩)
            case first =>
              cases β
              · go_wp2_with fail
                go_meet
                exact ⟨1, gq, [⟨(r : Int), 0, d, c⟩], P1.out, plok_one hrN⟩
              · go_upto_region 10 with fail
                refine wp_region_noPanic (wp_region_runsZ (S := (fun w' => w'.cell? ⟨w.heap.size, 0, none⟩ = some (.int .i64 N) ∧ w'.cell? ⟨bb, oo + k * 4, none⟩ = some (.int .i64 c) ∧ w'.cell? ⟨bb, oo + k * 4 + 1, none⟩ = some (.int .i64 d))) (Z := [31]) (by kernel_rfl) ?_)
                have D1 : Hid (PlW W gp gq 1 [⟨(r : Int), 0, d, c⟩] (.slice b k kb) ps wc.drew) := P1.out.below (bdrew _)
                have hS0 : (fun w' => w'.cell? ⟨w.heap.size, 0, none⟩ = some (.int .i64 N) ∧ w'.cell? ⟨bb, oo + k * 4, none⟩ = some (.int .i64 c) ∧ w'.cell? ⟨bb, oo + k * 4 + 1, none⟩ = some (.int .i64 d)) wc.drew := ⟨cell_keep k0 (bdrew _), cell_keep y1 (bdrew _), cell_keep y2 (bdrew _)⟩
                generalize wc.drew = u0 at D1 hS0 ⊢
                refine RunsZ.take 12 (i := 0) (v := ?vc0) (nth_z rfl) (by kernel_rfl) (by kernel_rfl) (by kernel_rfl) (by kernel_rfl) (by kernel_rfl) (fun _ _ _ h => h) (Or.inl ⟨by rfl, ?yc0⟩) hS0 ?_
                case yc0 =>
                  intro u hu
                  try dsimp only at hu
                  go_split_ands
                  go_simp
                  try with_reducible rfl
                simp only [Act.put, List.setIfInBounds_toArray, List.set_cons_zero, List.set_cons_succ]
                refine RunsZ.take 12 (i := 1) (v := ?vc1) (nth_z rfl) (by kernel_rfl) (by kernel_rfl) (by kernel_rfl) (by kernel_rfl) (by kernel_rfl) (fun _ _ _ h => h) (Or.inl ⟨by rfl, ?yc1⟩) hS0 ?_
                case yc1 =>
                  intro u hu
                  try dsimp only at hu
                  go_split_ands
                  go_simp
                  try with_reducible rfl
                simp only [Act.put, List.setIfInBounds_toArray, List.set_cons_zero, List.set_cons_succ]
                refine RunsZ.take 12 (i := 2) (v := ?vc2) (nth_z rfl) (by kernel_rfl) (by kernel_rfl) (by kernel_rfl) (by kernel_rfl) (by kernel_rfl) (fun _ _ _ h => h) (Or.inl ⟨by rfl, ?yc2⟩) hS0 ?_
                case yc2 =>
                  intro u hu
                  try dsimp only at hu
                  go_split_ands
                  go_simp
                  try with_reducible rfl
                simp only [Act.put, List.setIfInBounds_toArray, List.set_cons_zero, List.set_cons_succ]
                refine RunsZ.take 12 (i := 3) (v := ?vc3) (nth_z rfl) (by kernel_rfl) (by kernel_rfl) (by kernel_rfl) (by kernel_rfl) (by kernel_rfl) (fun _ _ _ h => h) (Or.inl ⟨by rfl, ?yc3⟩) hS0 ?_
                case yc3 =>
                  intro u hu
                  try dsimp only at hu
                  go_split_ands
                  go_simp
                  try with_reducible rfl
                simp only [Act.put, List.setIfInBounds_toArray, List.set_cons_zero, List.set_cons_succ]
                refine RunsZ.take 12 (i := 4) (v := ?vc4) (nth_z rfl) (by kernel_rfl) (by kernel_rfl) (by kernel_rfl) (by kernel_rfl) (by kernel_rfl) (fun _ _ _ h => h) (Or.inl ⟨by rfl, ?yc4⟩) hS0 ?_
                case yc4 =>
                  intro u hu
                  try dsimp only at hu
                  go_split_ands
                  go_simp
                  try with_reducible rfl
                simp only [Act.put, List.setIfInBounds_toArray, List.set_cons_zero, List.set_cons_succ]
                refine RunsZ.take 12 (i := 5) (v := ?vc5) (nth_z rfl) (by kernel_rfl) (by kernel_rfl) (by kernel_rfl) (by kernel_rfl) (by kernel_rfl) (fun _ _ _ h => h) (Or.inl ⟨by rfl, ?yc5⟩) hS0 ?_
                case yc5 =>
                  intro u hu
                  try dsimp only at hu
                  go_split_ands
                  go_simp
                  try with_reducible rfl
                simp only [Act.put, List.setIfInBounds_toArray, List.set_cons_zero, List.set_cons_succ]
                refine RunsZ.take 12 (i := 6) (v := ?vc6) (nth_z rfl) (by kernel_rfl) (by kernel_rfl) (by kernel_rfl) (by kernel_rfl) (by kernel_rfl) (fun _ _ _ h => h) (Or.inl ⟨by rfl, ?yc6⟩) hS0 ?_
                case yc6 =>
                  intro u hu
                  try dsimp only at hu
                  go_split_ands
                  go_simp
                  try with_reducible rfl
                simp only [Act.put, List.setIfInBounds_toArray, List.set_cons_zero, List.set_cons_succ]
                refine RunsZ.take 12 (i := 7) (v := ?vc7) (nth_z rfl) (by kernel_rfl) (by kernel_rfl) (by kernel_rfl) (by kernel_rfl) (by kernel_rfl) (fun _ _ _ h => h) (Or.inl ⟨by rfl, ?yc7⟩) hS0 ?_
                case yc7 =>
                  intro u hu
                  try dsimp only at hu
                  go_split_ands
                  go_simp
                  try with_reducible rfl
                simp only [Act.put, List.setIfInBounds_toArray, List.set_cons_zero, List.set_cons_succ]
                refine RunsZ.take 12 (i := 8) (v := ?vc8) (nth_z rfl) (by kernel_rfl) (by kernel_rfl) (by kernel_rfl) (by kernel_rfl) (by kernel_rfl) (fun _ _ _ h => h) (Or.inl ⟨by rfl, ?yc8⟩) hS0 ?_
                case yc8 =>
                  intro u hu
                  try dsimp only at hu
                  go_split_ands
                  go_simp
                  try with_reducible rfl
                simp only [Act.put, List.setIfInBounds_toArray, List.set_cons_zero, List.set_cons_succ]
                refine RunsZ.take 12 (i := 9) (v := ?vc9) (nth_z rfl) (by kernel_rfl) (by kernel_rfl) (by kernel_rfl) (by kernel_rfl) (by kernel_rfl) (fun _ _ _ h => h) (Or.inl ⟨by rfl, ?yc9⟩) hS0 ?_
                case yc9 =>
                  intro u hu
                  try dsimp only at hu
                  go_split_ands
                  go_simp
                  try with_reducible rfl
                simp only [Act.put, List.setIfInBounds_toArray, List.set_cons_zero, List.set_cons_succ]
                refine RunsZ.take 12 (i := 10) (v := ?vc10) (nth_z rfl) (by kernel_rfl) (by kernel_rfl) (by kernel_rfl) (by kernel_rfl) (by kernel_rfl) (fun _ _ _ h => h) (Or.inl ⟨by rfl, ?yc10⟩) hS0 ?_
                case yc10 =>
                  intro u hu
                  try dsimp only at hu
                  go_split_ands
                  go_simp
                  try with_reducible rfl
                simp only [Act.put, List.setIfInBounds_toArray, List.set_cons_zero, List.set_cons_succ]
                refine RunsZ.take 12 (i := 11) (v := ?vc11) (nth_z rfl) (by kernel_rfl) (by kernel_rfl) (by kernel_rfl) (by kernel_rfl) (by kernel_rfl) (fun _ _ _ h => h) (Or.inl ⟨by rfl, ?yc11⟩) hS0 ?_
                case yc11 =>
                  intro u hu
                  try dsimp only at hu
                  go_split_ands
                  go_simp
                  try with_reducible rfl
                simp only [Act.put, List.setIfInBounds_toArray, List.set_cons_zero, List.set_cons_succ]
                refine RunsZ.take 12 (i := 12) (v := ?vc12) (nth_z rfl) (by kernel_rfl) (by kernel_rfl) (by kernel_rfl) (by kernel_rfl) (by kernel_rfl) (fun _ _ _ h => h) (Or.inl ⟨by rfl, ?yc12⟩) hS0 ?_
                case yc12 =>
                  intro u hu
                  try dsimp only at hu
                  go_split_ands
                  go_simp
                  try with_reducible rfl
                simp only [Act.put, List.setIfInBounds_toArray, List.set_cons_zero, List.set_cons_succ]
                refine RunsZ.take 12 (i := 13) (v := ?vc13) (nth_z rfl) (by kernel_rfl) (by kernel_rfl) (by kernel_rfl) (by kernel_rfl) (by kernel_rfl) (fun _ _ _ h => h) (Or.inl ⟨by rfl, ?yc13⟩) hS0 ?_
                case yc13 =>
                  intro u hu
                  try dsimp only at hu
                  go_split_ands
                  go_simp
                  try with_reducible rfl
                simp only [Act.put, List.setIfInBounds_toArray, List.set_cons_zero, List.set_cons_succ]
                refine RunsZ.take 12 (i := 14) (v := ?vc14) (nth_z rfl) (by kernel_rfl) (by kernel_rfl) (by kernel_rfl) (by kernel_rfl) (by kernel_rfl) (fun _ _ _ h => h) (Or.inl ⟨by rfl, ?yc14⟩) hS0 ?_
                case yc14 =>
                  intro u hu
                  try dsimp only at hu
                  go_split_ands
                  go_simp
                  try with_reducible rfl
                simp only [Act.put, List.setIfInBounds_toArray, List.set_cons_zero, List.set_cons_succ]
                refine RunsZ.take 12 (i := 15) (v := ?vc15) (nth_z rfl) (by kernel_rfl) (by kernel_rfl) (by kernel_rfl) (by kernel_rfl) (by kernel_rfl) (fun _ _ _ h => h) (Or.inl ⟨by rfl, ?yc15⟩) hS0 ?_
                case yc15 =>
                  intro u hu
                  try dsimp only at hu
                  go_split_ands
                  go_simp
                  try with_reducible rfl
                simp only [Act.put, List.setIfInBounds_toArray, List.set_cons_zero, List.set_cons_succ]
                refine RunsZ.take 12 (i := 16) (v := ?vc16) (nth_z rfl) (by kernel_rfl) (by kernel_rfl) (by kernel_rfl) (by kernel_rfl) (by kernel_rfl) (fun _ _ _ h => h) (Or.inl ⟨by rfl, ?yc16⟩) hS0 ?_
                case yc16 =>
                  intro u hu
                  try dsimp only at hu
                  go_split_ands
                  go_simp
                  try with_reducible rfl
                simp only [Act.put, List.setIfInBounds_toArray, List.set_cons_zero, List.set_cons_succ]
                refine RunsZ.take 12 (i := 17) (v := ?vc17) (nth_z rfl) (by kernel_rfl) (by kernel_rfl) (by kernel_rfl) (by kernel_rfl) (by kernel_rfl) (fun _ _ _ h => h) (Or.inl ⟨by rfl, ?yc17⟩) hS0 ?_
                case yc17 =>
                  intro u hu
                  try dsimp only at hu
                  go_split_ands
                  go_simp
                  try with_reducible rfl
                simp only [Act.put, List.setIfInBounds_toArray, List.set_cons_zero, List.set_cons_succ]
                refine RunsZ.take 12 (i := 18) (v := ?vc18) (nth_z rfl) (by kernel_rfl) (by kernel_rfl) (by kernel_rfl) (by kernel_rfl) (by kernel_rfl) (fun _ _ _ h => h) (Or.inl ⟨by rfl, ?yc18⟩) hS0 ?_
                case yc18 =>
                  intro u hu
                  try dsimp only at hu
                  go_split_ands
                  go_simp
                  try with_reducible rfl
                simp only [Act.put, List.setIfInBounds_toArray, List.set_cons_zero, List.set_cons_succ]
                refine RunsZ.take 12 (i := 19) (v := ?vc19) (nth_z rfl) (by kernel_rfl) (by kernel_rfl) (by kernel_rfl) (by kernel_rfl) (by kernel_rfl) (fun _ _ _ h => h) (Or.inl ⟨by rfl, ?yc19⟩) hS0 ?_
                case yc19 =>
                  intro u hu
                  try dsimp only at hu
                  go_split_ands
                  go_simp
                  try with_reducible rfl
                simp only [Act.put, List.setIfInBounds_toArray, List.set_cons_zero, List.set_cons_succ]
                refine RunsZ.take 12 (i := 20) (v := ?vc20) (nth_z rfl) (by kernel_rfl) (by kernel_rfl) (by kernel_rfl) (by kernel_rfl) (by kernel_rfl) (fun _ _ _ h => h) (Or.inl ⟨by rfl, ?yc20⟩) hS0 ?_
                case yc20 =>
                  intro u hu
                  try dsimp only at hu
                  go_split_ands
                  go_simp
                  try with_reducible rfl
                simp only [Act.put, List.setIfInBounds_toArray, List.set_cons_zero, List.set_cons_succ]
                refine RunsZ.take 12 (i := 21) (v := ?vc21) (nth_z rfl) (by kernel_rfl) (by kernel_rfl) (by kernel_rfl) (by kernel_rfl) (by kernel_rfl) (fun _ _ _ h => h) (Or.inl ⟨by rfl, ?yc21⟩) hS0 ?_
                case yc21 =>
                  intro u hu
                  try dsimp only at hu
                  go_split_ands
                  go_simp
                  try with_reducible rfl
                simp only [Act.put, List.setIfInBounds_toArray, List.set_cons_zero, List.set_cons_succ]
                refine RunsZ.take 12 (i := 22) (v := ?vc22) (nth_z rfl) (by kernel_rfl) (by kernel_rfl) (by kernel_rfl) (by kernel_rfl) (by kernel_rfl) (fun _ _ _ h => h) (Or.inl ⟨by rfl, ?yc22⟩) hS0 ?_
                case yc22 =>
                  intro u hu
                  try dsimp only at hu
                  go_split_ands
                  go_simp
                  try with_reducible rfl
                simp only [Act.put, List.setIfInBounds_toArray, List.set_cons_zero, List.set_cons_succ]
                refine RunsZ.take 12 (i := 23) (v := ?vc23) (nth_z rfl) (by kernel_rfl) (by kernel_rfl) (by kernel_rfl) (by kernel_rfl) (by kernel_rfl) (fun _ _ _ h => h) (Or.inl ⟨by rfl, ?yc23⟩) hS0 ?_
                case yc23 =>
                  intro u hu
                  try dsimp only at hu
                  go_split_ands
                  go_simp
                  try with_reducible rfl
                simp only [Act.put, List.setIfInBounds_toArray, List.set_cons_zero, List.set_cons_succ]
                refine RunsZ.take 12 (i := 24) (v := ?vc24) (nth_z rfl) (by kernel_rfl) (by kernel_rfl) (by kernel_rfl) (by kernel_rfl) (by kernel_rfl) (fun _ _ _ h => h) (Or.inl ⟨by rfl, ?yc24⟩) hS0 ?_
                case yc24 =>
                  intro u hu
                  try dsimp only at hu
                  go_split_ands
                  go_simp
                  try with_reducible rfl
                simp only [Act.put, List.setIfInBounds_toArray, List.set_cons_zero, List.set_cons_succ]
                refine RunsZ.take 12 (i := 25) (v := ?vc25) (nth_z rfl) (by kernel_rfl) (by kernel_rfl) (by kernel_rfl) (by kernel_rfl) (by kernel_rfl) (fun _ _ _ h => h) (Or.inl ⟨by rfl, ?yc25⟩) hS0 ?_
                case yc25 =>
                  intro u hu
                  try dsimp only at hu
                  go_split_ands
                  go_simp
                  try with_reducible rfl
                simp only [Act.put, List.setIfInBounds_toArray, List.set_cons_zero, List.set_cons_succ]
                refine RunsZ.take 12 (i := 26) (v := ?vc26) (nth_z rfl) (by kernel_rfl) (by kernel_rfl) (by kernel_rfl) (by kernel_rfl) (by kernel_rfl) (fun _ _ _ h => h) (Or.inl ⟨by rfl, ?yc26⟩) hS0 ?_
                case yc26 =>
                  intro u hu
                  try dsimp only at hu
                  go_split_ands
                  go_simp
                  try with_reducible rfl
                simp only [Act.put, List.setIfInBounds_toArray, List.set_cons_zero, List.set_cons_succ]
                refine RunsZ.take 12 (i := 27) (v := ?vc27) (nth_z rfl) (by kernel_rfl) (by kernel_rfl) (by kernel_rfl) (by kernel_rfl) (by kernel_rfl) (fun _ _ _ h => h) (Or.inl ⟨by rfl, ?yc27⟩) hS0 ?_
                case yc27 =>
                  intro u hu
                  try dsimp only at hu
                  go_split_ands
                  go_simp
                  try with_reducible rfl
                simp only [Act.put, List.setIfInBounds_toArray, List.set_cons_zero, List.set_cons_succ]
                refine RunsZ.take 12 (i := 28) (v := ?vc28) (nth_z rfl) (by kernel_rfl) (by kernel_rfl) (by kernel_rfl) (by kernel_rfl) (by kernel_rfl) (fun _ _ _ h => h) (Or.inl ⟨by rfl, ?yc28⟩) hS0 ?_
                case yc28 =>
                  intro u hu
                  try dsimp only at hu
                  go_split_ands
                  go_simp
                  try with_reducible rfl
                simp only [Act.put, List.setIfInBounds_toArray, List.set_cons_zero, List.set_cons_succ]
                refine RunsZ.one (i := 29) (by kernel_rfl) (nth_z rfl) (by rfl) (fun K hK => ?_)
                go_simp
                have hS1 : (fun w' => w'.cell? ⟨w.heap.size, 0, none⟩ = some (.int .i64 N) ∧ w'.cell? ⟨bb, oo + k * 4, none⟩ = some (.int .i64 c) ∧ w'.cell? ⟨bb, oo + k * 4 + 1, none⟩ = some (.int .i64 d)) (u0.alloc (.cells #[.int .i64 r, .int .i64 0, .int .i64 (c - 1), .int .i64 (c - 1), .int .i64 r2, .int .i64 (c - 1), .int .i64 1, .int .i64 1] 60)) := ⟨cell_keep hS0.1 (balloc _ _), cell_keep hS0.2.1 (balloc _ _), cell_keep hS0.2.2 (balloc _ _)⟩
                refine hK.out _ _ (fun _ => hS1) ?_
                clear hK K
                try simp only [Act.put, List.setIfInBounds_toArray, List.set_cons_zero, List.set_cons_succ]
                refine RunsZ.take 12 (i := 30) (v := ?vc30) (nth_z rfl) (by kernel_rfl) (by kernel_rfl) (by kernel_rfl) (by kernel_rfl) (by kernel_rfl) (fun _ _ _ h => h) (Or.inl ⟨by rfl, ?yc30⟩) hS1 ?_
                case yc30 =>
                  intro u hu
                  try dsimp only at hu
                  go_split_ands
                  go_simp
                  try with_reducible rfl
                simp only [Act.put, List.setIfInBounds_toArray, List.set_cons_zero, List.set_cons_succ]
                have D2 : Hid (PlW W gp gq 1 [⟨(r : Int), 0, d, c⟩] (.slice b k kb) ps (u0.alloc (.cells #[.int .i64 r, .int .i64 0, .int .i64 (c - 1), .int .i64 (c - 1), .int .i64 r2, .int .i64 (c - 1), .int .i64 1, .int .i64 1] 60))) := D1.out.below (balloc _ _)
                have QB : Hid (Blk (u0.alloc (.cells #[.int .i64 r, .int .i64 0, .int .i64 (c - 1), .int .i64 (c - 1), .int .i64 r2, .int .i64 (c - 1), .int .i64 1, .int .i64 1] 60)) u0.heap.size (pcC [⟨(r : Int), 0, c - 1, c - 1⟩, ⟨(r2 : Int), c - 1, 1, 1⟩]).toArray 60) := heap_alloc_new _ _
                have z0 : (u0.alloc (.cells #[.int .i64 r, .int .i64 0, .int .i64 (c - 1), .int .i64 (c - 1), .int .i64 r2, .int .i64 (c - 1), .int .i64 1, .int .i64 1] 60)).cell? ⟨gp, 0, none⟩ = some (.int .i64 1) := D2.out.box.cell 0
                have z1 : (u0.alloc (.cells #[.int .i64 r, .int .i64 0, .int .i64 (c - 1), .int .i64 (c - 1), .int .i64 r2, .int .i64 (c - 1), .int .i64 1, .int .i64 1] 60)).cell? ⟨gp, 1, none⟩ = some (.slice (some ⟨gq, 0, none⟩) 1 1) := D2.out.box.cell 1
                have f0 := D2.out.box.frozen 0
                have f1 := D2.out.box.frozen 1
                have lp := D2.out.box.lt
                have lp2 := D1.out.box.lt
                have gu := D1.out.bel.size
                generalize hU : u0.alloc _ = u1 at D2 QB z0 z1 f0 f1 lp hS1 ⊢
                refine RunsZ.one (i := 31) (by kernel_rfl) (nth_z rfl) (by rfl) (fun K hK => ?_)
                go_simp
                refine hK.out _ _ (fun h => absurd (by decide) h) ?_
                clear hK K
                try simp only [Act.put, List.setIfInBounds_toArray, List.set_cons_zero, List.set_cons_succ]
                refine RunsZ.done (by kernel_rfl) (NoPanic.normal ?_)
                go_wp2_with fail
                go_meet
                exact ⟨2, u0.heap.size, [⟨(r : Int), 0, c - 1, c - 1⟩, ⟨(r2 : Int), c - 1, 1, 1⟩], D2.out.again QB.out gu (by omega), plok_two hrN hrN2⟩
            case rest =>
              obtain ⟨kd, gq2, ms, pw, hok⟩ := hcut
              have P2 : Hid (PlW W gp gq2 kd ms (.slice b k kb) ps wc) := pw.out
              have HOK : Hid (PlOk N ⟨c, d, t, .slice a5 xm.length cap5, xm⟩ ⟨kd, .slice (some ⟨gq2, 0, none⟩) ms.length ms.length, ms⟩) := hok
              clear pw hok P1 y1 y2 y4 k0 e1
              have z0 : wc.cell? ⟨gp, 0, none⟩ = some (.int .i64 kd) := P2.out.box.cell 0
              have z1 : wc.cell? ⟨gp, 1, none⟩ = some (.slice (some ⟨gq2, 0, none⟩) ms.length ms.length) := P2.out.box.cell 1
              have sz := P2.out.bel.size
              have R4 : Hid (wc.ownsRow W.heap.size 49 2 (.slice b k kb) k (plC ps)) := by have := P2.out.own.own; rw [HPL.out] at this; exact this
              go_wp2_with (at_builtin; refine wpList_append_own_at _ rfl (.tmp 100) (.tmp 102) 41 rfl W.heap.size 49 i0 (.agg #[.int .i64 0, .slice none 0 0]) 2 32 Tryz.underlying41 hi0 hz0 hz1 hz2 rfl (by decide) _ _ _ rfl (R4.out.alloc _) ⟨wc.heap.size, 0, none⟩ 1 1 [.int .i64 kd, .slice (some ⟨gq2, 0, none⟩) ms.length ms.length] rfl rfl (cell_two _ _ _ _) (by intro u hu; simp at hu; rcases hu with rfl | rfl <;> rfl) (by unfold maxLen; omega) (by omega) (by simp; omega) ?_; intro v7 w7 own7 grow7 nil7 at7; have O7 : Hid (OwnP w7 W.heap.size v7 (ps ++ [⟨kd, .slice (some ⟨gq2, 0, none⟩) ms.length ms.length, ms⟩])) := (OwnP.snoc P2.out.own (p := ⟨kd, .slice (some ⟨gq2, 0, none⟩) ms.length ms.length, ms⟩) ⟨gq2, rfl, P2.out.ge.2, P2.out.pcs⟩ (by rw [HPL.out]; exact own7) grow7); have B7 : Hid (Below W.heap.size W w7) := (P2.out.bel.trans (own_grow R4.out (by omega) grow7)); obtain ⟨b7, q7, e7⟩ := own_form own7; subst e7; clear own7 grow7 nil7 at7)
              go_roundg (n - (k + 1))
              case measure => omega
              case rel => exact ⟨k + 1, b7, q7, ps ++ [⟨kd, .slice (some ⟨gq2, 0, none⟩) ms.length ms.length, ms⟩], by omega, by go_num, rfl, by rw [List.length_append, HPL.out]; rfl, plok_snoc HPL.out hOk.out HX.out HOK.out, ⟨O7.out, B7.out⟩⟩
    · have e : k = n := by omega
      subst e
      go_wp2_with fail
      go_ret
      exact ⟨b, kb, ps, rfl, HPL.out, hOk.out, S0.out.own.mono (by have := HB0.out.size; omega), BB.out⟩
end Go.Proofs.YtakdliecjfeedaaGreatDoor
