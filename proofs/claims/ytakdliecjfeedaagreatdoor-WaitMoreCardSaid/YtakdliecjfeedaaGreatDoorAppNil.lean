/- append of nothing to nothing. -/
import Derived.Test.YtakdliecjfeedaaGreatDoorApp12
import Derived.Deep.RegionLaw
namespace Go.Proofs.YtakdliecjfeedaaGreatDoor
open Go Go.RowKit

theorem run_append_nils {P : Program} (w : World) (t ty e : TypeId) (i : TypeInfo) (ht : P.underlying t = some (.slice e)) (hi : P.info? e = some i) :
    (Builtin.append_ #[t, t] ty #[.slice none 0 0, .slice none 0 0]).run P w = .ok (.slice none 0 0) w := by
  simp [Builtin.append_, run_underlying ht, sizeOf, typeInfo, hi, Builtin.lenOf, Builtin.firstCells]
theorem step_append_nils {P : Program} (w : World) {ops : Array Oper} {o : Oper} {a : Act} {K : Act → World → Prop} {Q : Exit → Act → World → Prop} {E : Prop} (hgd : o.guard = none) (s x : Operand) (t : TypeId)
    (ho : o.op = .call { callee := .builtin .append, args := #[s, x], argTypes := #[t, t] }) (e : TypeId) (i : TypeInfo) (ht : P.underlying t = some (.slice e)) (hi : P.info? e = some i)
    (hs : a.eval s = .slice none 0 0) (hx : a.eval x = .slice none 0 0) (h : K (a.put o.dst (.slice none 0 0)) w) :
    if Region.wanted o (yielded ops a.tmps) = true then Oper.wp P o a w K Q else E := by
  have hw : Region.wanted o (yielded ops a.tmps) = true := by simp [Region.wanted, hgd]
  rw [if_pos hw]
  have hr := run_append_nils (P := P) w t o.type e i ht hi
  unfold Oper.wp execOp
  simp only [ho, resolve, invoke, builtin, Sem.run_bind, Sem.run_pure, Result.andThen_ok, List.map_toArray, List.map_cons, List.map_nil, hs, hx, hr]
  exact h
/-- .. with a task more, behind a region that draws. -/
theorem OwnT.off {w w' : World} {base : Nat} {v : Value} {l : List TV} {S : List Nat} (h : OwnT w base v l) (o : Only S w w') (hS : ∀ k ∈ S, k < base) : OwnT w' base v l := ⟨own_only h.own o hS, fun x hx => own_only (h.sec x hx) o hS⟩
theorem Kn12.snoc {co sy la mo : Int} {n q : Nat} {res : List Int} {l : List TV} (h : Kn12 co sy la mo n res q l) {x : TV} (hx : tskB n x.tsk = true) (hq : q < 12) : Kn12 co sy la mo n res (q + 1) (l ++ [x]) :=
  ⟨h.cfg, h.rn, by rw [List.length_append, h.lq]; rfl, by omega, fun y hy => by
    rcases List.mem_append.1 hy with hy | hy
    · exact h.all y hy
    · simp at hy; subst hy; exact hx⟩
theorem oth_snoc {res : List Int} {ag : Int} {l : List TV} {x : TV} {i : Int} (j : Nat) (h : i < ((j + l.length : Nat) : Int)) : othL res ag i (l ++ [x]) j = othL res ag i l j + lonL res ag x.m := by
  induction l generalizing j with
  | nil => simp only [List.nil_append, othL, List.length_nil, Nat.add_zero] at h ⊢; rw [if_neg (by omega)]; omega
  | cons y l ih =>
    simp only [List.cons_append, othL]
    rw [ih (j + 1) (by simp only [List.length_cons] at h; omega)]
    omega
/-- With a task more each waits for its longest besides. -/
theorem sec_more {la : Int} {res : List Int} {l : List TV} {x X : TV} {i s : Nat} {Y : Sec} (hx : l[i]? = some X) (hy : X.m[s]? = some Y) : secV la res (l ++ [x]) i s = secV la res l i s + lonL res (resAt res Y.res) x.m := by
  have hl := (List.getElem?_eq_some_iff.1 hx).1
  rw [secV_at hx hy, secV_at (x := X) (by rw [List.getElem?_append_left hl]; exact hx) hy, oth_snoc 0 (by omega)]
  omega
theorem sec_least {la : Int} {res : List Int} {l : List TV} {X : TV} {i s : Nat} {Y : Sec} (hx : l[i]? = some X) (hy : X.m[s]? = some Y) (h : ∀ x ∈ l, ∀ s ∈ x.m, 1 ≤ s.len ∧ s.len ≤ 200) : 2 * la + 1 ≤ secV la res l i s := by
  rw [secV_at hx hy]
  have a := oth_bd (res := res) (ag := resAt res Y.res) (i := (i : Int)) h 0
  have b := h X (List.mem_of_getElem? hx) Y (List.mem_of_getElem? hy)
  omega
/-- Behind 'append(append(nil, l...), x)'. -/
theorem more_end {vp W w1 w2 w3 : World} {v1 v2 : Value} {B n : Nat} {l : List TV} {x : TV} (hl : l.length = n) (hBv : B ≤ vp.heap.size) (sec : ∀ y ∈ l ++ [x], vp.ownsRow B 39 3 y.u y.m.length (secC y.m)) (g : Below vp.heap.size vp W) (hB : vp.heap.size ≤ W.heap.size)
    (gr1 : W.grownBy w1 none) (own1 : w1.ownsRow vp.heap.size 34 4 v1 n (tvC l)) (g1 : Below w1.heap.size w1 w2) (gr2 : w2.grownBy w3 v1.ownBlock) (own2 : w3.ownsRow vp.heap.size 34 4 v2 (n + 1) (tvC l ++ [.int .i64 x.c, .int .i64 x.d, .int .i64 x.t, x.u])) :
    OwnT w3 B v2 (l ++ [x]) ∧ Below vp.heap.size vp w3 := by
  refine ⟨⟨?_, fun y hy => ?_⟩, ?_⟩
  · rw [tvC_append, List.length_append, hl]
    exact ownT_mono own2 hBv
  · have s1 := own_below (own_keep (own_below (sec y hy) g) gr1 (fun k _ e => by cases e)) g1
    exact own_keep s1 gr2 (fun k hk => own_ne s1 (own_below own1 g1) tsk_ty k hk)
  · have s1 := gr1.size
    have s2 := g1.size
    exact ((g.trans (gr_bel gr1 (by simp) hB)).trans (g1.mono (by omega))).trans (gr_bel gr2 (fun q hq => (own1.lt q hq).1) (by omega))
theorem set4_box {w : World} {g : Nat} {t : TypeId} {p q r s : Value} (h : Blk w g #[p, q, r, s] t) (a b c d : Value) : Blk ((((w.setCell ⟨g, 0, none⟩ a).setCell ⟨g, 1, none⟩ b).setCell ⟨g, 2, none⟩ c).setCell ⟨g, 3, none⟩ d) g #[a, b, c, d] t := by
  have := ((((h.set 0 a).1.set 1 b).1.set 2 c).1.set 3 d).1
  simpa using this
theorem set4_bel {w0 w : World} {g B : Nat} (h : Below B w0 w) (hg : B ≤ g) (a b c d : Value) : Below B w0 ((((w.setCell ⟨g, 0, none⟩ a).setCell ⟨g, 1, none⟩ b).setCell ⟨g, 2, none⟩ c).setCell ⟨g, 3, none⟩ d) :=
  ((((h.setCell (p := ⟨g, 0, none⟩) hg a).setCell (p := ⟨g, 1, none⟩) hg b).setCell (p := ⟨g, 2, none⟩) hg c).setCell (p := ⟨g, 3, none⟩) hg d)
/-- The opening, with a task in a box besides. -/
structure Ot12 (w0 : World) (co sy la mo : Int) (ad : Option Addr) (n k : Nat) (res : List Int) (b : Option Addr) (q kb : Nat) (l : List TV) (x : TV) (w : World) : Prop where
  op : Op12 w0 co sy la mo ad n k res b q kb l w
  bt : Blk w (w0.heap.size + 1) #[.int .i64 x.c, .int .i64 x.d, .int .i64 x.t, x.u] 34
  sec : w.ownsRow (w0.heap.size + 1) 39 3 x.u x.m.length (secC x.m)
theorem Ot12.below {w0 w w' : World} {co sy la mo : Int} {ad b : Option Addr} {n k q kb : Nat} {res : List Int} {l : List TV} {x : TV} (h : Ot12 w0 co sy la mo ad n k res b q kb l x w) (g : Below w.heap.size w w') : Ot12 w0 co sy la mo ad n k res b q kb l x w' := ⟨h.op.below g, h.bt.below g, own_below h.sec g⟩
theorem Ot12.drew {w0 w : World} {co sy la mo : Int} {ad b : Option Addr} {n k q kb : Nat} {res : List Int} {l : List TV} {x : TV} (h : Ot12 w0 co sy la mo ad n k res b q kb l x w) : Ot12 w0 co sy la mo ad n k res b q kb l x w.drew := h.below (bdrew _)
end Go.Proofs.YtakdliecjfeedaaGreatDoor
