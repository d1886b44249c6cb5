/- A list of tasks turned: what lies there behind two appends; that nobody's wait turns. -/
import Derived.Test.YtakdliecjfeedaaGreatDoorOpen12
import Derived.Deep.RegionLaw
namespace Go.Proofs.YtakdliecjfeedaaGreatDoor
open Go Go.RowKit

def NewsT (w : World) (ad : Addr) (l : List TV) : Prop := ∀ j u, (tvC l)[j]? = some u → w.cell? (ad.add j) = some u
theorem NewsT.below {w w' : World} {ad : Addr} {l : List TV} (h : NewsT w ad l) (g : Below w.heap.size w w') : NewsT w' ad l := fun j u hu => cell_keep (h j u hu) g
theorem tvC_take (l : List TV) (n : Nat) : tvC (l.take n) = (tvC l).take (n * 4) := by
  induction l generalizing n with
  | nil => simp [tvC]
  | cons e l ih =>
    cases n with
    | zero => simp [tvC]
    | succ n =>
      have := ih n
      rw [show (n + 1) * 4 = n * 4 + 4 by omega]
      simpa [tvC] using this
theorem tvC_drop (l : List TV) (n : Nat) : tvC (l.drop n) = (tvC l).drop (n * 4) := by
  induction l generalizing n with
  | nil => simp [tvC]
  | cons e l ih =>
    cases n with
    | zero => simp [tvC]
    | succ n =>
      have := ih n
      rw [show (n + 1) * 4 = n * 4 + 4 by omega]
      simpa [tvC] using this
theorem NewsT.take {w : World} {ad : Addr} {l : List TV} (h : NewsT w ad l) (k : Nat) : NewsT w ad (l.take k) := by
  intro j u hu
  rw [tvC_take, List.getElem?_take] at hu
  split at hu
  · exact h j u hu
  · cases hu
theorem NewsT.drop {w : World} {g : Nat} {l : List TV} (h : NewsT w ⟨g, 0, none⟩ l) (k : Nat) : NewsT w ⟨g, k * 4, none⟩ (l.drop k) := by
  intro j u hu
  rw [tvC_drop, List.getElem?_drop] at hu
  have := h _ u hu
  rw [addr_add] at this ⊢
  rw [Nat.zero_add] at this
  exact this
theorem OwnT.news {w : World} {base g n cap : Nat} {l : List TV} (h : OwnT w base (.slice (some ⟨g, 0, none⟩) n cap) l) : NewsT w ⟨g, 0, none⟩ l := by
  intro j u hu
  have hl := (List.getElem?_eq_some_iff.1 hu).1
  rw [tvC_length] at hl
  rw [addr_add, Nat.zero_add]
  rcases h.own.2 with ⟨e, _⟩ | ⟨g', c, cur, e, hb, hh, h1, h2, h3, h4⟩
  · simp at e
  · simp only [Value.slice.injEq, Option.some.injEq, Addr.mk.injEq] at e
    obtain ⟨⟨rfl, -, -⟩, -, rfl⟩ := e
    rw [← h4, List.getElem?_take_of_lt (by omega)] at hu
    simp only [World.cell?, hh]
    simpa using hu
/-- Behind the two appends of a list turned. -/
theorem rot_endT {vp W w1 w2 : World} {v1 v2 : Value} {B n k : Nat} {l : List TV} (hl : l.length = n) (hk : k ≤ n) (hBv : B ≤ vp.heap.size) (sec : ∀ x ∈ l, vp.ownsRow B 39 3 x.u x.m.length (secC x.m)) (g : Below vp.heap.size vp W) (hB : vp.heap.size ≤ W.heap.size)
    (gr1 : W.grownBy w1 none) (own1 : w1.ownsRow vp.heap.size 34 4 v1 (n - k) (tvC (l.drop k))) (gr2 : w1.grownBy w2 v1.ownBlock) (own2 : w2.ownsRow vp.heap.size 34 4 v2 (n - k + k) (tvC (l.drop k) ++ tvC (l.take k))) :
    OwnT w2 B v2 (l.drop k ++ l.take k) ∧ Below vp.heap.size vp w2 := by
  refine ⟨⟨?_, fun x hx => ?_⟩, ?_⟩
  · rw [tvC_append, List.length_append, List.length_drop, List.length_take, hl, show min k n = k by omega]
    exact ownT_mono own2 hBv
  · have hx' : x ∈ l := by
      rcases List.mem_append.1 hx with hx | hx
      · exact List.mem_of_mem_drop hx
      · exact List.mem_of_mem_take hx
    have s1 := own_keep (own_below (sec x hx') g) gr1 (fun k _ e => by cases e)
    exact own_keep s1 gr2 (fun k hk => own_ne s1 own1 tsk_ty k hk)
  · have s1 := gr1.size
    exact (g.trans (gr_bel gr1 (by simp) hB)).trans (gr_bel gr2 (fun q hq => (own1.lt q hq).1) (by omega))
-- the mathematics
def totL (res : List Int) (ag : Int) : List TV → Int
  | [] => 0
  | x :: l => lonL res ag x.m + totL res ag l
theorem totL_append (res : List Int) (ag : Int) (l m : List TV) : totL res ag (l ++ m) = totL res ag l + totL res ag m := by
  induction l with
  | nil => simp [totL]
  | cons x l ih => simp only [List.cons_append, totL, ih]; omega
theorem oth_far (res : List Int) (ag i : Int) (l : List TV) (j : Nat) (h : i < j ∨ ((j + l.length : Nat) : Int) ≤ i) : othL res ag i l j = totL res ag l := by
  induction l generalizing j with
  | nil => rfl
  | cons x l ih =>
    simp only [othL, totL]
    rw [ih (j + 1) (by simp only [List.length_cons] at h; omega), if_neg (by simp only [List.length_cons] at h; omega)]
theorem oth_tot {res : List Int} {ag : Int} {l : List TV} {i : Nat} {x : TV} (h : l[i]? = some x) (j : Nat) : othL res ag ((j + i : Nat) : Int) l j + lonL res ag x.m = totL res ag l := by
  induction l generalizing i j with
  | nil => simp at h
  | cons y l ih =>
    cases i with
    | zero =>
      simp at h
      subst h
      simp only [othL, totL]
      rw [oth_far res ag _ l (j + 1) (by omega), if_pos (by omega)]
      omega
    | succ i =>
      have := ih (i := i) (by simpa using h) (j + 1)
      simp only [othL, totL]
      rw [show j + 1 + i = j + (i + 1) by omega] at this
      rw [if_neg (by omega)]
      omega
theorem secV_same {la : Int} {res : List Int} {l l' : List TV} {i j : Nat} {x : TV} (hx : l[i]? = some x) (hx' : l'[j]? = some x) (ht : ∀ ag, totL res ag l = totL res ag l') (s : Int) : secV la res l i s = secV la res l' j s := by
  unfold secV
  simp only [Int.toNat_natCast, hx, hx']
  by_cases h : 0 ≤ s
  · rw [if_pos (by omega), if_pos (by omega)]
    cases hs : x.m[s.toNat]? with
    | none => rfl
    | some y =>
      have a := oth_tot (res := res) (ag := resAt res y.res) hx 0
      have b := oth_tot (res := res) (ag := resAt res y.res) hx' 0
      have c := ht (resAt res y.res)
      rw [Nat.zero_add] at a b
      simp only
      omega
  · rw [if_neg (by omega), if_neg (by omega)]
theorem wSum_same {la : Int} {res : List Int} {l l' : List TV} {i j : Nat} {x : TV} (hx : l[i]? = some x) (hx' : l'[j]? = some x) (ht : ∀ ag, totL res ag l = totL res ag l') (n : Nat) : wSum la res l i n = wSum la res l' j n := by
  induction n with
  | zero => rfl
  | succ n ih => simp only [wSum]; rw [ih, secV_same hx hx' ht]
theorem waitV_same {la : Int} {res : List Int} {l l' : List TV} {i j : Nat} {x : TV} (hx : l[i]? = some x) (hx' : l'[j]? = some x) (ht : ∀ ag, totL res ag l = totL res ag l') : waitV la res l i = waitV la res l' j := by
  rw [waitV_at hx, waitV_at hx', wSum_same hx hx' ht]
theorem rot_get {α : Type} {l : List α} {k n : Nat} (hn : l.length = n) (hk : k < n) (i : Nat) (hi : i < n) : (l.drop k ++ l.take k)[i]? = l[(i + k) % n]? := by
  rw [List.getElem?_append, List.length_drop, hn]
  split
  · rw [List.getElem?_drop, Nat.mod_eq_of_lt (by omega), Nat.add_comm]
  · rw [List.getElem?_take_of_lt (by omega), Nat.mod_eq_sub_mod (by omega), Nat.mod_eq_of_lt (by omega)]
    congr 1
    omega
theorem rot_wait {la : Int} {res : List Int} {l : List TV} {k n : Nat} (hn : l.length = n) (hk : k < n) (i : Nat) (hi : i < n) : waitV la res (l.drop k ++ l.take k) i = waitV la res l ((i + k) % n : Nat) := by
  obtain ⟨x, hx⟩ : ∃ x, l[(i + k) % n]? = some x := ⟨_, List.getElem?_eq_getElem (by rw [hn]; exact Nat.mod_lt _ (by omega))⟩
  refine waitV_same (x := x) (by rw [rot_get hn hk i hi]; exact hx) hx (fun ag => ?_)
  rw [totL_append]
  have := totL_append res ag (l.take k) (l.drop k)
  rw [List.take_append_drop] at this
  omega
theorem Kn12.turned {co sy la mo : Int} {n q : Nat} {res : List Int} {l : List TV} (h : Kn12 co sy la mo n res q l) {k : Nat} (hk : k ≤ q) : Kn12 co sy la mo n res q (l.drop k ++ l.take k) :=
  ⟨h.cfg, h.rn, by rw [List.length_append, List.length_drop, List.length_take, h.lq]; omega, h.q12, fun x hx => by
    rcases List.mem_append.1 hx with hx | hx
    · exact h.all x (List.mem_of_mem_drop hx)
    · exact h.all x (List.mem_of_mem_take hx)⟩
theorem wTask_on {w : World} {co sy la mo : Int} {ad b : Option Addr} {n k q kb : Nat} {res : List Int} {l : List TV} (K : Kn12 co sy la mo n res q l) (hi : Ints w (.slice ad n k) res) (ht : Tks w (.slice b q kb) l) (i X : Int) (hX : waitV la res l i = X) :
    Calls Tryz.prog 16 #[.agg #[.int .i64 co, .int .i64 sy, .int .i64 la, .int .i64 mo, .slice ad n k], .slice b q kb, .int .i64 i] w fun e w' => e = .returned (.int .i64 X) ∧ Below w.heap.size w w' := by
  have := wTask_any co sy la mo (.slice ad n k) res b q kb l i w hi K.r6 K.cfg ht K.lq (by have := K.q12; omega) K.ms
  unfold waitA at this
  rw [if_pos K.may, hX] at this
  exact this
theorem wSec_on {w : World} {co sy la mo : Int} {ad b : Option Addr} {n k q kb : Nat} {res : List Int} {l : List TV} (K : Kn12 co sy la mo n res q l) (hi : Ints w (.slice ad n k) res) (ht : Tks w (.slice b q kb) l) (i s X : Int) (hX : secV la res l i s = X) :
    Calls Tryz.prog 14 #[.agg #[.int .i64 co, .int .i64 sy, .int .i64 la, .int .i64 mo, .slice ad n k], .slice b q kb, .int .i64 i, .int .i64 s] w fun e w' => e = .returned (.int .i64 X) ∧ Below w.heap.size w w' := by
  have := wSec_any co sy la mo (.slice ad n k) res b q kb l i s w hi K.r6 K.cfg ht K.lq (by have := K.q12; omega) K.ms
  unfold secA at this
  rw [if_pos K.may, hX] at this
  exact this
end Go.Proofs.YtakdliecjfeedaaGreatDoor

/- append of nothing to nothing. -/
namespace Go.Proofs.YtakdliecjfeedaaGreatDoor
open Go Go.RowKit

theorem run_append_nils {P : Program} (w : World) (t ty e : TypeId) (i : TypeInfo) (ht : P.underlying t = some (.slice e)) (hi : P.info? e = some i) :
    (Builtin.append_ #[t, t] ty #[.slice none 0 0, .slice none 0 0]).run P w = .ok (.slice none 0 0) w := by
  simp [Builtin.append_, run_underlying ht, sizeOf, typeInfo, hi, Builtin.lenOf, Builtin.firstCells]
theorem step_append_nils {P : Program} (w : World) {ops : Array Oper} {o : Oper} {a : Act} {K : Act → World → Prop} {Q : Exit → Act → World → Prop} {E : Prop} (hgd : o.guard = none) (s x : Operand) (t : TypeId)
    (ho : o.op = .call { callee := .builtin .append, args := #[s, x], argTypes := #[t, t] }) (e : TypeId) (i : TypeInfo) (ht : P.underlying t = some (.slice e)) (hi : P.info? e = some i)
    (hs : a.eval s = .slice none 0 0) (hx : a.eval x = .slice none 0 0) (h : K (a.put o.dst (.slice none 0 0)) w) :
    if Region.wanted o (yielded ops a.tmps) = true then Oper.wp P o a w K Q else E := by
  have hw : Region.wanted o (yielded ops a.tmps) = true := by simp [Region.wanted, hgd]
  rw [if_pos hw]
  have hr := run_append_nils (P := P) w t o.type e i ht hi
  unfold Oper.wp execOp
  simp only [ho, resolve, invoke, builtin, Sem.run_bind, Sem.run_pure, Result.andThen_ok, List.map_toArray, List.map_cons, List.map_nil, hs, hx, hr]
  exact h
/-- .. with a task more, behind a region that draws. -/
theorem OwnT.off {w w' : World} {base : Nat} {v : Value} {l : List TV} {S : List Nat} (h : OwnT w base v l) (o : Only S w w') (hS : ∀ k ∈ S, k < base) : OwnT w' base v l := ⟨own_only h.own o hS, fun x hx => own_only (h.sec x hx) o hS⟩
theorem Kn12.snoc {co sy la mo : Int} {n q : Nat} {res : List Int} {l : List TV} (h : Kn12 co sy la mo n res q l) {x : TV} (hx : tskB n x.tsk = true) (hq : q < 12) : Kn12 co sy la mo n res (q + 1) (l ++ [x]) :=
  ⟨h.cfg, h.rn, by rw [List.length_append, h.lq]; rfl, by omega, fun y hy => by
    rcases List.mem_append.1 hy with hy | hy
    · exact h.all y hy
    · simp at hy; subst hy; exact hx⟩
theorem oth_snoc {res : List Int} {ag : Int} {l : List TV} {x : TV} {i : Int} (j : Nat) (h : i < ((j + l.length : Nat) : Int)) : othL res ag i (l ++ [x]) j = othL res ag i l j + lonL res ag x.m := by
  induction l generalizing j with
  | nil => simp only [List.nil_append, othL, List.length_nil, Nat.add_zero] at h ⊢; rw [if_neg (by omega)]; omega
  | cons y l ih =>
    simp only [List.cons_append, othL]
    rw [ih (j + 1) (by simp only [List.length_cons] at h; omega)]
    omega
/-- With a task more each waits for its longest besides. -/
theorem sec_more {la : Int} {res : List Int} {l : List TV} {x X : TV} {i s : Nat} {Y : Sec} (hx : l[i]? = some X) (hy : X.m[s]? = some Y) : secV la res (l ++ [x]) i s = secV la res l i s + lonL res (resAt res Y.res) x.m := by
  have hl := (List.getElem?_eq_some_iff.1 hx).1
  rw [secV_at hx hy, secV_at (x := X) (by rw [List.getElem?_append_left hl]; exact hx) hy, oth_snoc 0 (by omega)]
  omega
theorem sec_least {la : Int} {res : List Int} {l : List TV} {X : TV} {i s : Nat} {Y : Sec} (hx : l[i]? = some X) (hy : X.m[s]? = some Y) (h : ∀ x ∈ l, ∀ s ∈ x.m, 1 ≤ s.len ∧ s.len ≤ 200) : 2 * la + 1 ≤ secV la res l i s := by
  rw [secV_at hx hy]
  have a := oth_bd (res := res) (ag := resAt res Y.res) (i := (i : Int)) h 0
  have b := h X (List.mem_of_getElem? hx) Y (List.mem_of_getElem? hy)
  omega
/-- Behind 'append(append(nil, l...), x)'. -/
theorem more_end {vp W w1 w2 w3 : World} {v1 v2 : Value} {B n : Nat} {l : List TV} {x : TV} (hl : l.length = n) (hBv : B ≤ vp.heap.size) (sec : ∀ y ∈ l ++ [x], vp.ownsRow B 39 3 y.u y.m.length (secC y.m)) (g : Below vp.heap.size vp W) (hB : vp.heap.size ≤ W.heap.size)
    (gr1 : W.grownBy w1 none) (own1 : w1.ownsRow vp.heap.size 34 4 v1 n (tvC l)) (g1 : Below w1.heap.size w1 w2) (gr2 : w2.grownBy w3 v1.ownBlock) (own2 : w3.ownsRow vp.heap.size 34 4 v2 (n + 1) (tvC l ++ [.int .i64 x.c, .int .i64 x.d, .int .i64 x.t, x.u])) :
    OwnT w3 B v2 (l ++ [x]) ∧ Below vp.heap.size vp w3 := by
  refine ⟨⟨?_, fun y hy => ?_⟩, ?_⟩
  · rw [tvC_append, List.length_append, hl]
    exact ownT_mono own2 hBv
  · have s1 := own_below (own_keep (own_below (sec y hy) g) gr1 (fun k _ e => by cases e)) g1
    exact own_keep s1 gr2 (fun k hk => own_ne s1 (own_below own1 g1) tsk_ty k hk)
  · have s1 := gr1.size
    have s2 := g1.size
    exact ((g.trans (gr_bel gr1 (by simp) hB)).trans (g1.mono (by omega))).trans (gr_bel gr2 (fun q hq => (own1.lt q hq).1) (by omega))
theorem set4_box {w : World} {g : Nat} {t : TypeId} {p q r s : Value} (h : Blk w g #[p, q, r, s] t) (a b c d : Value) : Blk ((((w.setCell ⟨g, 0, none⟩ a).setCell ⟨g, 1, none⟩ b).setCell ⟨g, 2, none⟩ c).setCell ⟨g, 3, none⟩ d) g #[a, b, c, d] t := by
  have := ((((h.set 0 a).1.set 1 b).1.set 2 c).1.set 3 d).1
  simpa using this
theorem set4_bel {w0 w : World} {g B : Nat} (h : Below B w0 w) (hg : B ≤ g) (a b c d : Value) : Below B w0 ((((w.setCell ⟨g, 0, none⟩ a).setCell ⟨g, 1, none⟩ b).setCell ⟨g, 2, none⟩ c).setCell ⟨g, 3, none⟩ d) :=
  ((((h.setCell (p := ⟨g, 0, none⟩) hg a).setCell (p := ⟨g, 1, none⟩) hg b).setCell (p := ⟨g, 2, none⟩) hg c).setCell (p := ⟨g, 3, none⟩) hg d)
/-- The opening, with a task in a box besides. -/
structure Ot12 (w0 : World) (co sy la mo : Int) (ad : Option Addr) (n k : Nat) (res : List Int) (b : Option Addr) (q kb : Nat) (l : List TV) (x : TV) (w : World) : Prop where
  op : Op12 w0 co sy la mo ad n k res b q kb l w
  bt : Blk w (w0.heap.size + 1) #[.int .i64 x.c, .int .i64 x.d, .int .i64 x.t, x.u] 34
  sec : w.ownsRow (w0.heap.size + 1) 39 3 x.u x.m.length (secC x.m)
theorem Ot12.below {w0 w w' : World} {co sy la mo : Int} {ad b : Option Addr} {n k q kb : Nat} {res : List Int} {l : List TV} {x : TV} (h : Ot12 w0 co sy la mo ad n k res b q kb l x w) (g : Below w.heap.size w w') : Ot12 w0 co sy la mo ad n k res b q kb l x w' := ⟨h.op.below g, h.bt.below g, own_below h.sec g⟩
theorem Ot12.drew {w0 w : World} {co sy la mo : Int} {ad b : Option Addr} {n k q kb : Nat} {res : List Int} {l : List TV} {x : TV} (h : Ot12 w0 co sy la mo ad n k res b q kb l x w) : Ot12 w0 co sy la mo ad n k res b q kb l x w.drew := h.below (bdrew _)
end Go.Proofs.YtakdliecjfeedaaGreatDoor
