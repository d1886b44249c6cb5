/- The laws' opening with plans beside. -/
import Derived.Test.YtakdliecjfeedaaGreatDoorOpen12
import Derived.Test.YtakdliecjfeedaaGreatDoorPlans12
import Derived.Test.YtakdliecjfeedaaGreatDoorRAll
import Derived.Test.YtakdliecjfeedaaGreatDoorSame12
namespace Go.Proofs.YtakdliecjfeedaaGreatDoor
open Go Go.RowKit

structure Op13 (w0 : World) (N : Nat) (sy la mo : Int) (ad : Option Addr) (n k : Nat) (res : List Int) (b : Option Addr) (q kb : Nat) (l : List TV) (pb : Option Addr) (pk : Nat) (ps : List PV) (w : World) : Prop where
  op : Op12 w0 N sy la mo ad n k res b q kb l w
  pl : OwnP w (w0.heap.size + 1) (.slice pb q pk) ps
variable {w0 w w' : World} {N : Nat} {sy la mo : Int} {ad b pb : Option Addr} {n k q kb pk : Nat} {res : List Int} {l : List TV} {ps : List PV}
theorem Op13.below (h : Op13 w0 N sy la mo ad n k res b q kb l pb pk ps w) (g : Below w.heap.size w w') : Op13 w0 N sy la mo ad n k res b q kb l pb pk ps w' := ⟨h.op.below g, h.pl.below g⟩
theorem Op13.drew (h : Op13 w0 N sy la mo ad n k res b q kb l pb pk ps w) : Op13 w0 N sy la mo ad n k res b q kb l pb pk ps w.drew := h.below (bdrew _)
/-- What an append to plans leaves of tasks. -/
theorem OwnT.keepP {base B m : Nat} {v pv : Value} {xs : List Value} (h : OwnT w base v l) (hp : w.ownsRow B 49 2 pv m xs) (gr : w.grownBy w' pv.ownBlock) : OwnT w' base v l :=
  ⟨own_keep h.own gr (fun k hk hk' => own_ne h.own hp (by decide) k hk hk'), fun x hx => own_keep (h.sec x hx) gr (fun k hk hk' => own_ne (h.sec x hx) hp (by decide) k hk hk')⟩
theorem own_at {base e z m cap : Nat} {a : Option Addr} {xs : List Value} (h : w.ownsRow base e z (.slice a m cap) m xs) (hn : 0 < m) : ∃ g, a = some ⟨g, 0, none⟩ ∧ m ≤ cap ∧ cap ≤ 9223372036854775807 := by
  rcases h.2 with ⟨e, _⟩ | ⟨g, c, cur, e, _, _, h1, h2, _⟩
  · simp only [Value.slice.injEq] at e; omega
  · simp only [Value.slice.injEq] at e
    obtain ⟨rfl, -, rfl⟩ := e
    exact ⟨g, rfl, h1, by unfold maxLen at h2; exact h2⟩
/-- What is known of the plans. -/
structure Kn13 (N : Nat) (l : List TV) (q : Nat) (ps : List PV) : Prop where
  len : ps.length = q
  ok : ∀ (i : Nat) (x : TV) (p : PV), l[i]? = some x → ps[i]? = some p → PlOk N x p
  lq : l.length = q
  n6 : 1 ≤ N ∧ N ≤ 6
theorem Kn13.all (h : Kn13 N l q ps) : ∀ p ∈ ps, p.m.length ≤ 1000 ∧ onB N p.m = true := fun p hp => by
  obtain ⟨i, hi⟩ := List.mem_iff_getElem?.1 hp
  obtain ⟨x, hx⟩ : ∃ x, l[i]? = some x := ⟨_, List.getElem?_eq_getElem (by rw [h.lq, ← h.len]; exact (List.getElem?_eq_some_iff.1 hi).1)⟩
  have := h.ok i x p hx hi
  exact ⟨by have := this.1; omega, this.2.1⟩
/-- What load.All and the document's tell. -/
def rowsL (la : Int) (res : List Int) (l : List TV) (ps : List PV) (N q : Nat) : List (List Sec) := allL la res l ps (List.replicate N []) q
theorem rowsL_length (la : Int) (res : List Int) (l : List TV) (ps : List PV) (N q : Nat) : (rowsL la res l ps N q).length = N := by unfold rowsL; rw [allL_length, List.length_replicate]
theorem rowsL_bd (K : Kn13 N l q ps) (h : q ≤ 12) (la : Int) (res : List Int) : ∀ r ∈ rowsL la res l ps N q, r.length ≤ 20000 := fun r hr => by
  have := all_len la res l ps N (fun p hp => (K.all p hp).1) q r hr
  omega
theorem Lay.rw {w0 w : World} {v : Value} {rows : List (List Sec)} (h : Lay w0 v rows w) : Rw w v rows := by
  obtain ⟨us, h1⟩ := h.own
  exact ⟨_, us, h1⟩
theorem lall_at {co : Int} (K : Kn12 co sy la mo n res q l) (P : Kn13 N l q ps) (hc : co = N) (h : Op13 w0 N sy la mo ad n k res b q kb l pb pk ps w) :
    Calls Tryz.prog 23 #[.agg #[.int .i64 N, .int .i64 sy, .int .i64 la, .int .i64 mo, .slice ad n k], .slice b q kb, .slice pb q pk] w fun e w' => ∃ g, e = .returned (.slice (some ⟨g, 0, none⟩) N N) ∧ Rw w' (.slice (some ⟨g, 0, none⟩) N N) (rowsL la res l ps N q) ∧ Below w.heap.size w w' := by
  subst hc
  refine (lall_any N sy la mo (.slice ad n k) res b q kb l pb pk ps N w h.op.ints K.r6 K.cfg h.op.own.tks K.lq K.may h.pl.plns P.len P.all rfl).mono ?_
  rintro e w' ⟨g, rfl, h1⟩
  exact ⟨g, rfl, h1.rw, h1.bel⟩
theorem rall_at {co : Int} (K : Kn12 co sy la mo n res q l) (P : Kn13 N l q ps) (hc : co = N) (h : Op13 w0 N sy la mo ad n k res b q kb l pb pk ps w) :
    Calls Tryz.prog 24 #[.agg #[.int .i64 N, .int .i64 sy, .int .i64 la, .int .i64 mo, .slice ad n k], .slice b q kb, .slice pb q pk] w fun e w' => ∃ g, e = .returned (.slice (some ⟨g, 0, none⟩) N N) ∧ Rw w' (.slice (some ⟨g, 0, none⟩) N N) (rowsL la res l ps N q) ∧ Below w.heap.size w w' := by
  subst hc
  refine (rall_any sy la mo (.slice ad n k) res b q kb l pb pk ps N w h.op.ints K.r6 K.cfg h.op.own.tks K.lq K.may h.pl.plns P.len P.all).mono ?_
  rintro e w' ⟨g, rfl, h1⟩
  exact ⟨g, rfl, h1.rw, h1.bel⟩
theorem plans_at {co : Int} (K : Kn12 co sy la mo n res q l) (hc : co = N) (ka : Option Addr) (kn kc : Nat) (kz : List Int) (hk : ANums w ka kn kz) (h : Op12 w0 N sy la mo ad n k res b q kb l w) :
    Calls Tryz.prog 22 #[.agg #[.int .i64 N, .int .i64 sy, .int .i64 la, .int .i64 mo, .slice ad n k], .slice b q kb, .slice ka kn kc] w fun e w' => ∃ pb pk ps, e = .returned (.slice pb q pk) ∧ Kn13 N l q ps ∧ Op13 w0 N sy la mo ad n k res b q kb l pb pk ps w' ∧ OwnP w' w.heap.size (.slice pb q pk) ps ∧ Below w.heap.size w w' := by
  subst hc
  have hN : 1 ≤ N ∧ N ≤ 6 := by have := (cfgB_iff.1 K.cfg).1; simp only at this; omega
  refine (plans_any N sy la mo ad n k b q kb l ka kn kc kz n w hN h.own.tks K.lq K.q12 K.all hk).mono ?_
  rintro e w' ⟨pb, pk, ps, rfl, h1, h2, h3, g⟩
  exact ⟨pb, pk, ps, rfl, ⟨h1, h2, K.lq, hN⟩, ⟨h.below g, h3.mono (by have := h.bc.lt; omega)⟩, h3, g⟩
def ofL (la : Int) (res : List Int) (l : List TV) (i : Nat) (X : TV) (kd : Int) (m : List Pc) (N : Nat) : List (List Sec) := layL X (waitV la res l i) kd (List.replicate N []) m
theorem ofL_length (la : Int) (res : List Int) (l : List TV) (i : Nat) (X : TV) (kd : Int) (m : List Pc) (N : Nat) : (ofL la res l i X kd m N).length = N := by unfold ofL; rw [layL_length, List.length_replicate]
theorem ofL_bd (P : Kn13 N l q ps) {i : Nat} {kd : Int} {u : Value} {m : List Pc} (hy : ps[i]? = some ⟨kd, u, m⟩) (la : Int) (res : List Int) (X : TV) : ∀ r ∈ ofL la res l i X kd m N, r.length ≤ 20000 := fun r hr => by
  have h1 := (P.all _ (List.mem_of_getElem? hy)).1
  have := lay_len _ _ _ 0 m (List.replicate N []) (fun r hr => by rw [List.eq_of_mem_replicate hr]; simp) r hr
  simp only at h1
  omega
theorem lof_at {co : Int} (K : Kn12 co sy la mo n res q l) (P : Kn13 N l q ps) (hc : co = N) (h : Op13 w0 N sy la mo ad n k res b q kb l pb pk ps w) {i : Nat} {c d t kd : Int} {a2 ap : Option Addr} {n2 k2 np cp : Nat} {xm : List Sec} {m : List Pc} (hx : l[i]? = some ⟨c, d, t, .slice a2 n2 k2, xm⟩) (hy : ps[i]? = some ⟨kd, .slice ap np cp, m⟩) :
    Calls Tryz.prog 26 #[.agg #[.int .i64 N, .int .i64 sy, .int .i64 la, .int .i64 mo, .slice ad n k], .slice b q kb, .int .i64 i, .agg #[.int .i64 kd, .slice ap np cp]] w fun e w' => ∃ g, e = .returned (.slice (some ⟨g, 0, none⟩) N N) ∧ Rw w' (.slice (some ⟨g, 0, none⟩) N N) (ofL la res l i ⟨c, d, t, .slice a2 n2 k2, xm⟩ kd m N) ∧ Below w.heap.size w w' := by
  subst hc
  have hp := (h.pl.pcb _ (List.mem_of_getElem? hy)).pcs
  have ha := P.all _ (List.mem_of_getElem? hy)
  refine (lof_any sy la mo (.slice ad n k) res b q kb l i c d t a2 n2 k2 xm kd ap cp np m N w h.op.ints K.r6 K.cfg h.op.own.tks K.lq K.may hx hp ha.1 ha.2).mono ?_
  rintro e w' ⟨g, rfl, -, h1⟩
  exact ⟨g, rfl, h1.rw, h1.bel⟩
theorem rof_at {co : Int} (K : Kn12 co sy la mo n res q l) (P : Kn13 N l q ps) (hc : co = N) (h : Op13 w0 N sy la mo ad n k res b q kb l pb pk ps w) {i : Nat} {c d t kd : Int} {a2 ap : Option Addr} {n2 k2 np cp : Nat} {xm : List Sec} {m : List Pc} (hx : l[i]? = some ⟨c, d, t, .slice a2 n2 k2, xm⟩) (hy : ps[i]? = some ⟨kd, .slice ap np cp, m⟩) :
    Calls Tryz.prog 27 #[.agg #[.int .i64 N, .int .i64 sy, .int .i64 la, .int .i64 mo, .slice ad n k], .slice b q kb, .int .i64 i, .agg #[.int .i64 kd, .slice ap np cp]] w fun e w' => ∃ g, e = .returned (.slice (some ⟨g, 0, none⟩) N N) ∧ Rw w' (.slice (some ⟨g, 0, none⟩) N N) (ofL la res l i ⟨c, d, t, .slice a2 n2 k2, xm⟩ kd m N) ∧ Below w.heap.size w w' := by
  subst hc
  have hp := (h.pl.pcb _ (List.mem_of_getElem? hy)).pcs
  have ha := P.all _ (List.mem_of_getElem? hy)
  have hnp : m.length = np := by
    obtain ⟨a, c, e⟩ := hp.form
    simp only [Value.slice.injEq] at e
    exact e.2.1.symm
  refine (rof_any sy la mo (.slice ad n k) res b q kb l i c d t a2 n2 k2 xm kd ap cp np m N w h.op.ints K.r6 K.cfg h.op.own.tks K.lq K.may hx hp hnp (by rw [← hnp]; exact ha.1) ha.2).mono ?_
  rintro e w' ⟨g, rfl, -, h1⟩
  exact ⟨g, rfl, h1.rw, h1.bel⟩
end Go.Proofs.YtakdliecjfeedaaGreatDoor
