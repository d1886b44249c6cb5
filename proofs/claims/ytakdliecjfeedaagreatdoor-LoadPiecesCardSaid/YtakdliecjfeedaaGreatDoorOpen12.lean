/- The laws' opening: a configuration in its box, tasks of one's own; the rest as it was. -/
import Derived.Test.YtakdliecjfeedaaGreatDoorArgT
import Derived.Test.YtakdliecjfeedaaGreatDoorRSec
import Derived.Test.YtakdliecjfeedaaGreatDoorBegun9
namespace Go.Proofs.YtakdliecjfeedaaGreatDoor
open Go Go.RowKit

structure Op12 (w0 : World) (co sy la mo : Int) (ad : Option Addr) (n k : Nat) (res : List Int) (b : Option Addr) (q kb : Nat) (l : List TV) (w : World) : Prop where
  bc : Blk w w0.heap.size #[.int .i64 co, .int .i64 sy, .int .i64 la, .int .i64 mo, .slice ad n k] 24
  ints : Ints w (.slice ad n k) res
  own : OwnT w (w0.heap.size + 1) (.slice b q kb) l
  bel : Below w0.heap.size w0 w
variable {w0 w w' : World} {co sy la mo : Int} {ad b : Option Addr} {n k q kb : Nat} {res : List Int} {l : List TV}
theorem Op12.below (h : Op12 w0 co sy la mo ad n k res b q kb l w) (g : Below w.heap.size w w') : Op12 w0 co sy la mo ad n k res b q kb l w' := ⟨h.bc.below g, h.ints.below g, h.own.below g, btrans h.bel g⟩
theorem Op12.drew (h : Op12 w0 co sy la mo ad n k res b q kb l w) : Op12 w0 co sy la mo ad n k res b q kb l w.drew := h.below (bdrew _)
/-- What is known of them. -/
structure Kn12 (co sy la mo : Int) (n : Nat) (res : List Int) (q : Nat) (l : List TV) : Prop where
  cfg : cfgB ⟨co, sy, la, mo, res⟩ = true
  rn : res.length = n
  lq : l.length = q
  q12 : q ≤ 12
  all : ∀ x ∈ l, tskB n x.tsk = true
theorem Kn12.may (h : Kn12 co sy la mo n res q l) : mayV res.length l = true := by
  have h1 := h.lq
  have h2 := h.q12
  unfold mayV
  rw [Bool.and_eq_true, decide_eq_true_eq]
  exact ⟨by omega, List.all_eq_true.2 fun x hx => by rw [h.rn]; exact h.all x hx⟩
theorem Kn12.lag (h : Kn12 co sy la mo n res q l) : 0 ≤ la ∧ la ≤ 5 := (cfgB_iff.1 h.cfg).2.2.1
theorem Kn12.r6 (h : Kn12 co sy la mo n res q l) : res.length ≤ 1000000 := by have := (cfgB_iff.1 h.cfg).2.2.2.2.1; simp only at this; omega
theorem Kn12.ms (h : Kn12 co sy la mo n res q l) : ∀ x ∈ l, x.m.length ≤ 1000000 := fun x hx => by have := (tv_secs (h.all x hx)).1; omega
theorem Kn12.allr (h : Kn12 co sy la mo n res q l) : ∀ x ∈ l, tskB res.length x.tsk = true := by rw [h.rn]; exact h.all
/-- The contracts, at what the opening leaves. -/
theorem wSec_at (K : Kn12 co sy la mo n res q l) (h : Op12 w0 co sy la mo ad n k res b q kb l w) (i s X : Int) (hX : secV la res l i s = X) :
    Calls Tryz.prog 14 #[.agg #[.int .i64 co, .int .i64 sy, .int .i64 la, .int .i64 mo, .slice ad n k], .slice b q kb, .int .i64 i, .int .i64 s] w fun e w' => e = .returned (.int .i64 X) ∧ Below w.heap.size w w' := by
  have := wSec_any co sy la mo (.slice ad n k) res b q kb l i s w h.ints K.r6 K.cfg h.own.tks K.lq (by have := K.q12; omega) K.ms
  unfold secA at this
  rw [if_pos K.may, hX] at this
  exact this
theorem rsec_at (K : Kn12 co sy la mo n res q l) (h : Op12 w0 co sy la mo ad n k res b q kb l w) (i s X : Int) (hX : secV la res l i s = X) :
    Calls Tryz.prog 15 #[.agg #[.int .i64 co, .int .i64 sy, .int .i64 la, .int .i64 mo, .slice ad n k], .slice b q kb, .int .i64 i, .int .i64 s] w fun e w' => e = .returned (.int .i64 X) ∧ Below w.heap.size w w' := by
  have := rsec_any co sy la mo (.slice ad n k) res b q kb l i s w h.ints K.r6 K.lag.1 K.lag.2 h.own.tks K.lq K.q12 K.allr
  rw [hX] at this
  exact this
theorem wTask_at (K : Kn12 co sy la mo n res q l) (h : Op12 w0 co sy la mo ad n k res b q kb l w) (i X : Int) (hX : waitV la res l i = X) :
    Calls Tryz.prog 16 #[.agg #[.int .i64 co, .int .i64 sy, .int .i64 la, .int .i64 mo, .slice ad n k], .slice b q kb, .int .i64 i] w fun e w' => e = .returned (.int .i64 X) ∧ Below w.heap.size w w' := by
  have := wTask_any co sy la mo (.slice ad n k) res b q kb l i w h.ints K.r6 K.cfg h.own.tks K.lq (by have := K.q12; omega) K.ms
  unfold waitA at this
  rw [if_pos K.may, hX] at this
  exact this
theorem rwait_at (K : Kn12 co sy la mo n res q l) (h : Op12 w0 co sy la mo ad n k res b q kb l w) (i X : Int) (hX : waitV la res l i = X) :
    Calls Tryz.prog 17 #[.agg #[.int .i64 co, .int .i64 sy, .int .i64 la, .int .i64 mo, .slice ad n k], .slice b q kb, .int .i64 i] w fun e w' => e = .returned (.int .i64 X) ∧ Below w.heap.size w w' := by
  have := rwait_any co sy la mo (.slice ad n k) res b q kb l i w h.ints K.r6 K.lag.1 K.lag.2 h.own.tks K.lq K.q12 K.allr
  rw [hX] at this
  exact this
theorem wLong_at (K : Kn12 co sy la mo n res q l) (h : Op12 w0 co sy la mo ad n k res b q kb l w) (c d t : Int) (a2 : Option Addr) (n2 k2 : Nat) (m : List Sec) (hx : (⟨c, d, t, .slice a2 n2 k2, m⟩ : TV) ∈ l) (ag X : Int) (hX : lonL res ag m = X) :
    Calls Tryz.prog 18 #[.agg #[.int .i64 co, .int .i64 sy, .int .i64 la, .int .i64 mo, .slice ad n k], .agg #[.int .i64 c, .int .i64 d, .int .i64 t, .slice a2 n2 k2], .int .i64 ag] w fun e w' => e = .returned (.int .i64 X) ∧ Below w.heap.size w w' := by
  have := wLong_any co sy la mo (.slice ad n k) res c d t (.slice a2 n2 k2) m ag w h.ints K.r6 (own_secs (h.own.sec _ hx)) (K.ms _ hx) K.cfg
  unfold lonA at this
  rw [if_pos (show tskB res.length ⟨c, d, t, m⟩ = true from K.allr _ hx), hX] at this
  exact this
theorem rlong_at (K : Kn12 co sy la mo n res q l) (h : Op12 w0 co sy la mo ad n k res b q kb l w) (c d t : Int) (a2 : Option Addr) (n2 k2 : Nat) (m : List Sec) (hx : (⟨c, d, t, .slice a2 n2 k2, m⟩ : TV) ∈ l) (ag X : Int) (hX : lonL res ag m = X) :
    Calls Tryz.prog 19 #[.agg #[.int .i64 co, .int .i64 sy, .int .i64 la, .int .i64 mo, .slice ad n k], .agg #[.int .i64 c, .int .i64 d, .int .i64 t, .slice a2 n2 k2], .int .i64 ag] w fun e w' => e = .returned (.int .i64 X) ∧ Below w.heap.size w w' := by
  have := longest_any co sy la mo (.slice ad n k) res c d t (.slice a2 n2 k2) m ag w h.ints K.r6 (own_secs (h.own.sec _ hx)) (K.ms _ hx) (fun s hs => ((tv_secs (K.allr _ hx)).2 s hs).1)
  rw [hX] at this
  exact this
theorem OwnT.at {base : Nat} {a : Option Addr} {n cap : Nat} {l : List TV} {w : World} (h : OwnT w base (.slice a n cap) l) (hn : 0 < n) : ∃ g, a = some ⟨g, 0, none⟩ ∧ n ≤ cap ∧ cap ≤ 9223372036854775807 ∧ base ≤ g := by
  rcases h.own.2 with ⟨e, _⟩ | ⟨g, c, cur, e, hb, hh, h1, h2, _⟩
  · simp only [Value.slice.injEq] at e; omega
  · simp only [Value.slice.injEq] at e
    obtain ⟨rfl, e2, rfl⟩ := e
    exact ⟨g, rfl, by omega, by unfold maxLen at h2; omega, hb⟩
/-- What one of the tasks reads. -/
theorem Op12.cells {g i : Nat} {X : TV} (h : Op12 w0 co sy la mo ad n k res (some ⟨g, 0, none⟩) q kb l w) (hx : l[i]? = some X) : (w.cell? ⟨g, i * 4, none⟩ = some (.int .i64 X.c) ∧ w.cell? ⟨g, i * 4 + 1, none⟩ = some (.int .i64 X.d) ∧ w.cell? ⟨g, i * 4 + 2, none⟩ = some (.int .i64 X.t) ∧ w.cell? ⟨g, i * 4 + 3, none⟩ = some X.u) ∧ Secs w X.u X.m := by
  obtain ⟨b', o', e, _, h1, h2, h3, h4, h5⟩ := h.own.tks.at hx
  simp only [Option.some.injEq, Addr.mk.injEq, and_true] at e
  obtain ⟨rfl, rfl⟩ := e
  rw [Nat.zero_add] at h1 h2 h3 h4
  exact ⟨⟨h1, h2, h3, h4⟩, h5⟩
theorem one_tks {g i : Nat} {X : TV} (h : Op12 w0 co sy la mo ad n k res (some ⟨g, 0, none⟩) q kb l w) (hx : l[i]? = some X) (cp : Nat) : Tks w (.slice (some ⟨g, i * 4, none⟩) 1 cp) [X] := by
  have hl := (List.getElem?_eq_some_iff.1 hx).1
  obtain ⟨a, cap, e⟩ := h.own.form
  have ht := h.own.tks
  rw [e] at ht
  simp only [Value.slice.injEq] at e
  obtain ⟨rfl, rfl, rfl⟩ := e
  have := ht.part i 1 cp (by omega)
  rw [Nat.zero_add] at this
  have e2 : (l.drop i).take 1 = [X] := by
    obtain ⟨_, rfl⟩ := List.getElem?_eq_some_iff.1 hx
    rw [List.drop_eq_getElem_cons hl]; rfl
  rw [e2] at this
  exact this
theorem one_may (K : Kn12 co sy la mo n res q l) {X : TV} (hx : X ∈ l) : mayV res.length [X] = true := by
  unfold mayV; simp [K.allr X hx]
theorem wSec1_at {g i : Nat} {X : TV} (K : Kn12 co sy la mo n res q l) (h : Op12 w0 co sy la mo ad n k res (some ⟨g, 0, none⟩) q kb l w) (hx : l[i]? = some X) (cp : Nat) (s V : Int) (hV : secV la res [X] 0 s = V) :
    Calls Tryz.prog 14 #[.agg #[.int .i64 co, .int .i64 sy, .int .i64 la, .int .i64 mo, .slice ad n k], .slice (some ⟨g, i * 4, none⟩) 1 cp, .int .i64 0, .int .i64 s] w fun e w' => e = .returned (.int .i64 V) ∧ Below w.heap.size w w' := by
  have hm := List.mem_of_getElem? hx
  have := wSec_any co sy la mo (.slice ad n k) res (some ⟨g, i * 4, none⟩) 1 cp [X] 0 s w h.ints K.r6 K.cfg (one_tks h hx cp) rfl (by omega) (fun x hx => by simp at hx; subst hx; exact K.ms _ hm)
  unfold secA at this
  rw [if_pos (one_may K hm), hV] at this
  exact this
theorem wTask1_at {g i : Nat} {X : TV} (K : Kn12 co sy la mo n res q l) (h : Op12 w0 co sy la mo ad n k res (some ⟨g, 0, none⟩) q kb l w) (hx : l[i]? = some X) (cp : Nat) (V : Int) (hV : waitV la res [X] 0 = V) :
    Calls Tryz.prog 16 #[.agg #[.int .i64 co, .int .i64 sy, .int .i64 la, .int .i64 mo, .slice ad n k], .slice (some ⟨g, i * 4, none⟩) 1 cp, .int .i64 0] w fun e w' => e = .returned (.int .i64 V) ∧ Below w.heap.size w w' := by
  have hm := List.mem_of_getElem? hx
  have := wTask_any co sy la mo (.slice ad n k) res (some ⟨g, i * 4, none⟩) 1 cp [X] 0 w h.ints K.r6 K.cfg (one_tks h hx cp) rfl (by omega) (fun x hx => by simp at hx; subst hx; exact K.ms _ hm)
  unfold waitA at this
  rw [if_pos (one_may K hm), hV] at this
  exact this
theorem alone_sec {la : Int} {res : List Int} {X : TV} {t : Nat} {Y : Sec} (hY : X.m[t]? = some Y) : secV la res [X] 0 t = 2 * la + Y.len := by
  have := secV_at (la := la) (res := res) (l := [X]) (i := 0) (s := t) (x := X) rfl hY
  rw [show ((0 : Nat) : Int) = 0 from rfl] at this
  rw [this]
  simp [othL]
theorem alone_wait {la : Int} {res : List Int} {X : TV} : waitV la res [X] 0 = wSum la res [X] 0 X.m.length := waitV_at (i := 0) rfl
end Go.Proofs.YtakdliecjfeedaaGreatDoor
