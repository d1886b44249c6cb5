/- What comes in: loads; the laws' own copy of them. -/
import Derived.Test.YtakdliecjfeedaaGreatDoorOwn9
import Derived.Lib.SmallJoins
import Derived.Deep.Slices
import Derived.ChangeSame
import Derived.ChangeOld
import Derived.OpenShut
namespace Go.Proofs.YtakdliecjfeedaaGreatDoor
open Go Go.ChangeShapes Go.WideShapes Go.ChangeAt Go.RowKit

theorem cI64 : Tryz.prog.cellsOf 2 = 1 := by kernel_rfl
theorem cLd : Tryz.prog.cellsOf 55 = 3 := by kernel_rfl
/-- A slice of loads that came in. -/
def ALds (w : World) (a : Option Addr) (len cap : Nat) (l : List Sec) : Prop :=
  l.length = len ∧ len ≤ cap ∧ cap ≤ 9223372036854775807 ∧ ((a = none ∧ len = 0 ∧ cap = 0) ∨ ∃ x, a = some x ∧ News w x l)
theorem ALds.below {w w' : World} {a : Option Addr} {len cap : Nat} {l : List Sec} (h : ALds w a len cap l) (g : Below w.heap.size w w') : ALds w' a len cap l := by
  obtain ⟨h1, h2, h3, h4⟩ := h
  refine ⟨h1, h2, h3, ?_⟩
  rcases h4 with h4 | ⟨x, e, hc⟩
  · exact .inl h4
  · exact .inr ⟨x, e, hc.below g⟩
variable {H : Type} {enc : TypeId × Value → H} {w : World} {base fuel : Nat} {spare : Nat → Bool} {held : Bool}
set_option maxRecDepth 100000 in
theorem open_alds {x : DataW H × List MemPlace} {v : Value} (h : DataW.trod enc Tryz.prog w base spare held fuel 51 [v] = some x) : ∃ a len cap l, v = .slice a len cap ∧ ALds w a len cap l := by
  rcases Go.Deep.open_slice Tryz.underlying51 h with ⟨hcs, _⟩ | ⟨y, len, cap, m, n, D, Pl, hcs, _, hl, hm, hmm, _, hx⟩
  · simp at hcs
    subst hcs
    exact ⟨none, 0, 0, [], rfl, rfl, by omega, by omega, .inl ⟨rfl, rfl, rfl⟩⟩
  · simp at hcs
    subst hcs
    have hlm : len ≤ m := by rw [hmm]; split <;> omega
    have each : ∀ i, i < len → ∃ o : Sec, w.cell? (y.add (i * 3)) = some (.int .i64 o.res) ∧ w.cell? (y.add (i * 3 + 1)) = some (.int .i64 o.pos) ∧ w.cell? (y.add (i * 3 + 2)) = some (.int .i64 o.len) := by
      intro i hi
      obtain ⟨cs', h1, h2⟩ := hx i (by omega)
      rw [cLd] at h1
      obtain ⟨_, hlen, hcell⟩ := World.cells?_some h1
      obtain ⟨xs, k, _, _, _, hxl, hf⟩ := DataW.trod_struct Tryz.underlying55 h2
      match cs', hlen with
      | [v0, v1, v2], _ =>
        have g0 : DataW.trod enc Tryz.prog w base spare held k 2 (([v0, v1, v2].drop 0).take (Tryz.prog.cellsOf 2)) = xs[0]? := hf 0 _ rfl
        have g1 : DataW.trod enc Tryz.prog w base spare held k 2 (([v0, v1, v2].drop 1).take (Tryz.prog.cellsOf 2)) = xs[1]? := hf 1 _ rfl
        have g2 : DataW.trod enc Tryz.prog w base spare held k 2 (([v0, v1, v2].drop 2).take (Tryz.prog.cellsOf 2)) = xs[2]? := hf 2 _ rfl
        rw [cI64] at g0 g1 g2
        have k0 : DataW.trod enc Tryz.prog w base spare held k 2 [v0] = xs[0]? := g0
        have k1 : DataW.trod enc Tryz.prog w base spare held k 2 [v1] = xs[1]? := g1
        have k2 : DataW.trod enc Tryz.prog w base spare held k 2 [v2] = xs[2]? := g2
        match xs, hxl with
        | [y0, y1, y2], _ =>
          obtain ⟨n0, e0, _, q0⟩ := DataW.trod_int Tryz.underlying2 k0
          obtain ⟨n1, e1, _, q1⟩ := DataW.trod_int Tryz.underlying2 k1
          obtain ⟨n2, e2, _, q2⟩ := DataW.trod_int Tryz.underlying2 k2
          simp only [List.cons.injEq, and_true] at e0 e1 e2
          subst e0 e1 e2
          have d0 := hcell 0 (by omega)
          have d1 := hcell 1 (by omega)
          have d2 := hcell 2 (by omega)
          rw [Go.Deep.add_add] at d0 d1 d2
          exact ⟨⟨n0, n1, n2⟩, by simpa using d0, by simpa using d1, by simpa using d2⟩
    obtain ⟨f, hf⟩ := Go.Deep.choose_lt each
    refine ⟨some y, len, cap, (List.range len).map f, rfl, by simp, hl, by unfold maxLen at hm; omega, .inr ⟨y, rfl, fun q u hq => ?_⟩⟩
    have hql := (List.getElem?_eq_some_iff.1 hq).1
    rw [secC_length] at hql
    simp only [List.length_map, List.length_range] at hql
    obtain ⟨i, hi, e⟩ : ∃ i, i < len ∧ (q = i * 3 ∨ q = i * 3 + 1 ∨ q = i * 3 + 2) := ⟨q / 3, by omega, by omega⟩
    have hs : ((List.range len).map f)[i]? = some (f i) := by simp [hi]
    obtain ⟨a0, a1, a2⟩ := secC_get hs
    obtain ⟨b0, b1, b2⟩ := hf _ hi
    rcases e with rfl | rfl | rfl
    · rw [a0] at hq; rw [← Option.some.inj hq]; exact b0
    · rw [a1] at hq; rw [← Option.some.inj hq]; exact b1
    · rw [a2] at hq; rw [← Option.some.inj hq]; exact b2
theorem open_loads {x : DataW H × List MemPlace} {a : Option Addr} {len cap : Nat} (h : DataW.trod enc Tryz.prog w base spare held fuel 51 [.slice a len cap] = some x) : ∃ l, ALds w a len cap l := by
  obtain ⟨a', len', cap', l, e, hl⟩ := open_alds h
  simp only [Value.slice.injEq] at e
  obtain ⟨rfl, rfl, rfl⟩ := e
  exact ⟨l, hl⟩
theorem take_ten {l : List Sec} {n k : Nat} (h : l.length = n) (hk : k = min n 10) : l.take k = l.take 10 := by
  rw [hk, ← h, List.take_eq_take_iff]; omega
theorem secC_take (l : List Sec) (n : Nat) : secC (l.take n) = (secC l).take (n * 3) := by
  induction l generalizing n with
  | nil => simp [secC]
  | cons e l ih =>
    cases n with
    | zero => simp [secC]
    | succ n =>
      have := ih n
      rw [show (n + 1) * 3 = n * 3 + 3 by omega]
      simpa [secC] using this
theorem News.take {w : World} {x : Addr} {l : List Sec} (h : News w x l) (k : Nat) : News w x (l.take k) := by
  intro j u hu
  rw [secC_take] at hu
  have hj := (List.getElem?_eq_some_iff.1 hu).1
  rw [List.length_take] at hj
  rw [List.getElem?_take_of_lt (by omega)] at hu
  exact h j u hu
-- the laws' own copy: ten at most
set_option maxHeartbeats 4000000 in
set_option maxRecDepth 100000 in
theorem lloads_any (a : Option Addr) (len cap : Nat) (l : List Sec) (w : World) (hv : ALds w a len cap l) :
    Calls Tryz.prog 28 #[.slice a len cap] w fun e w' => ∃ u, e = .returned u ∧ OwnL w' w.heap.size u (l.take 10) ∧ Below w.heap.size w w' := by
  obtain ⟨i0, hi0, hz0, hz1, hz2⟩ := info_parts infoL
  obtain ⟨hl, hc1, hc2, hc3⟩ := hv
  obtain ⟨k, hk⟩ : ∃ k, k = min len 10 := ⟨_, rfl⟩
  have HK : Hid (l.take k = l.take 10) := take_ten hl hk
  have hmin : min (len : Int) 10 = (k : Int) := by omega
  have hk1 : (k : Int) ≤ cap := by omega
  have hk2 : k ≤ 10 := by omega
  have HL : Hid ((l.take k).length = k) := by unfold Hid; rw [List.length_take]; omega
  clear hk
  rcases hc3 with ⟨rfl, hz, rfl⟩ | ⟨x, rfl, hc⟩
  · subst hz
    have e0 : l = [] := List.length_eq_zero_iff.1 hl
    subst e0
    clear hk1 hk2 HL HK hc1 hc2 hl hmin
    have hmin : min (0 : Int) 10 = 0 := rfl
    go_enter Tryz.func28, Tryz.ntmps28
    go_wp2_with fail
    go_ret
    exact ⟨_, rfl, World.ownsRow_nil _ _ _ _, Below.refl _ _⟩
  · have HC : Hid (News w x (l.take k)) := hc.take k
    have own := World.ownsRow_nil w w.heap.size 55 3
    clear hc
    go_enter Tryz.func28, Tryz.ntmps28
    go_wp2_with (at_builtin; refine wpList_append_own_at _ rfl (.const (.slice none 0 0)) (.tmp 7) 51 rfl _ 55 i0 (.agg #[.int .i64 0, .int .i64 0, .int .i64 0]) 3 24 Tryz.underlying51 hi0 hz0 hz1 hz2 rfl (by decide) _ _ _ rfl own x k cap (secC (l.take k)) rfl (by rw [secC_length, HL.out]) HC.out (secC_one _) (by unfold maxLen; omega) (by omega) (Nat.le_refl _) ?_; intro v3 w3 own3 grow3 nil3 at3; rw [Nat.zero_add, List.nil_append] at own3; obtain ⟨a3, cap3, e3⟩ := own_form own3; subst e3; have Q3 : Hid (Below w.heap.size w w3) := gr_bel grow3 (fun k hk => by have h0 : (none : Option Nat) = some k := hk; cases h0) (Nat.le_refl _); have I3 : Hid (OwnL w3 w.heap.size (.slice a3 k cap3) (l.take 10)) := (by unfold Hid OwnL; rw [← HK.out, HL.out]; exact own3); clear own3 grow3 nil3 at3 own HC)
    go_ret
    exact ⟨_, rfl, I3.out, Q3.out⟩
/-- A slice of numbers that came in. -/
def ANums (w : World) (a : Option Addr) (len : Nat) (l : List Int) : Prop :=
  l.length = len ∧ len ≤ 9223372036854775807 ∧ ∀ i y, l[i]? = some y → ∃ x, a = some x ∧ w.cell? (x.add i) = some (.int .i64 y) ∧ -9223372036854775808 ≤ y ∧ y ≤ 9223372036854775807
theorem ANums.below {w w' : World} {a : Option Addr} {len : Nat} {l : List Int} (h : ANums w a len l) (g : Below w.heap.size w w') : ANums w' a len l := by
  obtain ⟨h1, h2, h3⟩ := h
  refine ⟨h1, h2, fun i y hi => ?_⟩
  obtain ⟨x, e, hc, r⟩ := h3 i y hi
  exact ⟨x, e, cell_keep hc g, r⟩
theorem cInt : Tryz.prog.cellsOf 3 = 1 := by kernel_rfl
set_option maxRecDepth 100000 in
theorem open_nums {x : DataW H × List MemPlace} {a : Option Addr} {len cap : Nat} (h : DataW.trod enc Tryz.prog w base spare held fuel 22 [.slice a len cap] = some x) : ∃ l, ANums w a len l := by
  rcases Go.Deep.open_slice Tryz.underlying22 h with ⟨hcs, _⟩ | ⟨y, l, c, m, n, D, Pl, hcs, _, hl, hm, hmm, _, hx⟩
  · simp at hcs
    obtain ⟨rfl, rfl, rfl⟩ := hcs
    exact ⟨[], rfl, by omega, fun i o hi => by simp at hi⟩
  · simp at hcs
    obtain ⟨rfl, rfl, rfl⟩ := hcs
    have hlm : len ≤ m := by rw [hmm]; split <;> omega
    have each : ∀ i, i < len → ∃ o : Int, w.cell? (y.add i) = some (.int .i64 o) ∧ -9223372036854775808 ≤ o ∧ o ≤ 9223372036854775807 := by
      intro i hi
      obtain ⟨cs', h1, h2⟩ := hx i (by omega)
      rw [cInt] at h1
      obtain ⟨_, hlen, hcell⟩ := World.cells?_some h1
      match cs', hlen with
      | [v0], _ =>
        obtain ⟨s, e0, _, q0⟩ := DataW.trod_int Tryz.underlying3 h2
        simp only [List.cons.injEq, and_true] at e0
        subst e0
        have d0 := hcell 0 (by omega)
        rw [Go.Deep.add_add] at d0
        exact ⟨s, by simpa using d0, bounds_i64 q0⟩
    obtain ⟨f, hf⟩ := Go.Deep.choose_lt each
    refine ⟨(List.range len).map f, by simp, by unfold maxLen at hm; omega, fun i o hi => ?_⟩
    obtain ⟨hi1, hi2⟩ := List.getElem?_eq_some_iff.1 hi
    simp at hi1 hi2
    subst hi2
    exact ⟨y, rfl, hf i hi1⟩
end Go.Proofs.YtakdliecjfeedaaGreatDoor

/- What comes in: numbers of 64 bits; one load. -/
namespace Go.Proofs.YtakdliecjfeedaaGreatDoor
open Go Go.ChangeShapes Go.WideShapes Go.ChangeAt Go.RowKit

variable {H : Type} {enc : TypeId × Value → H} {w : World} {base fuel : Nat} {spare : Nat → Bool} {held : Bool}
set_option maxRecDepth 100000 in
theorem open_longs {x : DataW H × List MemPlace} {a : Option Addr} {len cap : Nat} (h : DataW.trod enc Tryz.prog w base spare held fuel 68 [.slice a len cap] = some x) : ∃ l, ANums w a len l := by
  rcases Go.Deep.open_slice Tryz.underlying68 h with ⟨hcs, _⟩ | ⟨y, l, c, m, n, D, Pl, hcs, _, hl, hm, hmm, _, hx⟩
  · simp at hcs
    obtain ⟨rfl, rfl, rfl⟩ := hcs
    exact ⟨[], rfl, by omega, fun i o hi => by simp at hi⟩
  · simp at hcs
    obtain ⟨rfl, rfl, rfl⟩ := hcs
    have hlm : len ≤ m := by rw [hmm]; split <;> omega
    have each : ∀ i, i < len → ∃ o : Int, w.cell? (y.add i) = some (.int .i64 o) ∧ -9223372036854775808 ≤ o ∧ o ≤ 9223372036854775807 := by
      intro i hi
      obtain ⟨cs', h1, h2⟩ := hx i (by omega)
      rw [cI64] at h1
      obtain ⟨_, hlen, hcell⟩ := World.cells?_some h1
      match cs', hlen with
      | [v0], _ =>
        obtain ⟨s, e0, _, q0⟩ := DataW.trod_int Tryz.underlying2 h2
        simp only [List.cons.injEq, and_true] at e0
        subst e0
        have d0 := hcell 0 (by omega)
        rw [Go.Deep.add_add] at d0
        exact ⟨s, by simpa using d0, bounds_i64 q0⟩
    obtain ⟨f, hf⟩ := Go.Deep.choose_lt each
    refine ⟨(List.range len).map f, by simp, by unfold maxLen at hm; omega, fun i o hi => ?_⟩
    obtain ⟨hi1, hi2⟩ := List.getElem?_eq_some_iff.1 hi
    simp at hi1 hi2
    subst hi2
    exact ⟨y, rfl, hf i hi1⟩
set_option maxRecDepth 100000 in
theorem open_load9 {r : Reach} {b0 : Nat} {v : Value} {d : DataW H} {p : List MemPlace} (hv : Value.okWide Tryz.prog w r b0 55 v) (h : DataW.Trod enc Tryz.prog w base spare held 55 v d p) :
    ∃ (a b c : Int), v = .agg #[.int .i64 a, .int .i64 b, .int .i64 c] ∧ (Lit.int .i64 a).wf = true ∧ (Lit.int .i64 b).wf = true ∧ (Lit.int .i64 c).wf = true := by
  obtain ⟨v0, v1, v2, y0, y1, y2, n, rfl, _, _, k0, k1, k2⟩ := Joins.open_agg3 Tryz.underlying55 (by kernel_rfl) cLd hv h
  obtain ⟨n0, e0, _, q0⟩ := DataW.trod_int Tryz.underlying2 k0
  obtain ⟨n1, e1, _, q1⟩ := DataW.trod_int Tryz.underlying2 k1
  obtain ⟨n2, e2, _, q2⟩ := DataW.trod_int Tryz.underlying2 k2
  simp only [List.cons.injEq, and_true] at e0 e1 e2
  subst e0 e1 e2
  exact ⟨n0, n1, n2, rfl, q0, q1, q2⟩
/-- What the laws' own copy hands back: a slice of loads that begins where its block does. -/
structure Cop9 (w : World) (base : Nat) (a : Option Addr) (n cap : Nat) (l : List Sec) : Prop where
  own : OwnL w base (.slice a n cap) l
  sec : Secs w (.slice a n cap) l
  cap : n ≤ cap
  len : l.length = n
theorem Cop9.of {w : World} {base : Nat} {u : Value} {l : List Sec} (h : OwnL w base u l) : ∃ a cap, u = .slice a l.length cap ∧ Cop9 w base a l.length cap l := by
  obtain ⟨a, cap, rfl⟩ := h.form
  refine ⟨a, cap, rfl, h, h.secs, ?_, rfl⟩
  rcases h.2 with ⟨e, hn⟩ | ⟨g, c, cur, e, hb, hh, h1, _⟩
  · simp only [Value.slice.injEq] at e; omega
  · simp only [Value.slice.injEq] at e; omega
theorem Cop9.below {w w' : World} {base : Nat} {a : Option Addr} {n cap : Nat} {l : List Sec} (h : Cop9 w base a n cap l) (g : Below w.heap.size w w') : Cop9 w' base a n cap l := ⟨h.own.below g, h.sec.below g, h.cap, h.len⟩
theorem Cop9.news {w : World} {base : Nat} {a : Option Addr} {n cap : Nat} {l : List Sec} (h : Cop9 w base a n cap l) : ALds w a n cap l := by
  refine ⟨h.len, h.cap, ?_, ?_⟩
  · rcases h.own.2 with ⟨e, hn⟩ | ⟨g, c, cur, e, hb, hh, h1, h2, _⟩
    · simp only [Value.slice.injEq] at e; omega
    · simp only [Value.slice.injEq] at e; unfold maxLen at h2; omega
  · rcases h.own.2 with ⟨e, hn⟩ | ⟨g, c, cur, e, hb, hh, h1, h2, _⟩
    · simp only [Value.slice.injEq] at e; exact .inl e
    · simp only [Value.slice.injEq] at e
      obtain ⟨rfl, -, -⟩ := e
      exact .inr ⟨_, rfl, secs_news h.sec⟩
theorem lloads_at (a : Option Addr) (len cap : Nat) (z : List Sec) (w0 w : World) (g0 : Below w0.heap.size w0 w) (hv : ALds w0 a len cap z) :
    Calls Tryz.prog 28 #[.slice a len cap] w fun e w' => ∃ b n c l, e = .returned (.slice b n c) ∧ l = z.take 10 ∧ n ≤ 10 ∧ Cop9 w' w0.heap.size b n c l ∧ Below w0.heap.size w0 w' := by
  refine (lloads_any a len cap z w (hv.below g0)).mono ?_
  rintro e w' ⟨u, rfl, ou, g⟩
  obtain ⟨b, c, rfl, h⟩ := Cop9.of (ou.mono g0.size)
  exact ⟨b, _, c, _, rfl, rfl, by rw [List.length_take]; omega, h, btrans g0 g⟩
end Go.Proofs.YtakdliecjfeedaaGreatDoor
