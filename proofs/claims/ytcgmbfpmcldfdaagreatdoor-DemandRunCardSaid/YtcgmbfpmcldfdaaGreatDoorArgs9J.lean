/- What comes in: numbers of 64 bits; one load. -/
import Derived.Test.YtcgmbfpmcldfdaaGreatDoorArgs9
namespace Go.Proofs.YtcgmbfpmcldfdaaGreatDoor
open Go Go.ChangeShapes Go.WideShapes Go.ChangeAt Go.RowKit

variable {H : Type} {enc : TypeId × Value → H} {w : World} {base fuel : Nat} {spare : Nat → Bool} {held : Bool}
set_option maxRecDepth 100000 in
theorem open_longs {x : DataW H × List MemPlace} {a : Option Addr} {len cap : Nat} (h : DataW.trod enc Tryz.prog w base spare held fuel 27 [.slice a len cap] = some x) : ∃ l, ANums w a len l := by
  rcases Go.Deep.open_slice Tryz.underlying27 h with ⟨hcs, _⟩ | ⟨y, l, c, m, n, D, Pl, hcs, _, hl, hm, hmm, _, hx⟩
  · simp at hcs
    obtain ⟨rfl, rfl, rfl⟩ := hcs
    exact ⟨[], rfl, by omega, fun i o hi => by simp at hi⟩
  · simp at hcs
    obtain ⟨rfl, rfl, rfl⟩ := hcs
    have hlm : len ≤ m := by rw [hmm]; split <;> omega
    have each : ∀ i, i < len → ∃ o : Int, w.cell? (y.add i) = some (.int .i64 o) ∧ -9223372036854775808 ≤ o ∧ o ≤ 9223372036854775807 := by
      intro i hi
      obtain ⟨cs', h1, h2⟩ := hx i (by omega)
      rw [cI64] at h1
      obtain ⟨_, hlen, hcell⟩ := World.cells?_some h1
      match cs', hlen with
      | [v0], _ =>
        obtain ⟨s, e0, _, q0⟩ := DataW.trod_int Tryz.underlying2 h2
        simp only [List.cons.injEq, and_true] at e0
        subst e0
        have d0 := hcell 0 (by omega)
        rw [Go.Deep.add_add] at d0
        exact ⟨s, by simpa using d0, bounds_i64 q0⟩
    obtain ⟨f, hf⟩ := Go.Deep.choose_lt each
    refine ⟨(List.range len).map f, by simp, by unfold maxLen at hm; omega, fun i o hi => ?_⟩
    obtain ⟨hi1, hi2⟩ := List.getElem?_eq_some_iff.1 hi
    simp at hi1 hi2
    subst hi2
    exact ⟨y, rfl, hf i hi1⟩
set_option maxRecDepth 100000 in
theorem open_load9 {r : Reach} {b0 : Nat} {v : Value} {d : DataW H} {p : List MemPlace} (hv : Value.okWide Tryz.prog w r b0 29 v) (h : DataW.Trod enc Tryz.prog w base spare held 29 v d p) :
    ∃ (a b c : Int), v = .agg #[.int .i64 a, .int .i64 b, .int .i64 c] ∧ (Lit.int .i64 a).wf = true ∧ (Lit.int .i64 b).wf = true ∧ (Lit.int .i64 c).wf = true := by
  obtain ⟨v0, v1, v2, y0, y1, y2, n, rfl, _, _, k0, k1, k2⟩ := Joins.open_agg3 Tryz.underlying29 (by kernel_rfl) cLd hv h
  obtain ⟨n0, e0, _, q0⟩ := DataW.trod_int Tryz.underlying2 k0
  obtain ⟨n1, e1, _, q1⟩ := DataW.trod_int Tryz.underlying2 k1
  obtain ⟨n2, e2, _, q2⟩ := DataW.trod_int Tryz.underlying2 k2
  simp only [List.cons.injEq, and_true] at e0 e1 e2
  subst e0 e1 e2
  exact ⟨n0, n1, n2, rfl, q0, q1, q2⟩
/-- What the laws' own copy hands back: a slice of loads that begins where its block does. -/
structure Cop9 (w : World) (base : Nat) (a : Option Addr) (n cap : Nat) (l : List Sec) : Prop where
  own : OwnL w base (.slice a n cap) l
  sec : Secs w (.slice a n cap) l
  cap : n ≤ cap
  len : l.length = n
theorem Cop9.of {w : World} {base : Nat} {u : Value} {l : List Sec} (h : OwnL w base u l) : ∃ a cap, u = .slice a l.length cap ∧ Cop9 w base a l.length cap l := by
  obtain ⟨a, cap, rfl⟩ := h.form
  refine ⟨a, cap, rfl, h, h.secs, ?_, rfl⟩
  rcases h.2 with ⟨e, hn⟩ | ⟨g, c, cur, e, hb, hh, h1, _⟩
  · simp only [Value.slice.injEq] at e; omega
  · simp only [Value.slice.injEq] at e; omega
theorem Cop9.below {w w' : World} {base : Nat} {a : Option Addr} {n cap : Nat} {l : List Sec} (h : Cop9 w base a n cap l) (g : Below w.heap.size w w') : Cop9 w' base a n cap l := ⟨h.own.below g, h.sec.below g, h.cap, h.len⟩
theorem Cop9.news {w : World} {base : Nat} {a : Option Addr} {n cap : Nat} {l : List Sec} (h : Cop9 w base a n cap l) : ALds w a n cap l := by
  refine ⟨h.len, h.cap, ?_, ?_⟩
  · rcases h.own.2 with ⟨e, hn⟩ | ⟨g, c, cur, e, hb, hh, h1, h2, _⟩
    · simp only [Value.slice.injEq] at e; omega
    · simp only [Value.slice.injEq] at e; unfold maxLen at h2; omega
  · rcases h.own.2 with ⟨e, hn⟩ | ⟨g, c, cur, e, hb, hh, h1, h2, _⟩
    · simp only [Value.slice.injEq] at e; exact .inl e
    · simp only [Value.slice.injEq] at e
      obtain ⟨rfl, -, -⟩ := e
      exact .inr ⟨_, rfl, secs_news h.sec⟩
theorem lloads_at (a : Option Addr) (len cap : Nat) (z : List Sec) (w0 w : World) (g0 : Below w0.heap.size w0 w) (hv : ALds w0 a len cap z) :
    Calls Tryz.prog 6 #[.slice a len cap] w fun e w' => ∃ b n c l, e = .returned (.slice b n c) ∧ l = z.take 10 ∧ n ≤ 10 ∧ Cop9 w' w0.heap.size b n c l ∧ Below w0.heap.size w0 w' := by
  refine (lloads_any a len cap z w (hv.below g0)).mono ?_
  rintro e w' ⟨u, rfl, ou, g⟩
  obtain ⟨b, c, rfl, h⟩ := Cop9.of (ou.mono g0.size)
  exact ⟨b, _, c, _, rfl, rfl, by rw [List.length_take]; omega, h, btrans g0 g⟩
end Go.Proofs.YtcgmbfpmcldfdaaGreatDoor
