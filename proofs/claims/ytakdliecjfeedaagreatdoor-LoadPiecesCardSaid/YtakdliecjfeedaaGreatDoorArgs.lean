/- What comes in: configurations, tasks. -/
import Derived.Test.YtakdliecjfeedaaGreatDoorCopy
import Derived.Lib.SmallJoins
import Derived.Deep.Slices
import Derived.ChangeSame
import Derived.ChangeOld
import Derived.OpenShut
namespace Go.Proofs.YtakdliecjfeedaaGreatDoor
open Go Go.ChangeShapes Go.WideShapes Go.ChangeAt Go.RowKit

theorem cInt : Tryz.prog.cellsOf 3 = 1 := by kernel_rfl
theorem cI64 : Tryz.prog.cellsOf 2 = 1 := by kernel_rfl
theorem cSec : Tryz.prog.cellsOf 39 = 3 := by kernel_rfl
theorem cTsk : Tryz.prog.cellsOf 34 = 4 := by kernel_rfl
theorem cCfg : Tryz.prog.cellsOf 24 = 5 := by kernel_rfl
theorem cSli : Tryz.prog.cellsOf 22 = 1 := by kernel_rfl
theorem cSls : Tryz.prog.cellsOf 32 = 1 := by kernel_rfl
variable {H : Type} {enc : TypeId × Value → H} {w : World} {base fuel : Nat} {spare : Nat → Bool} {held : Bool}
set_option maxRecDepth 100000 in
theorem open_ares {x : DataW H × List MemPlace} {v : Value} (h : DataW.trod enc Tryz.prog w base spare held fuel 22 [v] = some x) : ∃ a len cap l, v = .slice a len cap ∧ AInts w a len cap l := by
  rcases Go.Deep.open_slice Tryz.underlying22 h with ⟨hcs, _⟩ | ⟨y, len, cap, m, n, D, Pl, hcs, _, hl, hm, hmm, _, hx⟩
  · simp at hcs
    subst hcs
    exact ⟨none, 0, 0, [], rfl, rfl, by omega, by omega, .inl ⟨rfl, rfl, rfl⟩⟩
  · simp at hcs
    subst hcs
    have hlm : len ≤ m := by rw [hmm]; split <;> omega
    have each : ∀ i, i < len → ∃ o : Int, w.cell? (y.add i) = some (.int .i64 o) := by
      intro i hi
      obtain ⟨cs', h1, h2⟩ := hx i (by omega)
      rw [cInt] at h1
      obtain ⟨_, hlen, hcell⟩ := World.cells?_some h1
      match cs', hlen with
      | [v0], _ =>
        obtain ⟨s, e0, _⟩ := DataW.trod_int Tryz.underlying3 h2
        simp only [List.cons.injEq, and_true] at e0
        subst e0
        have d0 := hcell 0 (by omega)
        rw [Go.Deep.add_add] at d0
        exact ⟨s, by simpa using d0⟩
    obtain ⟨f, hf⟩ := Go.Deep.choose_lt each
    refine ⟨some y, len, cap, (List.range len).map f, rfl, by simp, hl, by unfold maxLen at hm; omega, .inr ⟨y, rfl, fun i o hi => ?_⟩⟩
    obtain ⟨hi1, hi2⟩ := List.getElem?_eq_some_iff.1 hi
    simp at hi1 hi2
    subst hi2
    exact hf i hi1
set_option maxRecDepth 100000 in
theorem open_asecs {x : DataW H × List MemPlace} {v : Value} (h : DataW.trod enc Tryz.prog w base spare held fuel 32 [v] = some x) : ∃ a len cap l, v = .slice a len cap ∧ ASecs w a len cap l := by
  rcases Go.Deep.open_slice Tryz.underlying32 h with ⟨hcs, _⟩ | ⟨y, len, cap, m, n, D, Pl, hcs, _, hl, hm, hmm, _, hx⟩
  · simp at hcs
    subst hcs
    exact ⟨none, 0, 0, [], rfl, rfl, by omega, by omega, .inl ⟨rfl, rfl, rfl⟩⟩
  · simp at hcs
    subst hcs
    have hlm : len ≤ m := by rw [hmm]; split <;> omega
    have each : ∀ i, i < len → ∃ o : Sec, w.cell? (y.add (i * 3)) = some (.int .i64 o.res) ∧ w.cell? (y.add (i * 3 + 1)) = some (.int .i64 o.pos) ∧ w.cell? (y.add (i * 3 + 2)) = some (.int .i64 o.len) := by
      intro i hi
      obtain ⟨cs', h1, h2⟩ := hx i (by omega)
      rw [cSec] at h1
      obtain ⟨_, hlen, hcell⟩ := World.cells?_some h1
      obtain ⟨xs, k, _, _, _, hxl, hf⟩ := DataW.trod_struct Tryz.underlying39 h2
      match cs', hlen with
      | [v0, v1, v2], _ =>
        have g0 : DataW.trod enc Tryz.prog w base spare held k 3 (([v0, v1, v2].drop 0).take (Tryz.prog.cellsOf 3)) = xs[0]? := hf 0 _ rfl
        have g1 : DataW.trod enc Tryz.prog w base spare held k 2 (([v0, v1, v2].drop 1).take (Tryz.prog.cellsOf 2)) = xs[1]? := hf 1 _ rfl
        have g2 : DataW.trod enc Tryz.prog w base spare held k 2 (([v0, v1, v2].drop 2).take (Tryz.prog.cellsOf 2)) = xs[2]? := hf 2 _ rfl
        rw [cInt] at g0
        rw [cI64] at g1 g2
        have k0 : DataW.trod enc Tryz.prog w base spare held k 3 [v0] = xs[0]? := g0
        have k1 : DataW.trod enc Tryz.prog w base spare held k 2 [v1] = xs[1]? := g1
        have k2 : DataW.trod enc Tryz.prog w base spare held k 2 [v2] = xs[2]? := g2
        match xs, hxl with
        | [y0, y1, y2], _ =>
          obtain ⟨n0, e0, _, q0⟩ := DataW.trod_int Tryz.underlying3 k0
          obtain ⟨n1, e1, _, q1⟩ := DataW.trod_int Tryz.underlying2 k1
          obtain ⟨n2, e2, _, q2⟩ := DataW.trod_int Tryz.underlying2 k2
          simp only [List.cons.injEq, and_true] at e0 e1 e2
          subst e0 e1 e2
          have d0 := hcell 0 (by omega)
          have d1 := hcell 1 (by omega)
          have d2 := hcell 2 (by omega)
          rw [Go.Deep.add_add] at d0 d1 d2
          exact ⟨⟨n0, n1, n2⟩, by simpa using d0, by simpa using d1, by simpa using d2⟩
    obtain ⟨f, hf⟩ := Go.Deep.choose_lt each
    refine ⟨some y, len, cap, (List.range len).map f, rfl, by simp, hl, by unfold maxLen at hm; omega, .inr ⟨y, rfl, fun q u hq => ?_⟩⟩
    have hql := (List.getElem?_eq_some_iff.1 hq).1
    rw [secC_length] at hql
    simp only [List.length_map, List.length_range] at hql
    obtain ⟨i, hi, e⟩ : ∃ i, i < len ∧ (q = i * 3 ∨ q = i * 3 + 1 ∨ q = i * 3 + 2) := ⟨q / 3, by omega, by omega⟩
    have hs : ((List.range len).map f)[i]? = some (f i) := by simp [hi]
    obtain ⟨a0, a1, a2⟩ := secC_get hs
    obtain ⟨b0, b1, b2⟩ := hf _ hi
    rcases e with rfl | rfl | rfl
    · rw [a0] at hq; rw [← Option.some.inj hq]; exact b0
    · rw [a1] at hq; rw [← Option.some.inj hq]; exact b1
    · rw [a2] at hq; rw [← Option.some.inj hq]; exact b2
set_option maxRecDepth 100000 in
theorem open_task {r : Reach} {b0 : Nat} {v : Value} {d : DataW H} {p : List MemPlace} (hv : Value.okWide Tryz.prog w r b0 34 v) (h : DataW.Trod enc Tryz.prog w base spare held 34 v d p) :
    ∃ (c dd t : Int) (a : Option Addr) (len cap : Nat) (l : List Sec), v = .agg #[.int .i64 c, .int .i64 dd, .int .i64 t, .slice a len cap] ∧ ASecs w a len cap l ∧ (Lit.int .i64 c).wf = true ∧ (Lit.int .i64 dd).wf = true ∧ (Lit.int .i64 t).wf = true := by
  obtain ⟨v0, v1, v2, v3, y0, y1, y2, y3, n, rfl, _, _, k0, k1, k2, k3⟩ := Joins.open_agg4 Tryz.underlying34 (by kernel_rfl) cTsk hv h
  obtain ⟨n0, e0, _, q0⟩ := DataW.trod_int Tryz.underlying2 k0
  obtain ⟨n1, e1, _, q1⟩ := DataW.trod_int Tryz.underlying2 k1
  obtain ⟨n2, e2, _, q2⟩ := DataW.trod_int Tryz.underlying2 k2
  simp only [List.cons.injEq, and_true] at e0 e1 e2
  subst e0 e1 e2
  obtain ⟨a, len, cap, l, rfl, hl⟩ := open_asecs k3
  exact ⟨n0, n1, n2, a, len, cap, l, rfl, hl, q0, q1, q2⟩
set_option maxRecDepth 100000 in
theorem open_config {r : Reach} {b0 : Nat} {v : Value} {d : DataW H} {p : List MemPlace} (hv : Value.okWide Tryz.prog w r b0 24 v) (h : DataW.Trod enc Tryz.prog w base spare held 24 v d p) :
    ∃ (co sy la mo : Int) (a : Option Addr) (len cap : Nat) (l : List Int), v = .agg #[.int .i64 co, .int .i64 sy, .int .i64 la, .int .i64 mo, .slice a len cap] ∧ AInts w a len cap l ∧ (Lit.int .i64 co).wf = true ∧ (Lit.int .i64 sy).wf = true ∧ (Lit.int .i64 la).wf = true ∧ (Lit.int .i64 mo).wf = true := by
  obtain ⟨cs, rfl, hsz⟩ := okWide_struct Tryz.underlying24 hv
  obtain ⟨fuel, hf⟩ := h
  obtain ⟨xs, k, _, _, _, hxl, hf⟩ := DataW.trod_struct Tryz.underlying24 hf
  rw [cCfg] at hsz
  obtain ⟨cl⟩ := cs
  match cl, hsz with
  | [v0, v1, v2, v3, v4], _ =>
    have g0 : DataW.trod enc Tryz.prog w base spare held k 3 (([v0, v1, v2, v3, v4].drop 0).take (Tryz.prog.cellsOf 3)) = xs[0]? := hf 0 _ rfl
    rw [cInt] at g0
    have k0 : DataW.trod enc Tryz.prog w base spare held k 3 [v0] = xs[0]? := g0
    have g1 : DataW.trod enc Tryz.prog w base spare held k 3 (([v0, v1, v2, v3, v4].drop 1).take (Tryz.prog.cellsOf 3)) = xs[1]? := hf 1 _ rfl
    rw [cInt] at g1
    have k1 : DataW.trod enc Tryz.prog w base spare held k 3 [v1] = xs[1]? := g1
    have g2 : DataW.trod enc Tryz.prog w base spare held k 2 (([v0, v1, v2, v3, v4].drop 2).take (Tryz.prog.cellsOf 2)) = xs[2]? := hf 2 _ rfl
    rw [cI64] at g2
    have k2 : DataW.trod enc Tryz.prog w base spare held k 2 [v2] = xs[2]? := g2
    have g3 : DataW.trod enc Tryz.prog w base spare held k 2 (([v0, v1, v2, v3, v4].drop 3).take (Tryz.prog.cellsOf 2)) = xs[3]? := hf 3 _ rfl
    rw [cI64] at g3
    have k3 : DataW.trod enc Tryz.prog w base spare held k 2 [v3] = xs[3]? := g3
    have g4 : DataW.trod enc Tryz.prog w base spare held k 22 (([v0, v1, v2, v3, v4].drop 4).take (Tryz.prog.cellsOf 22)) = xs[4]? := hf 4 _ rfl
    rw [cSli] at g4
    have k4 : DataW.trod enc Tryz.prog w base spare held k 22 [v4] = xs[4]? := g4
    match xs, hxl with
    | [y0, y1, y2, y3, y4], _ =>
      obtain ⟨n0, e0, _, q0⟩ := DataW.trod_int Tryz.underlying3 k0
      obtain ⟨n1, e1, _, q1⟩ := DataW.trod_int Tryz.underlying3 k1
      obtain ⟨n2, e2, _, q2⟩ := DataW.trod_int Tryz.underlying2 k2
      obtain ⟨n3, e3, _, q3⟩ := DataW.trod_int Tryz.underlying2 k3
      simp only [List.cons.injEq, and_true] at e0 e1 e2 e3
      subst e0 e1 e2 e3
      obtain ⟨a, len, cap, l, rfl, hl⟩ := open_ares (x := y4) k4
      exact ⟨n0, n1, n2, n3, a, len, cap, l, rfl, hl, q0, q1, q2, q3⟩
end Go.Proofs.YtakdliecjfeedaaGreatDoor
