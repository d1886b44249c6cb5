/- What comes in: a list of tasks. -/
import Derived.Test.YtakdliecjfeedaaGreatDoorTsk12
import Derived.Test.YtakdliecjfeedaaGreatDoorArgs
import Derived.Test.YtakdliecjfeedaaGreatDoorArgs9J
namespace Go.Proofs.YtakdliecjfeedaaGreatDoor
open Go Go.ChangeShapes Go.WideShapes Go.ChangeAt Go.RowKit

theorem cTk : Tryz.prog.cellsOf 34 = 4 := by kernel_rfl
theorem cSl : Tryz.prog.cellsOf 32 = 1 := by kernel_rfl
variable {H : Type} {enc : TypeId × Value → H} {w : World} {base fuel : Nat} {spare : Nat → Bool} {held : Bool}
set_option maxRecDepth 100000 in
theorem open_atsks {x : DataW H × List MemPlace} {v : Value} (h : DataW.trod enc Tryz.prog w base spare held fuel 25 [v] = some x) : ∃ a len cap l, v = .slice a len cap ∧ ATsks w a len cap l := by
  rcases Go.Deep.open_slice Tryz.underlying25 h with ⟨hcs, _⟩ | ⟨y, len, cap, m, n, D, Pl, hcs, _, hl, hm, hmm, _, hx⟩
  · simp at hcs
    subst hcs
    exact ⟨none, 0, 0, [], rfl, rfl, by omega, by omega, .inl ⟨rfl, rfl, rfl⟩⟩
  · simp at hcs
    subst hcs
    have hlm : len ≤ m := by rw [hmm]; split <;> omega
    have each : ∀ i, i < len → ∃ o : TI, (w.cell? (y.add (i * 4)) = some (.int .i64 o.c) ∧ w.cell? (y.add (i * 4 + 1)) = some (.int .i64 o.d) ∧ w.cell? (y.add (i * 4 + 2)) = some (.int .i64 o.t) ∧ w.cell? (y.add (i * 4 + 3)) = some (.slice o.a o.n o.k)) ∧ ASecs w o.a o.n o.k o.z := by
      intro i hi
      obtain ⟨cs', h1, h2⟩ := hx i (by omega)
      rw [cTk] at h1
      obtain ⟨_, hlen, hcell⟩ := World.cells?_some h1
      obtain ⟨xs, k, _, _, _, hxl, hf⟩ := DataW.trod_struct Tryz.underlying34 h2
      match cs', hlen with
      | [v0, v1, v2, v3], _ =>
        have g0 : DataW.trod enc Tryz.prog w base spare held k 2 (([v0, v1, v2, v3].drop 0).take (Tryz.prog.cellsOf 2)) = xs[0]? := hf 0 _ rfl
        have g1 : DataW.trod enc Tryz.prog w base spare held k 2 (([v0, v1, v2, v3].drop 1).take (Tryz.prog.cellsOf 2)) = xs[1]? := hf 1 _ rfl
        have g2 : DataW.trod enc Tryz.prog w base spare held k 2 (([v0, v1, v2, v3].drop 2).take (Tryz.prog.cellsOf 2)) = xs[2]? := hf 2 _ rfl
        have g3 : DataW.trod enc Tryz.prog w base spare held k 32 (([v0, v1, v2, v3].drop 3).take (Tryz.prog.cellsOf 32)) = xs[3]? := hf 3 _ rfl
        rw [cI64] at g0 g1 g2
        rw [cSl] at g3
        have k0 : DataW.trod enc Tryz.prog w base spare held k 2 [v0] = xs[0]? := g0
        have k1 : DataW.trod enc Tryz.prog w base spare held k 2 [v1] = xs[1]? := g1
        have k2 : DataW.trod enc Tryz.prog w base spare held k 2 [v2] = xs[2]? := g2
        have k3 : DataW.trod enc Tryz.prog w base spare held k 32 [v3] = xs[3]? := g3
        match xs, hxl with
        | [y0, y1, y2, y3], _ =>
          obtain ⟨n0, e0, _, q0⟩ := DataW.trod_int Tryz.underlying2 k0
          obtain ⟨n1, e1, _, q1⟩ := DataW.trod_int Tryz.underlying2 k1
          obtain ⟨n2, e2, _, q2⟩ := DataW.trod_int Tryz.underlying2 k2
          obtain ⟨a3, l3, c3, z3, e3, q3⟩ := open_asecs k3
          simp only [List.cons.injEq, and_true] at e0 e1 e2
          subst e0 e1 e2 e3
          have d0 := hcell 0 (by omega)
          have d1 := hcell 1 (by omega)
          have d2 := hcell 2 (by omega)
          have d3 := hcell 3 (by omega)
          rw [Go.Deep.add_add] at d0 d1 d2 d3
          exact ⟨⟨n0, n1, n2, a3, l3, c3, z3⟩, ⟨by simpa using d0, by simpa using d1, by simpa using d2, by simpa using d3⟩, q3⟩
    obtain ⟨f, hf⟩ := Go.Deep.choose_lt each
    refine ⟨some y, len, cap, (List.range len).map f, rfl, by simp, hl, by unfold maxLen at hm; omega, .inr ⟨y, rfl, fun i o hi => ?_⟩⟩
    obtain ⟨hi1, hi2⟩ := List.getElem?_eq_some_iff.1 hi
    simp at hi1 hi2
    subst hi2
    exact hf i hi1
theorem open_tsks {x : DataW H × List MemPlace} {a : Option Addr} {len cap : Nat} (h : DataW.trod enc Tryz.prog w base spare held fuel 25 [.slice a len cap] = some x) : ∃ l, ATsks w a len cap l := by
  obtain ⟨a', len', cap', l, e, hl⟩ := open_atsks h
  simp only [Value.slice.injEq] at e
  obtain ⟨rfl, rfl, rfl⟩ := e
  exact ⟨l, hl⟩
end Go.Proofs.YtakdliecjfeedaaGreatDoor
