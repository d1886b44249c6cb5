/- The laws' own configuration: the one that came in, or one that may be. -/
import Derived.Test.YtakdliecjfeedaaGreatDoorCopy
import Derived.Test.YtakdliecjfeedaaGreatDoorGetT
import Derived.Test.YtakdliecjfeedaaGreatDoorRef
import Derived.Test.YtakdliecjfeedaaGreatDoorWLong
import Derived.Test.YtakdliecjfeedaaGreatDoorRef2
import Derived.Test.YtakdliecjfeedaaGreatDoorOwn9
import Derived.Deep.Slices
import Derived.Deep.LoopGhost
import Derived.Lib.RowBridge
namespace Go.Proofs.YtakdliecjfeedaaGreatDoor
open Go Go.RowKit

theorem set5_box {w : World} {g : Nat} {t : TypeId} {p q r s u : Value} (h : Blk w g #[p, q, r, s, u] t) (a b c d e : Value) : Blk (((((w.setCell ⟨g, 0, none⟩ a).setCell ⟨g, 1, none⟩ b).setCell ⟨g, 2, none⟩ c).setCell ⟨g, 3, none⟩ d).setCell ⟨g, 4, none⟩ e) g #[a, b, c, d, e] t := by
  have := (((((h.set 0 a).1.set 1 b).1.set 2 c).1.set 3 d).1.set 4 e).1
  simpa using this
theorem set5_bel {w0 w : World} {g B : Nat} (h : Below B w0 w) (hg : B ≤ g) (a b c d e : Value) : Below B w0 (((((w.setCell ⟨g, 0, none⟩ a).setCell ⟨g, 1, none⟩ b).setCell ⟨g, 2, none⟩ c).setCell ⟨g, 3, none⟩ d).setCell ⟨g, 4, none⟩ e) :=
  (((((h.setCell (p := ⟨g, 0, none⟩) hg a).setCell (p := ⟨g, 1, none⟩) hg b).setCell (p := ⟨g, 2, none⟩) hg c).setCell (p := ⟨g, 3, none⟩) hg d).setCell (p := ⟨g, 4, none⟩) hg e)
theorem cfg_own : cfgB ⟨2, 1, 1, 1, [0]⟩ = true := by decide
set_option maxHeartbeats 8000000 in
set_option maxRecDepth 100000 in
theorem cfg12_any (co sy la mo : Int) (a : Option Addr) (len cap : Nat) (l : List Int) (w : World) (hv : AInts w a len cap l) :
    Calls Tryz.prog 12 #[.agg #[.int .i64 co, .int .i64 sy, .int .i64 la, .int .i64 mo, .slice a len cap]] w fun e w' => ∃ (co2 sy2 la2 mo2 : Int) (ad : Option Addr) (n k : Nat) (res : List Int), e = .returned (.agg #[.int .i64 co2, .int .i64 sy2, .int .i64 la2, .int .i64 mo2, .slice ad n k]) ∧ cfgB ⟨co2, sy2, la2, mo2, res⟩ = true ∧ res.length = n ∧ w'.ownsRow w.heap.size 3 1 (.slice ad n k) n (res.map mkI) ∧ Below w.heap.size w w' := by
  have HV : Hid (AInts w a len cap l) := hv
  have B2 : Hid (Below w.heap.size w ((w.alloc (.cells #[.int .i64 co, .int .i64 sy, .int .i64 la, .int .i64 mo, .slice a len cap] 24)).alloc (.cells zCfg 24))) := btrans (balloc _ _) (balloc _ _)
  have cR : Blk ((w.alloc (.cells #[.int .i64 co, .int .i64 sy, .int .i64 la, .int .i64 mo, .slice a len cap] 24)).alloc (.cells zCfg 24)) (w.heap.size + 1) zCfg 24 := blkTwo _ _ _ _
  have cC : Blk ((w.alloc (.cells #[.int .i64 co, .int .i64 sy, .int .i64 la, .int .i64 mo, .slice a len cap] 24)).alloc (.cells zCfg 24)) w.heap.size #[.int .i64 co, .int .i64 sy, .int .i64 la, .int .i64 mo, .slice a len cap] 24 := (show Blk (w.alloc (.cells #[.int .i64 co, .int .i64 sy, .int .i64 la, .int .i64 mo, .slice a len cap] 24)) w.heap.size #[.int .i64 co, .int .i64 sy, .int .i64 la, .int .i64 mo, .slice a len cap] 24 from heap_alloc_new _ _).below (balloc _ _)
  clear hv
  go_enter Tryz.func12, Tryz.ntmps12
  go_wp2_with fail
  generalize hW : (w.alloc _).alloc _ = W at B2 cR cC ⊢
  clear hW
  have sW : w.heap.size + 1 < W.heap.size := cR.lt
  refine (lconfig_any co sy la mo a len cap l W (HV.out.below B2.out)).mono ?_
  rintro e w3 ⟨u, rfl, own, g3⟩
  have hr : (l.take 8).length ≤ 8 := by rw [List.length_take]; omega
  generalize l.take 8 = res at own hr
  obtain ⟨ad, k, rfl⟩ := own_form own
  have b3 := btrans B2.out g3
  have cC3 := cC.below g3
  have cR3 := cR.below g3
  have f0 := cC3.frozen 0
  have f1 := cC3.frozen 1
  have f2 := cC3.frozen 2
  have f3 := cC3.frozen 3
  have f4 := cC3.frozen 4
  have c0 := cC3.cell 0
  have c1 := cC3.cell 1
  have c2 := cC3.cell 2
  have c3 := cC3.cell 3
  have c4 := cC3.cell 4
  simp at c0 c1 c2 c3 c4
  clear g3 cC cR
  have bC := set5_box cC3 (.int .i64 co) (.int .i64 sy) (.int .i64 la) (.int .i64 mo) (.slice ad res.length k)
  have o5 := only5 w3 w.heap.size (.int .i64 co) (.int .i64 sy) (.int .i64 la) (.int .i64 mo) (.slice ad res.length k)
  have own4 := own_off own o5 (fun j hj => by have := (own.lt j hj).1; simp; omega)
  have bR := cR3.only o5 (by simp)
  have b4 := set5_bel b3 (Nat.le_refl _) (.int .i64 co) (.int .i64 sy) (.int .i64 la) (.int .i64 mo) (.slice ad res.length k)
  go_wp2_with fail
  generalize hZ : World.setCell _ _ _ = Z at bC own4 bR b4 ⊢
  clear hZ o5 c0 c1 c2 c3 c4 f0 f1 f2 f3 f4 cC3 cR3 own b3
  refine (refConfig_any co sy la mo _ res Z (own_ints own4) (by omega)).mono ?_
  rintro e w5 ⟨rfl, g5⟩
  have dC := bC.below g5
  have dR := bR.below g5
  have d4 := btrans b4 g5
  have own5 := own_below own4 g5
  clear g5 bC bR b4 own4
  have f0 := dR.frozen 0
  have f1 := dR.frozen 1
  have f2 := dR.frozen 2
  have f3 := dR.frozen 3
  have f4 := dR.frozen 4
  have c0 := dC.cell 0
  have c1 := dC.cell 1
  have c2 := dC.cell 2
  have c3 := dC.cell 3
  have c4 := dC.cell 4
  simp at c0 c1 c2 c3 c4
  have e0 := dR.cell 0
  have e1 := dR.cell 1
  have e2 := dR.cell 2
  have e3 := dR.cell 3
  have e4 := dR.cell 4
  simp [zCfg] at e0 e1 e2 e3 e4
  have hl5 := dR.lt
  cases hb : cfgB ⟨co, sy, la, mo, res⟩
  · have bR6 := set5_box (show Blk _ _ #[_, _, _, _, _] _ from dR) (.int .i64 2) (.int .i64 1) (.int .i64 1) (.int .i64 1) (.slice (some ⟨w5.heap.size, 0, none⟩) 1 1)
    have b6 := set5_bel d4 (show w.heap.size ≤ w.heap.size + 1 by omega) (.int .i64 2) (.int .i64 1) (.int .i64 1) (.int .i64 1) (.slice (some ⟨w5.heap.size, 0, none⟩) 1 1)
    have hsz : (((((w5.setCell ⟨w.heap.size + 1, 0, none⟩ (.int .i64 2)).setCell ⟨w.heap.size + 1, 1, none⟩ (.int .i64 1)).setCell ⟨w.heap.size + 1, 2, none⟩ (.int .i64 1)).setCell ⟨w.heap.size + 1, 3, none⟩ (.int .i64 1)).setCell ⟨w.heap.size + 1, 4, none⟩ (.slice (some ⟨w5.heap.size, 0, none⟩) 1 1)).heap.size = w5.heap.size := by simp [World.setCell]
    have hwB : w.heap.size ≤ w5.heap.size := by omega
    clear dC own5 dR d4
    go_wp2_with fail
    generalize hZ : World.setCell _ _ _ = Z at bR6 b6 hsz ⊢
    clear hZ
    have dZ := bR6.below (balloc Z (.cells #[.int .i64 0] 3))
    have b8 := btrans b6 (balloc Z (.cells #[.int .i64 0] 3))
    have own8 : (Z.alloc (.cells #[.int .i64 0] 3)).ownsRow w.heap.size 3 1 (.slice (some ⟨w5.heap.size, 0, none⟩) 1 1) 1 (([0] : List Int).map mkI) := own_ints_one hwB (by rw [← hsz]; exact heap_alloc_new _ _)
    have k0 : (Z.alloc (.cells #[.int .i64 0] 3)).cell? ⟨w.heap.size + 1, 0, none⟩ = some (.int .i64 2) := dZ.cell 0
    have k1 : (Z.alloc (.cells #[.int .i64 0] 3)).cell? ⟨w.heap.size + 1, 1, none⟩ = some (.int .i64 1) := dZ.cell 1
    have k2 : (Z.alloc (.cells #[.int .i64 0] 3)).cell? ⟨w.heap.size + 1, 2, none⟩ = some (.int .i64 1) := dZ.cell 2
    have k3 : (Z.alloc (.cells #[.int .i64 0] 3)).cell? ⟨w.heap.size + 1, 3, none⟩ = some (.int .i64 1) := dZ.cell 3
    have k4 : (Z.alloc (.cells #[.int .i64 0] 3)).cell? ⟨w.heap.size + 1, 4, none⟩ = some (.slice (some ⟨w5.heap.size, 0, none⟩) 1 1) := dZ.cell 4
    generalize (Z.alloc (.cells #[.int .i64 0] 3)) = U at k0 k1 k2 k3 k4 own8 b8 ⊢
    exact bodyPost_ret (v := .agg #[.int .i64 2, .int .i64 1, .int .i64 1, .int .i64 1, .slice (some ⟨w5.heap.size, 0, none⟩) 1 1]) (by simp [results, Tryz.results12, go_sem, k0, k1, k2, k3, k4]) rfl ⟨2, 1, 1, 1, some ⟨w5.heap.size, 0, none⟩, 1, 1, [0], rfl, cfg_own, rfl, own8, b8⟩
  · have bR6 := set5_box (show Blk _ _ #[_, _, _, _, _] _ from dR) (.int .i64 co) (.int .i64 sy) (.int .i64 la) (.int .i64 mo) (.slice ad res.length k)
    have o6 := only5 w5 (w.heap.size + 1) (.int .i64 co) (.int .i64 sy) (.int .i64 la) (.int .i64 mo) (.slice ad res.length k)
    have own7 := own_off own5 o6 (fun j hj => by have := (own5.lt j hj).1; simp; omega)
    have b6 := set5_bel d4 (show w.heap.size ≤ w.heap.size + 1 by omega) (.int .i64 co) (.int .i64 sy) (.int .i64 la) (.int .i64 mo) (.slice ad res.length k)
    have HBB : Hid (cfgB ⟨co, sy, la, mo, res⟩ = true) := hb
    clear dC own5 dR o6 d4 hb
    go_wp2_with fail
    generalize hZ : World.setCell _ _ _ = Z at bR6 own7 b6 ⊢
    have k0 : Z.cell? ⟨w.heap.size + 1, 0, none⟩ = some (.int .i64 co) := bR6.cell 0
    have k1 : Z.cell? ⟨w.heap.size + 1, 1, none⟩ = some (.int .i64 sy) := bR6.cell 1
    have k2 : Z.cell? ⟨w.heap.size + 1, 2, none⟩ = some (.int .i64 la) := bR6.cell 2
    have k3 : Z.cell? ⟨w.heap.size + 1, 3, none⟩ = some (.int .i64 mo) := bR6.cell 3
    have k4 : Z.cell? ⟨w.heap.size + 1, 4, none⟩ = some (.slice ad res.length k) := bR6.cell 4
    have own8 : Z.ownsRow w.heap.size 3 1 (.slice ad res.length k) res.length (res.map mkI) := ⟨own7.1, own7.2.imp (fun h => h) (fun ⟨g, c, cu, x1, x2, x3⟩ => ⟨g, c, cu, x1, by omega, x3⟩)⟩
    exact bodyPost_ret (v := .agg #[.int .i64 co, .int .i64 sy, .int .i64 la, .int .i64 mo, .slice ad res.length k]) (by simp [results, Tryz.results12, go_sem, k0, k1, k2, k3, k4]) rfl ⟨co, sy, la, mo, ad, _, k, res, rfl, HBB.out, rfl, own8, b6⟩
end Go.Proofs.YtakdliecjfeedaaGreatDoor

/- Slices of tasks of the program's own making; tasks that come in; the laws' own copy of them. -/
namespace Go.Proofs.YtakdliecjfeedaaGreatDoor
open Go Go.RowKit

def tvC (l : List TV) : List Value := l.flatMap fun x => [.int .i64 x.c, .int .i64 x.d, .int .i64 x.t, x.u]
theorem tvC_length (l : List TV) : (tvC l).length = l.length * 4 := by
  induction l with
  | nil => rfl
  | cons e es ih => simp only [tvC, List.flatMap_cons, List.length_append] at *; rw [ih]; simp; omega
theorem tvC_get {l : List TV} {i : Nat} {x : TV} (h : l[i]? = some x) : (tvC l)[i * 4]? = some (.int .i64 x.c) ∧ (tvC l)[i * 4 + 1]? = some (.int .i64 x.d) ∧ (tvC l)[i * 4 + 2]? = some (.int .i64 x.t) ∧ (tvC l)[i * 4 + 3]? = some x.u := by
  induction l generalizing i with
  | nil => simp at h
  | cons e es ih =>
    cases i with
    | zero => simp at h; subst h; simp [tvC]
    | succ i =>
      have := ih (i := i) (by simpa using h)
      rw [show (i + 1) * 4 = i * 4 + 4 by omega]
      simpa [tvC] using this
theorem tvC_append (l m : List TV) : tvC (l ++ m) = tvC l ++ tvC m := by simp [tvC]
theorem tvC_one {l : List TV} (h : ∀ x ∈ l, x.u.oneCell' = true) : ∀ u ∈ tvC l, u.oneCell' = true := by
  intro u hu
  simp only [tvC, List.mem_flatMap] at hu
  obtain ⟨e, he, hu⟩ := hu
  simp at hu
  rcases hu with rfl | rfl | rfl | rfl
  · rfl
  · rfl
  · rfl
  · exact h e he
variable {w w' : World}
/-- Rows of unlike things lie in unlike blocks. -/
theorem own_ne {B B' e e' z z' n n' : Nat} {v v' : Value} {xs xs' : List Value} (h : w.ownsRow B e z v n xs) (h' : w.ownsRow B' e' z' v' n' xs') (he : e ≠ e') : ∀ k, v.ownBlock = some k → v'.ownBlock ≠ some k := by
  intro k hk hk'
  rcases h.2 with ⟨rfl, _⟩ | ⟨g, cap, cur, rfl, _, hh, _⟩
  · simp [Value.ownBlock] at hk
  · rcases h'.2 with ⟨rfl, _⟩ | ⟨g', cap', cur', rfl, _, hh', _⟩
    · simp [Value.ownBlock] at hk'
    · simp [Value.ownBlock] at hk hk'
      subst hk hk'
      rw [hh] at hh'
      simp at hh'
      exact he hh'.2
/-- What an append elsewhere leaves. -/
theorem own_keep {B e z n : Nat} {u : Value} {xs : List Value} {row : Option Nat} (h : w.ownsRow B e z u n xs) (gr : w.grownBy w' row) (hne : ∀ k, u.ownBlock = some k → row ≠ some k) : w'.ownsRow B e z u n xs := by
  obtain ⟨h1, h2⟩ := h
  refine ⟨h1, ?_⟩
  rcases h2 with h2 | ⟨g, cap, cur, rfl, hb', hh, r⟩
  · exact .inl h2
  · exact .inr ⟨g, cap, cur, rfl, hb', by rw [gr.block g (Array.getElem?_eq_some_iff.1 hh).1 (fun e => hne g rfl e.symm)]; exact hh, r⟩
/-- A slice of tasks of one's own, with rows of sections of one's own. -/
structure OwnT (w : World) (base : Nat) (v : Value) (l : List TV) : Prop where
  own : w.ownsRow base 34 4 v l.length (tvC l)
  sec : ∀ x ∈ l, w.ownsRow base 39 3 x.u x.m.length (secC x.m)
theorem OwnT.nil (w : World) (base : Nat) : OwnT w base (.slice none 0 0) [] := ⟨World.ownsRow_nil _ _ _ _, fun x hx => by cases hx⟩
theorem OwnT.below {base : Nat} {v : Value} {l : List TV} (h : OwnT w base v l) (g : Below w.heap.size w w') : OwnT w' base v l := ⟨own_below h.own g, fun x hx => own_below (h.sec x hx) g⟩
theorem ownT_mono {B B' e z n : Nat} {v : Value} {xs : List Value} (h : w.ownsRow B e z v n xs) (hb : B' ≤ B) : w.ownsRow B' e z v n xs := by
  obtain ⟨h1, h2⟩ := h
  refine ⟨h1, ?_⟩
  rcases h2 with h2 | ⟨g, cap, cur, rfl, hb', r⟩
  · exact .inl h2
  · exact .inr ⟨g, cap, cur, rfl, by omega, r⟩
theorem OwnT.mono {base base' : Nat} {v : Value} {l : List TV} (h : OwnT w base v l) (hb : base' ≤ base) : OwnT w base' v l := ⟨ownT_mono h.own hb, fun x hx => ownT_mono (h.sec x hx) hb⟩
theorem OwnT.form {base : Nat} {v : Value} {l : List TV} (h : OwnT w base v l) : ∃ a cap, v = .slice a l.length cap := own_form h.own
theorem OwnT.tks {base : Nat} {v : Value} {l : List TV} (h : OwnT w base v l) : Tks w v l := by
  rcases h.own.2 with ⟨rfl, hn⟩ | ⟨g, cap, cur, rfl, hb, hh, h1, h2, h3, h4⟩
  · exact .inl ⟨List.length_eq_zero_iff.1 hn, _, _, rfl⟩
  · refine .inr ⟨g, 0, cap, rfl, (Array.getElem?_eq_some_iff.1 hh).1, fun j x hj => ?_⟩
    have hl := (List.getElem?_eq_some_iff.1 hj).1
    obtain ⟨e0, e1, e2, e3⟩ := tvC_get hj
    rw [← h4, List.getElem?_take_of_lt (by omega)] at e0 e1 e2 e3
    rw [Nat.zero_add]
    simp only [World.cell?, hh]
    exact ⟨⟨by simpa using e0, by simpa using e1, by simpa using e2, by simpa using e3⟩, own_secs (h.sec x (List.mem_of_getElem? hj))⟩
theorem OwnT.one {base : Nat} {v : Value} {l : List TV} (h : OwnT w base v l) : ∀ u ∈ tvC l, u.oneCell' = true := tvC_one fun x hx => by
  obtain ⟨a, cap, e⟩ := own_form (h.sec x hx)
  rw [e]; rfl
/-- .. with a task more. -/
theorem OwnT.snoc {W : World} {base : Nat} {v v' : Value} {l : List TV} {x : TV} {o : Obj} (h : OwnT W base v l) (hx : W.ownsRow base 39 3 x.u x.m.length (secC x.m))
    (own' : w'.ownsRow base 34 4 v' (l.length + 1) (tvC l ++ [.int .i64 x.c, .int .i64 x.d, .int .i64 x.t, x.u])) (gr : (W.alloc o).grownBy w' v.ownBlock) (hne : (39 : Nat) ≠ 34) : OwnT w' base v' (l ++ [x]) := by
  have keep : ∀ y : TV, W.ownsRow base 39 3 y.u y.m.length (secC y.m) → w'.ownsRow base 39 3 y.u y.m.length (secC y.m) := fun y hy =>
    own_keep (own_below hy (balloc W o)) gr (fun k hk => own_ne hy h.own hne k hk)
  refine ⟨?_, fun y hy => ?_⟩
  · rw [tvC_append, List.length_append]; exact own'
  · rcases List.mem_append.1 hy with hy | hy
    · exact keep y (h.sec y hy)
    · simp at hy; subst hy; exact keep y hx
/-- A task that came in. -/
structure TI where
  c : Int
  d : Int
  t : Int
  a : Option Addr
  n : Nat
  k : Nat
  z : List Sec
  deriving Inhabited
def ATsks (w : World) (a : Option Addr) (len cap : Nat) (l : List TI) : Prop :=
  l.length = len ∧ len ≤ cap ∧ cap ≤ 9223372036854775807 ∧ ((a = none ∧ len = 0 ∧ cap = 0) ∨ ∃ x, a = some x ∧ ∀ i y, l[i]? = some y → (w.cell? (x.add (i * 4)) = some (.int .i64 y.c) ∧ w.cell? (x.add (i * 4 + 1)) = some (.int .i64 y.d) ∧ w.cell? (x.add (i * 4 + 2)) = some (.int .i64 y.t) ∧ w.cell? (x.add (i * 4 + 3)) = some (.slice y.a y.n y.k)) ∧ ASecs w y.a y.n y.k y.z)
theorem ATsks.below {a : Option Addr} {len cap : Nat} {l : List TI} (h : ATsks w a len cap l) (g : Below w.heap.size w w') : ATsks w' a len cap l := by
  obtain ⟨h1, h2, h3, h4⟩ := h
  refine ⟨h1, h2, h3, ?_⟩
  rcases h4 with h4 | ⟨x, e, hc⟩
  · exact .inl h4
  · refine .inr ⟨x, e, fun i y hy => ?_⟩
    obtain ⟨⟨k1, k2, k3, k4⟩, k5⟩ := hc i y hy
    exact ⟨⟨cell_keep k1 g, cell_keep k2 g, cell_keep k3 g, cell_keep k4 g⟩, k5.below g⟩
theorem infoT : (Tryz.prog.info? 34).map (fun i => (i.zero, i.size, i.bytes)) = some (some (.agg #[.int .i64 0, .int .i64 0, .int .i64 0, .slice none 0 0]), 4, 48) := by kernel_rfl
theorem cell_four (w : World) (x y z u : Value) (t : TypeId) : ∀ (j : Nat) (q : Value), [x, y, z, u][j]? = some q → (w.alloc (.cells #[x, y, z, u] t)).cell? ((⟨w.heap.size, 0, none⟩ : Addr).add j) = some q := by
  intro j q hj
  match j, hj with
  | 0, hj => simp at hj; subst hj; simp [Addr.add]
  | 1, hj => simp at hj; subst hj; simp [Addr.add]
  | 2, hj => simp at hj; subst hj; simp [Addr.add]
  | 3, hj => simp at hj; subst hj; simp [Addr.add]
end Go.Proofs.YtakdliecjfeedaaGreatDoor

/- The contract of the laws' own Tasks: those of some that a configuration takes, twelve at most. -/
namespace Go.Proofs.YtakdliecjfeedaaGreatDoor
open Go Go.RowKit

structure TsL (w0 : World) (v : Value) (l : List TV) (w : World) : Prop where
  own : OwnT w w0.heap.size v l
  bel : Below w0.heap.size w0 w
theorem TsL.below {w0 w w' : World} {v : Value} {l : List TV} (h : TsL w0 v l w) (g : Below w.heap.size w w') : TsL w0 v l w' := ⟨h.own.below g, btrans h.bel g⟩
theorem tsk_ty : (39 : Nat) ≠ 34 := by decide
set_option maxHeartbeats 16000000 in
set_option maxRecDepth 100000 in
theorem tsk12_any (co sy la mo : Int) (av : Option Addr) (nv cv : Nat) (a : Option Addr) (len cap : Nat) (z : List TI) (w : World) (hz : ATsks w a len cap z) :
    Calls Tryz.prog 13 #[.agg #[.int .i64 co, .int .i64 sy, .int .i64 la, .int .i64 mo, .slice av nv cv], .slice a len cap] w fun e w' => ∃ b n k l, e = .returned (.slice b n k) ∧ l.length = n ∧ n ≤ 12 ∧ (∀ x ∈ l, tskB nv x.tsk = true) ∧ OwnT w' w.heap.size (.slice b n k) l ∧ Below w.heap.size w w' := by
  obtain ⟨i0, hi0, hz0, hz1, hz2⟩ := info_parts infoT
  have HZ : Hid (ATsks w a len cap z) := hz
  have HN : Hid (z.length = len) := hz.1
  have hlc : len ≤ cap := hz.2.1
  have hcm : cap ≤ 9223372036854775807 := hz.2.2.1
  have BW : Hid (Below w.heap.size w (w.alloc (.cells #[.int .i64 co, .int .i64 sy, .int .i64 la, .int .i64 mo, .slice av nv cv] 24))) := balloc _ _
  have cC : Blk (w.alloc (.cells #[.int .i64 co, .int .i64 sy, .int .i64 la, .int .i64 mo, .slice av nv cv] 24)) w.heap.size #[.int .i64 co, .int .i64 sy, .int .i64 la, .int .i64 mo, .slice av nv cv] 24 := heap_alloc_new _ _
  clear hz
  go_enter Tryz.func13, Tryz.ntmps13
  go_wp2_with fail
  generalize hW : w.alloc _ = W at BW cC
  have KC : Hid (Blk W w.heap.size #[.int .i64 co, .int .i64 sy, .int .i64 la, .int .i64 mo, .slice av nv cv] 24) := cC
  have sW : w.heap.size < W.heap.size := cC.lt
  clear hW cC
  go_loopg [5, 6] len (fun gk v i wr => ∃ (k : Nat) (b : Option Addr) (n q : Nat) (l : List TV), gk + k = len ∧ i = .int .i64 k ∧ v = .slice b n q ∧ l.length = n ∧ n ≤ 12 ∧ Hid (∀ x ∈ l, tskB nv x.tsk = true) ∧ Hid (TsL W (.slice b n q) l wr))
  case atStart => exact ⟨0, none, 0, 0, [], by omega, rfl, rfl, rfl, by omega, (show ∀ x ∈ ([] : List TV), tskB nv x.tsk = true from fun x hx => by cases hx), (show TsL W (.slice none 0 0) [] W from ⟨OwnT.nil _ _, Below.refl _ _⟩)⟩
  case round =>
    obtain ⟨k, b, n, q, l, k1, rfl, rfl, hln, n12, hA, hT⟩ := hrel
    have HL : Hid (l.length = n) := hln
    have BB : Hid (Below w.heap.size w wr) := BW.out.trans (hT.out.bel.mono (by omega))
    have K := KC.out.below hT.out.bel
    clear hln
    by_cases hlt : k < len
    · by_cases h12 : n < 12
      · obtain ⟨⟨c, d, t, a2, n2, q2, z2⟩, hy⟩ : ∃ y, z[k]? = some y := ⟨_, List.getElem?_eq_getElem (by rw [HN.out]; exact hlt)⟩
        obtain ⟨x, ex, ⟨y1, y2, y3, y4⟩, ys⟩ : ∃ x, a = some x ∧ (wr.cell? (x.add (k * 4)) = some (.int .i64 c) ∧ wr.cell? (x.add (k * 4 + 1)) = some (.int .i64 d) ∧ wr.cell? (x.add (k * 4 + 2)) = some (.int .i64 t) ∧ wr.cell? (x.add (k * 4 + 3)) = some (.slice a2 n2 q2)) ∧ ASecs wr a2 n2 q2 z2 := by
          rcases (HZ.out.below BB.out).2.2.2 with ⟨_, h0, _⟩ | ⟨x, ex, hc⟩
          · omega
          · exact ⟨x, ex, hc k _ hy⟩
        subst ex
        rw [← Go.Deep.add_add] at y2 y3 y4
        have y2 : wr.cell? ⟨(x.add (k * 4)).block, (x.add (k * 4)).off + 1, none⟩ = some (.int .i64 d) := y2
        have y3 : wr.cell? ⟨(x.add (k * 4)).block, (x.add (k * 4)).off + 2, none⟩ = some (.int .i64 t) := y3
        have y4 : wr.cell? ⟨(x.add (k * 4)).block, (x.add (k * 4)).off + 3, none⟩ = some (.slice a2 n2 q2) := y4
        have HS : Hid (ASecs wr a2 n2 q2 z2) := ys
        clear hy ys
        have q0 : (0 : Int) ≤ (k : Int) := by omega
        have q1 : (k : Int) < (len : Int) := by omega
        go_wp2_with fail
        refine (ltask_any c d t a2 n2 q2 z2 wr HS.out).mono ?_
        rintro e w1 ⟨u, rfl, own, g1⟩
        have hr : (z2.take 4).length ≤ 4 := by rw [List.length_take]; omega
        generalize z2.take 4 = m at own hr
        obtain ⟨a5, q5, rfl⟩ := own_form own
        have own1 := ownT_mono own hT.out.bel.size
        have hT1 := hT.out.below g1
        have K1 := K.below g1
        have B1 := btrans BB.out g1
        have c0 := K1.cell 0
        have c1 := K1.cell 1
        have c2 := K1.cell 2
        have c3 := K1.cell 3
        have c4 := K1.cell 4
        simp at c0 c1 c2 c3 c4
        have nl := K1.lt
        have b5 := balloc w1 (.cells #[.int .i64 c, .int .i64 d, .int .i64 t, .slice a5 m.length q5] 34)
        have O2 : Hid ((w1.alloc (.cells #[.int .i64 c, .int .i64 d, .int .i64 t, .slice a5 m.length q5] 34)).ownsRow W.heap.size 39 3 (.slice a5 m.length q5) m.length (secC m)) := own_below own1 b5
        have T2 : Hid (TsL W (.slice b n q) l (w1.alloc (.cells #[.int .i64 c, .int .i64 d, .int .i64 t, .slice a5 m.length q5] 34))) := hT1.below b5
        have L2 : Hid (Blk (w1.alloc (.cells #[.int .i64 c, .int .i64 d, .int .i64 t, .slice a5 m.length q5] 34)) w1.heap.size #[.int .i64 c, .int .i64 d, .int .i64 t, .slice a5 m.length q5] 34) := heap_alloc_new _ _
        clear own own1 hT1 K1 B1 K g1 y1 y2 y3 y4 b5 hT
        go_wp2_with fail
        generalize hW2 : w1.alloc _ = W2 at O2 T2 L2 ⊢
        clear hW2
        refine (refTask_any co sy la mo av nv cv c d t _ m W2 (own_secs O2.out) (by omega)).mono ?_
        rintro e w3 ⟨rfl, g3⟩
        have O3 := own_below O2.out g3
        have T3 := T2.out.below g3
        have L3 := L2.out.below g3
        have t0 := L3.cell 0
        have t1 := L3.cell 1
        have t2 := L3.cell 2
        have t3 := L3.cell 3
        simp at t0 t1 t2 t3
        have sz3 := T3.bel.size
        clear g3 O2 T2 L2 c0 c1 c2 c3 c4
        cases hb : tskB nv ⟨c, d, t, m⟩
        · have T4 : Hid (TsL W (.slice b n q) l w3) := T3
          clear hb O3 L3 T3
          go_wp2_with fail
          go_roundg (len - (k + 1))
          case measure => omega
          case rel => exact ⟨k + 1, b, n, q, l, by omega, by go_num, rfl, HL.out, by omega, hA.out, T4.out⟩
        · have HB : Hid (tskB nv ⟨c, d, t, m⟩ = true) := hb
          have O4 : Hid (w3.ownsRow W.heap.size 39 3 (.slice a5 m.length q5) m.length (secC m)) := O3
          have T4 : Hid (TsL W (.slice b n q) l w3) := T3
          have R4 : Hid (w3.ownsRow W.heap.size 34 4 (.slice b n q) n (tvC l)) := by have := T3.own.own; rw [HL.out] at this; exact this
          clear hb O3 L3 T3
          go_wp2_with (at_builtin; refine wpList_append_own_at _ rfl (.tmp 27) (.tmp 29) 25 rfl W.heap.size 34 i0 (.agg #[.int .i64 0, .int .i64 0, .int .i64 0, .slice none 0 0]) 4 48 Tryz.underlying25 hi0 hz0 hz1 hz2 rfl (by decide) _ _ _ rfl (R4.out.alloc _) ⟨w3.heap.size, 0, none⟩ 1 1 [.int .i64 c, .int .i64 d, .int .i64 t, .slice a5 m.length q5] rfl rfl (cell_four _ _ _ _ _ _) (by intro u hu; simp at hu; rcases hu with rfl | rfl | rfl | rfl <;> rfl) (by unfold maxLen; omega) (by omega) (by simp; omega) ?_; intro v7 w7 own7 grow7 nil7 at7; have O7 : Hid (OwnT w7 W.heap.size v7 (l ++ [⟨c, d, t, .slice a5 m.length q5, m⟩])) := (OwnT.snoc T4.out.own (x := ⟨c, d, t, .slice a5 m.length q5, m⟩) O4.out (by rw [HL.out]; exact own7) grow7 tsk_ty); have B7 : Hid (Below W.heap.size W w7) := (T4.out.bel.trans (own_grow R4.out (by omega) grow7)); obtain ⟨b7, q7, e7⟩ := own_form own7; subst e7; clear own7 grow7 nil7 at7)
          go_roundg (len - (k + 1))
          case measure => omega
          case rel => exact ⟨k + 1, b7, n + 1, q7, l ++ [⟨c, d, t, .slice a5 m.length q5, m⟩], by omega, by go_num, rfl, by rw [List.length_append, HL.out]; rfl, by omega, fun x hx => by rcases List.mem_append.1 hx with hx | hx; exact hA.out x hx; simp at hx; subst hx; exact HB.out, O7.out, B7.out⟩
      · have hT2 : Hid (OwnT wr w.heap.size (.slice b n q) l) := hT.out.own.mono (by omega)
        clear K
        go_wp2_with fail
        go_ret
        exact ⟨b, n, q, l, rfl, HL.out, n12, hA.out, hT2.out, BB.out⟩
    · have hT2 : Hid (OwnT wr w.heap.size (.slice b n q) l) := hT.out.own.mono (by omega)
      clear K
      go_wp2_with fail
      go_ret
      exact ⟨b, n, q, l, rfl, HL.out, n12, hA.out, hT2.out, BB.out⟩
end Go.Proofs.YtakdliecjfeedaaGreatDoor
