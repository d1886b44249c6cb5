/- The contracts of the laws' own copies of configurations and tasks. -/
import Derived.Test.YtakdliecjfeedaaGreatDoorGetT
namespace Go.Proofs.YtakdliecjfeedaaGreatDoor
open Go Go.RowKit

/-- A slice of numbers that came in. -/
def AInts (w : World) (a : Option Addr) (len cap : Nat) (l : List Int) : Prop :=
  l.length = len ∧ len ≤ cap ∧ cap ≤ 9223372036854775807 ∧ ((a = none ∧ len = 0 ∧ cap = 0) ∨ ∃ x, a = some x ∧ ∀ i y, l[i]? = some y → w.cell? (x.add i) = some (.int .i64 y))
/-- A slice of sections that came in. -/
def ASecs (w : World) (a : Option Addr) (len cap : Nat) (l : List Sec) : Prop :=
  l.length = len ∧ len ≤ cap ∧ cap ≤ 9223372036854775807 ∧ ((a = none ∧ len = 0 ∧ cap = 0) ∨ ∃ x, a = some x ∧ ∀ i y, (secC l)[i]? = some y → w.cell? (x.add i) = some y)
theorem grown_below {w w' : World} (g : w.grownBy w' none) : Below w.heap.size w w' := ⟨g.os, g.tape, g.output, g.size, fun k hk => g.block k hk (by simp)⟩
theorem cell_old {w w' : World} {p : Addr} {v : Value} (h : w.cell? p = some v) (g : Below w.heap.size w w') : w'.cell? p = some v := by
  have hb : p.block < w.heap.size := by
    cases e : w.heap[p.block]? with
    | none => simp [World.cell?, e] at h
    | some o => exact (Array.getElem?_eq_some_iff.1 e).1
  exact (g.cell hb).trans h
theorem AInts.below {w w' : World} {a : Option Addr} {len cap : Nat} {l : List Int} (h : AInts w a len cap l) (g : Below w.heap.size w w') : AInts w' a len cap l := by
  obtain ⟨h1, h2, h3, h4⟩ := h
  refine ⟨h1, h2, h3, ?_⟩
  rcases h4 with h4 | ⟨x, e, hc⟩
  · exact .inl h4
  · exact .inr ⟨x, e, fun i y hi => cell_old (hc i y hi) g⟩
theorem ASecs.below {w w' : World} {a : Option Addr} {len cap : Nat} {l : List Sec} (h : ASecs w a len cap l) (g : Below w.heap.size w w') : ASecs w' a len cap l := by
  obtain ⟨h1, h2, h3, h4⟩ := h
  refine ⟨h1, h2, h3, ?_⟩
  rcases h4 with h4 | ⟨x, e, hc⟩
  · exact .inl h4
  · exact .inr ⟨x, e, fun i y hi => cell_old (hc i y hi) g⟩
/-- Under way in a copy: what came, the result. -/
structure Cpy (w : World) (cs zs : Array Value) (t : TypeId) (w' : World) : Prop where
  blk : Blk w' w.heap.size cs t
  res : Blk w' (w.heap.size + 1) zs t
  bel : Below w.heap.size w w'
theorem Cpy.start (w : World) (cs zs : Array Value) (t : TypeId) : Cpy w cs zs t ((w.alloc (.cells cs t)).alloc (.cells zs t)) := by
  have b0 := balloc w (.cells cs t)
  have k0 : Blk (w.alloc (.cells cs t)) w.heap.size cs t := heap_alloc_new _ _
  have z0 : (w.alloc (.cells cs t)).heap.size = w.heap.size + 1 := by simp
  have b1 := balloc (w.alloc (.cells cs t)) (.cells zs t)
  have k1 : Blk ((w.alloc (.cells cs t)).alloc (.cells zs t)) (w.heap.size + 1) zs t := by rw [← z0]; exact heap_alloc_new _ _
  exact ⟨k0.below b1, k1, btrans b0 b1⟩
theorem Cpy.below {w a b : World} {cs zs : Array Value} {t : TypeId} (h : Cpy w cs zs t a) (g : Below a.heap.size a b) : Cpy w cs zs t b := ⟨h.blk.below g, h.res.below g, btrans h.bel g⟩
theorem Cpy.store {w a : World} {cs zs : Array Value} {t : TypeId} (h : Cpy w cs zs t a) (i : Nat) (v : Value) : Cpy w (cs.setIfInBounds i v) zs t (a.setCell ⟨w.heap.size, i, none⟩ v) := by
  obtain ⟨h1, h2⟩ := h.blk.set i v
  exact ⟨h1, h.res.only h2 (by simp), h.bel.trans (h2.belowOf (by have := h.bel.size; omega) (by simp))⟩
theorem own_mono {w : World} {base base' e n z : Nat} {v : Value} {xs : List Value} (h : w.ownsRow base e z v n xs) (hb : base' ≤ base) : w.ownsRow base' e z v n xs := by
  obtain ⟨h1, h2⟩ := h
  refine ⟨h1, ?_⟩
  rcases h2 with h2 | ⟨g, cap, cur, rfl, hb', r⟩
  · exact .inl h2
  · exact .inr ⟨g, cap, cur, rfl, by omega, r⟩
theorem own_asecs {w : World} {base e len cap : Nat} {a : Option Addr} {l : List Sec} (h : w.ownsRow base e 3 (.slice a len cap) len (secC l)) (hl : l.length = len) : ASecs w a len cap l := by
  rcases h.2 with ⟨e, hn⟩ | ⟨g, cap', cur, e, hb, hh, h1, h2, h3, h4⟩
  · simp only [Value.slice.injEq] at e
    obtain ⟨rfl, -, rfl⟩ := e
    exact ⟨hl, by omega, by omega, .inl ⟨rfl, hn, rfl⟩⟩
  · simp only [Value.slice.injEq] at e
    obtain ⟨rfl, -, rfl⟩ := e
    refine ⟨hl, h1, by unfold maxLen at h2; omega, .inr ⟨_, rfl, fun i y hi => ?_⟩⟩
    have hil := (List.getElem?_eq_some_iff.1 hi).1
    rw [secC_length] at hil
    rw [← h4, List.getElem?_take_of_lt (by omega)] at hi
    have e : (⟨g, 0, none⟩ : Addr).add i = ⟨g, i, none⟩ := by unfold Addr.add; split <;> simp_all
    rw [e]
    simp only [World.cell?, hh]
    simpa using hi
theorem take_min {α : Type} {l : List α} {n k : Nat} (h : l.length = n) (hk : k = min n 8) : l.take k = l.take 8 := by
  rw [hk, ← h, List.take_eq_take_iff]; omega
theorem take_min4 {α : Type} {l : List α} {n k : Nat} (h : l.length = n) (hk : k = min n 4) : l.take k = l.take 4 := by
  rw [hk, ← h, List.take_eq_take_iff]; omega
theorem secC_take (l : List Sec) (n : Nat) : secC (l.take n) = (secC l).take (n * 3) := by
  induction l generalizing n with
  | nil => simp [secC]
  | cons e l ih =>
    cases n with
    | zero => simp [secC]
    | succ n =>
      have := ih n
      rw [show (n + 1) * 3 = n * 3 + 3 by omega]
      simpa [secC] using this

set_option maxHeartbeats 4000000 in
set_option maxRecDepth 100000 in
theorem lconfig_any (co sy la mo : Int) (a : Option Addr) (len cap : Nat) (l : List Int) (w : World) (hv : AInts w a len cap l) :
    Calls Tryz.prog 33 #[.agg #[.int .i64 co, .int .i64 sy, .int .i64 la, .int .i64 mo, .slice a len cap]] w fun e w' => ∃ u, e = .returned (.agg #[.int .i64 co, .int .i64 sy, .int .i64 la, .int .i64 mo, u]) ∧ w'.ownsRow w.heap.size 3 1 u (l.take 8).length ((l.take 8).map mkI) ∧ Below w.heap.size w w' := by
  obtain ⟨i0, hi0, hz0, hz1, hz2⟩ := info_parts infoI
  have q0 : Hid (Cpy w #[.int .i64 co, .int .i64 sy, .int .i64 la, .int .i64 mo, .slice a len cap] zCfg 24 _) := Cpy.start _ _ _ _
  have HV := hv.below q0.out.bel
  obtain ⟨hl, hc1, hc2, hc3⟩ := HV
  obtain ⟨k, hk⟩ : ∃ k, k = min len 8 := ⟨_, rfl⟩
  have HK : Hid (l.take k = l.take 8) := take_min hl hk
  have hmin : min (len : Int) 8 = (k : Int) := by omega
  have hk1 : (k : Int) ≤ cap := by omega
  have hk2 : k ≤ 8 := by omega
  have HL : Hid ((l.take k).length = k) := by unfold Hid; rw [List.length_take]; omega
  clear hk
  clear hv
  rcases hc3 with ⟨rfl, hz, rfl⟩ | ⟨x, rfl, hc⟩
  · subst hz
    have e0 : l = [] := List.length_eq_zero_iff.1 hl
    subst e0
    clear hk1 hk2 HL HK hc1 hc2 hl hmin
    have hmin : min (0 : Int) 8 = 0 := rfl
    go_enter Tryz.func33, Tryz.ntmps33
    go_wp2_with fail
    exact bodyPost_ret (v := .agg #[.int .i64 co, .int .i64 sy, .int .i64 la, .int .i64 mo, .slice none 0 0]) (by simp [results, Tryz.results33, go_sem]) rfl ⟨_, rfl, World.ownsRow_nil _ _ _ _, btrans (balloc _ _) (balloc _ _)⟩
  · have HC : Hid (∀ j u, ((l.take k).map mkI)[j]? = some u → ((w.alloc (.cells #[.int .i64 co, .int .i64 sy, .int .i64 la, .int .i64 mo, .slice (some x) len cap] 24)).alloc (.cells zCfg 24)).cell? (x.add j) = some u) := by
      intro j u hj
      rw [List.getElem?_map, Option.map_eq_some_iff] at hj
      obtain ⟨y, hy, rfl⟩ := hj
      have hjl := (List.getElem?_eq_some_iff.1 hy).1
      rw [List.getElem?_take_of_lt (by rw [HL.out] at hjl; exact hjl)] at hy
      exact hc j y hy
    have own := World.ownsRow_nil ((w.alloc (.cells #[.int .i64 co, .int .i64 sy, .int .i64 la, .int .i64 mo, .slice (some x) len cap] 24)).alloc (.cells zCfg 24)) ((w.alloc (.cells #[.int .i64 co, .int .i64 sy, .int .i64 la, .int .i64 mo, .slice (some x) len cap] 24)).alloc (.cells zCfg 24)).heap.size 3 1
    clear hc
    go_enter Tryz.func33, Tryz.ntmps33
    go_wp2_with (at_builtin; refine wpList_append_own_at _ rfl (.const (.slice none 0 0)) (.tmp 9) 22 rfl _ 3 i0 (.int .i64 0) 1 8 Tryz.underlying22 hi0 hz0 hz1 hz2 rfl (by decide) _ _ _ rfl own x k cap ((l.take k).map mkI) rfl (by rw [List.length_map, HL.out]; omega) HC.out (by intro u hu; obtain ⟨y, _, rfl⟩ := List.mem_map.1 hu; rfl) (by unfold maxLen; omega) (by omega) (Nat.le_refl _) ?_; intro v3 w3 own3 grow3 nil3 at3; rw [Nat.zero_add, List.nil_append] at own3; obtain ⟨a3, cap3, e3⟩ := own_form own3; subst e3; have Q3 : Hid (Cpy w #[.int .i64 co, .int .i64 sy, .int .i64 la, .int .i64 mo, .slice (some x) len cap] zCfg 24 w3) := q0.out.below (grown_below grow3); have I3 : Hid (w3.ownsRow w.heap.size 3 1 (.slice a3 k cap3) (l.take k).length ((l.take k).map mkI) ∧ ∀ j, (Value.slice a3 k cap3).ownBlock = some j → w.heap.size + 2 ≤ j) := ⟨by rw [HL.out]; exact own_mono own3 (by simp; omega), fun j hj => by have := (own3.lt j hj).1; simpa using this⟩; have c0 : w3.cell? ⟨w.heap.size, 0, none⟩ = some (.int .i64 co) := Q3.out.blk.cell 0; have c1 : w3.cell? ⟨w.heap.size, 1, none⟩ = some (.int .i64 sy) := Q3.out.blk.cell 1; have c2 : w3.cell? ⟨w.heap.size, 2, none⟩ = some (.int .i64 la) := Q3.out.blk.cell 2; have c3 : w3.cell? ⟨w.heap.size, 3, none⟩ = some (.int .i64 mo) := Q3.out.blk.cell 3; have c4 : w3.cell? ⟨w.heap.size, 4, none⟩ = some (.slice (some x) len cap) := Q3.out.blk.cell 4; have d0 : w3.cell? ⟨w.heap.size + 1, 0, none⟩ = some (.int .i64 0) := Q3.out.res.cell 0; have f0 := Q3.out.res.frozen 0; have d1 : w3.cell? ⟨w.heap.size + 1, 1, none⟩ = some (.int .i64 0) := Q3.out.res.cell 1; have f1 := Q3.out.res.frozen 1; have d2 : w3.cell? ⟨w.heap.size + 1, 2, none⟩ = some (.int .i64 0) := Q3.out.res.cell 2; have f2 := Q3.out.res.frozen 2; have d3 : w3.cell? ⟨w.heap.size + 1, 3, none⟩ = some (.int .i64 0) := Q3.out.res.cell 3; have f3 := Q3.out.res.frozen 3; have d4 : w3.cell? ⟨w.heap.size + 1, 4, none⟩ = some (.slice none 0 0) := Q3.out.res.cell 4; have f4 := Q3.out.res.frozen 4; have g4 := Q3.out.blk.frozen 4; have l3 := Q3.out.res.lt; clear own3 grow3 nil3 at3 own q0 HC)
    have q4 := Q3.out.store 4 (.slice a3 k cap3)
    have r := set5_blk q4.res (.int .i64 co) (.int .i64 sy) (.int .i64 la) (.int .i64 mo) (.slice a3 k cap3)
    have o4 := (Q3.out.blk.set 4 (.slice a3 k cap3)).2
    have o5 := only5 (w3.setCell ⟨w.heap.size, 4, none⟩ (.slice a3 k cap3)) (w.heap.size + 1) (.int .i64 co) (.int .i64 sy) (.int .i64 la) (.int .i64 mo) (.slice a3 k cap3)
    have ii := own_off (own_off I3.out.1 o4 (fun j hj => by have := I3.out.2 j hj; simp; omega)) o5 (fun j hj => by have := I3.out.2 j hj; simp; omega)
    have bb := q4.bel.trans (o5.belowOf (by have := q4.bel.size; omega) (by simp))
    generalize hZ : World.setCell _ _ _ = Z at r ii bb ⊢
    have k0 : Z.cell? ⟨w.heap.size + 1, 0, none⟩ = some (.int .i64 co) := r.cell 0
    have k1 : Z.cell? ⟨w.heap.size + 1, 1, none⟩ = some (.int .i64 sy) := r.cell 1
    have k2 : Z.cell? ⟨w.heap.size + 1, 2, none⟩ = some (.int .i64 la) := r.cell 2
    have k3 : Z.cell? ⟨w.heap.size + 1, 3, none⟩ = some (.int .i64 mo) := r.cell 3
    have k4 : Z.cell? ⟨w.heap.size + 1, 4, none⟩ = some (.slice a3 k cap3) := r.cell 4
    exact bodyPost_ret (v := .agg #[.int .i64 co, .int .i64 sy, .int .i64 la, .int .i64 mo, .slice a3 k cap3]) (by simp [results, Tryz.results33, go_sem, k0, k1, k2, k3, k4]) rfl ⟨_, rfl, by rw [← HK.out]; exact ii, bb⟩
set_option maxHeartbeats 4000000 in
set_option maxRecDepth 100000 in
theorem ltask_any (c d t : Int) (a : Option Addr) (len cap : Nat) (l : List Sec) (w : World) (hv : ASecs w a len cap l) :
    Calls Tryz.prog 20 #[.agg #[.int .i64 c, .int .i64 d, .int .i64 t, .slice a len cap]] w fun e w' => ∃ u, e = .returned (.agg #[.int .i64 c, .int .i64 d, .int .i64 t, u]) ∧ w'.ownsRow w.heap.size 39 3 u (l.take 4).length (secC (l.take 4)) ∧ Below w.heap.size w w' := by
  obtain ⟨i0, hi0, hz0, hz1, hz2⟩ := info_parts infoS
  have q0 : Hid (Cpy w #[.int .i64 c, .int .i64 d, .int .i64 t, .slice a len cap] zTsk 34 _) := Cpy.start _ _ _ _
  have HV := hv.below q0.out.bel
  obtain ⟨hl, hc1, hc2, hc3⟩ := HV
  obtain ⟨k, hk⟩ : ∃ k, k = min len 4 := ⟨_, rfl⟩
  have HK : Hid (l.take k = l.take 4) := take_min4 hl hk
  have hmin : min (len : Int) 4 = (k : Int) := by omega
  have hk1 : (k : Int) ≤ cap := by omega
  have hk2 : k ≤ 4 := by omega
  have HL : Hid ((l.take k).length = k) := by unfold Hid; rw [List.length_take]; omega
  clear hk
  clear hv
  rcases hc3 with ⟨rfl, hz, rfl⟩ | ⟨x, rfl, hc⟩
  · subst hz
    have e0 : l = [] := List.length_eq_zero_iff.1 hl
    subst e0
    clear hk1 hk2 HL HK hc1 hc2 hl hmin
    have hmin : min (0 : Int) 4 = 0 := rfl
    go_enter Tryz.func20, Tryz.ntmps20
    go_wp2_with fail
    exact bodyPost_ret (v := .agg #[.int .i64 c, .int .i64 d, .int .i64 t, .slice none 0 0]) (by simp [results, Tryz.results20, go_sem]) rfl ⟨_, rfl, World.ownsRow_nil _ _ _ _, btrans (balloc _ _) (balloc _ _)⟩
  · have HC : Hid (∀ j u, (secC (l.take k))[j]? = some u → ((w.alloc (.cells #[.int .i64 c, .int .i64 d, .int .i64 t, .slice (some x) len cap] 34)).alloc (.cells zTsk 34)).cell? (x.add j) = some u) := by
      intro j u hj
      rw [secC_take] at hj
      have hjl := (List.getElem?_eq_some_iff.1 hj).1
      rw [List.length_take] at hjl
      rw [List.getElem?_take_of_lt (by omega)] at hj
      exact hc j u hj
    have own := World.ownsRow_nil ((w.alloc (.cells #[.int .i64 c, .int .i64 d, .int .i64 t, .slice (some x) len cap] 34)).alloc (.cells zTsk 34)) ((w.alloc (.cells #[.int .i64 c, .int .i64 d, .int .i64 t, .slice (some x) len cap] 34)).alloc (.cells zTsk 34)).heap.size 39 3
    clear hc
    go_enter Tryz.func20, Tryz.ntmps20
    go_wp2_with (at_builtin; refine wpList_append_own_at _ rfl (.const (.slice none 0 0)) (.tmp 9) 32 rfl _ 39 i0 (.agg #[.int .i64 0, .int .i64 0, .int .i64 0]) 3 24 Tryz.underlying32 hi0 hz0 hz1 hz2 rfl (by decide) _ _ _ rfl own x k cap (secC (l.take k)) rfl (by rw [secC_length, HL.out]) HC.out (secC_one _) (by unfold maxLen; omega) (by omega) (Nat.le_refl _) ?_; intro v3 w3 own3 grow3 nil3 at3; rw [Nat.zero_add, List.nil_append] at own3; obtain ⟨a3, cap3, e3⟩ := own_form own3; subst e3; have Q3 : Hid (Cpy w #[.int .i64 c, .int .i64 d, .int .i64 t, .slice (some x) len cap] zTsk 34 w3) := q0.out.below (grown_below grow3); have I3 : Hid (w3.ownsRow w.heap.size 39 3 (.slice a3 k cap3) (l.take k).length (secC (l.take k)) ∧ ∀ j, (Value.slice a3 k cap3).ownBlock = some j → w.heap.size + 2 ≤ j) := ⟨by rw [HL.out]; exact own_mono own3 (by simp; omega), fun j hj => by have := (own3.lt j hj).1; simpa using this⟩; have c0 : w3.cell? ⟨w.heap.size, 0, none⟩ = some (.int .i64 c) := Q3.out.blk.cell 0; have c1 : w3.cell? ⟨w.heap.size, 1, none⟩ = some (.int .i64 d) := Q3.out.blk.cell 1; have c2 : w3.cell? ⟨w.heap.size, 2, none⟩ = some (.int .i64 t) := Q3.out.blk.cell 2; have c3 : w3.cell? ⟨w.heap.size, 3, none⟩ = some (.slice (some x) len cap) := Q3.out.blk.cell 3; have d0 : w3.cell? ⟨w.heap.size + 1, 0, none⟩ = some (.int .i64 0) := Q3.out.res.cell 0; have f0 := Q3.out.res.frozen 0; have d1 : w3.cell? ⟨w.heap.size + 1, 1, none⟩ = some (.int .i64 0) := Q3.out.res.cell 1; have f1 := Q3.out.res.frozen 1; have d2 : w3.cell? ⟨w.heap.size + 1, 2, none⟩ = some (.int .i64 0) := Q3.out.res.cell 2; have f2 := Q3.out.res.frozen 2; have d3 : w3.cell? ⟨w.heap.size + 1, 3, none⟩ = some (.slice none 0 0) := Q3.out.res.cell 3; have f3 := Q3.out.res.frozen 3; have g4 := Q3.out.blk.frozen 3; have l3 := Q3.out.res.lt; clear own3 grow3 nil3 at3 own q0 HC)
    have q4 := Q3.out.store 3 (.slice a3 k cap3)
    have r := set4_blk q4.res (.int .i64 c) (.int .i64 d) (.int .i64 t) (.slice a3 k cap3)
    have o4 := (Q3.out.blk.set 3 (.slice a3 k cap3)).2
    have o5 := only4 (w3.setCell ⟨w.heap.size, 3, none⟩ (.slice a3 k cap3)) (w.heap.size + 1) (.int .i64 c) (.int .i64 d) (.int .i64 t) (.slice a3 k cap3)
    have ii := own_off (own_off I3.out.1 o4 (fun j hj => by have := I3.out.2 j hj; simp; omega)) o5 (fun j hj => by have := I3.out.2 j hj; simp; omega)
    have bb := q4.bel.trans (o5.belowOf (by have := q4.bel.size; omega) (by simp))
    generalize hZ : World.setCell _ _ _ = Z at r ii bb ⊢
    have k0 : Z.cell? ⟨w.heap.size + 1, 0, none⟩ = some (.int .i64 c) := r.cell 0
    have k1 : Z.cell? ⟨w.heap.size + 1, 1, none⟩ = some (.int .i64 d) := r.cell 1
    have k2 : Z.cell? ⟨w.heap.size + 1, 2, none⟩ = some (.int .i64 t) := r.cell 2
    have k3 : Z.cell? ⟨w.heap.size + 1, 3, none⟩ = some (.slice a3 k cap3) := r.cell 3
    exact bodyPost_ret (v := .agg #[.int .i64 c, .int .i64 d, .int .i64 t, .slice a3 k cap3]) (by simp [results, Tryz.results20, go_sem, k0, k1, k2, k3]) rfl ⟨_, rfl, by rw [← HK.out]; exact ii, bb⟩
end Go.Proofs.YtakdliecjfeedaaGreatDoor
