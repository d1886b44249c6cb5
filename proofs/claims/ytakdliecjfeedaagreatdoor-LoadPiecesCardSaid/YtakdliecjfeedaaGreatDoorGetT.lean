/- The contract of note.GetConfig. -/
import Derived.Test.YtakdliecjfeedaaGreatDoorSects
import Derived.Test.YtakdliecjfeedaaGreatDoorRule3
namespace Go.Proofs.YtakdliecjfeedaaGreatDoor
open Go Go.RowKit

abbrev zCfg : Array Value := #[.int .i64 0, .int .i64 0, .int .i64 0, .int .i64 0, .slice none 0 0]
/-- Under way in GetConfig: the result, the reader, the configuration. -/
structure GetC (w : World) (st : St) (cs : Array Value) (w' : World) : Prop where
  rd : Rd w' (w.heap.size + 1) st
  res : Blk w' w.heap.size zCfg 24
  blk : Blk w' (w.heap.size + 2) cs 24
  env : Env w'
  bel : Below w.heap.size w w'
  five : 5 ≤ w.heap.size
theorem GetC.read {a x y : World} {st st' : St} {cs : Array Value} (h : GetC a st cs x) (r : Rd y (a.heap.size + 1) st') (o : Only [a.heap.size + 1] x y) : GetC a st' cs y :=
  ⟨r, h.res.only o (by simp), h.blk.only o (by simp), h.env.only o (by simp; have := h.five; omega), h.bel.trans (o.belowOf (by have := h.bel.size; omega) (by simp)), h.five⟩
theorem GetC.store {a x : World} {st : St} {cs : Array Value} (h : GetC a st cs x) (i : Nat) (v : Value) : GetC a st (cs.setIfInBounds i v) (x.setCell ⟨a.heap.size + 2, i, none⟩ v) := by
  obtain ⟨h1, h2⟩ := h.blk.set i v
  exact ⟨h.rd.only h2 (by simp), h.res.only h2 (by simp), h1, h.env.only h2 (by simp; have := h.five; omega), h.bel.trans (h2.belowOf (by have := h.bel.size; omega) (by simp)), h.five⟩
theorem GetC.below {a x y : World} {st : St} {cs : Array Value} (h : GetC a st cs x) (g : Below x.heap.size x y) : GetC a st cs y :=
  ⟨h.rd.below g, h.res.below g, h.blk.below g, h.env.below g, btrans h.bel g, h.five⟩

theorem only5 (w : World) (g : Nat) (a b c d e : Value) : Only [g] w (((((w.setCell ⟨g, 0, none⟩ a).setCell ⟨g, 1, none⟩ b).setCell ⟨g, 2, none⟩ c).setCell ⟨g, 3, none⟩ d).setCell ⟨g, 4, none⟩ e) :=
  ((((((Only.refl _ w).setCell (p := ⟨g, 0, none⟩) (by simp) _).setCell (p := ⟨g, 1, none⟩) (by simp) _).setCell (p := ⟨g, 2, none⟩) (by simp) _).setCell (p := ⟨g, 3, none⟩) (by simp) _).setCell (p := ⟨g, 4, none⟩) (by simp) _)
theorem only4 (w : World) (g : Nat) (a b c d : Value) : Only [g] w ((((w.setCell ⟨g, 0, none⟩ a).setCell ⟨g, 1, none⟩ b).setCell ⟨g, 2, none⟩ c).setCell ⟨g, 3, none⟩ d) :=
  (((((Only.refl _ w).setCell (p := ⟨g, 0, none⟩) (by simp) _).setCell (p := ⟨g, 1, none⟩) (by simp) _).setCell (p := ⟨g, 2, none⟩) (by simp) _).setCell (p := ⟨g, 3, none⟩) (by simp) _)
theorem set5_blk {w : World} {g : Nat} {t : TypeId} (h : Blk w g zCfg t) (a b c d e : Value) : Blk (((((w.setCell ⟨g, 0, none⟩ a).setCell ⟨g, 1, none⟩ b).setCell ⟨g, 2, none⟩ c).setCell ⟨g, 3, none⟩ d).setCell ⟨g, 4, none⟩ e) g #[a, b, c, d, e] t :=
  (((((h.set 0 a).1.set 1 b).1.set 2 c).1.set 3 d).1.set 4 e).1
theorem Ints.off {w w' : World} {v : Value} {l : List Int} {S : List Nat} (h : Ints w v l) (o : Only S w w') (hS : ∀ k, v.ownBlock = some k → k ∉ S) : Ints w' v l := by
  rcases h with h | ⟨b, cap, rfl, hb, hc⟩
  · exact .inl h
  · refine .inr ⟨b, cap, rfl, Nat.lt_of_lt_of_le hb o.size, fun j x hj => ?_⟩
    rw [← hc j x hj]
    exact World.cell?_of_block (w := w) (o.block b hb (hS b rfl))
theorem Secs.off {w w' : World} {v : Value} {l : List Sec} {S : List Nat} (h : Secs w v l) (o : Only S w w') (hS : ∀ k, v.ownBlock = some k → k ∉ S) : Secs w' v l := by
  rcases h with h | ⟨b, cap, rfl, hb, hc⟩
  · exact .inl h
  · refine .inr ⟨b, cap, rfl, Nat.lt_of_lt_of_le hb o.size, fun j x hj => ?_⟩
    have e := fun i => World.cell?_of_block (w := w) (w' := w') (a := ⟨b, i, none⟩) (o.block b hb (hS b rfl))
    obtain ⟨h1, h2, h3⟩ := hc j x hj
    exact ⟨(e _).trans h1, (e _).trans h2, (e _).trans h3⟩
def okCfg (l : List UInt8) : Bool := decide ((cfgS5 l).2 = some []) && cfgB (cfgOf l)
/-- What GetConfig answers. -/
def GotCfg (l : List UInt8) (w : World) (e : Ending) (w' : World) : Prop := Below w.heap.size w w' ∧
  ((getCfg l = none ∧ e = .returned (.tuple #[.agg zCfg, .int .i64 1])) ∨ ∃ c u, getCfg l = some c ∧ Ints w' u c.res ∧ e = .returned (.tuple #[.agg #[.int .i64 c.cores, .int .i64 c.syncs, .int .i64 c.lag, .int .i64 c.move, u], .int .i64 0]))
theorem got_bad {l : List UInt8} {w x : World} {st : St} {cs : Array Value} (h : GetC w st cs x) (hn : getCfg l = none) : GotCfg l w (.returned (.tuple #[.agg zCfg, .int .i64 1])) (((((x.setCell ⟨w.heap.size, 0, none⟩ (.int .i64 0)).setCell ⟨w.heap.size, 1, none⟩ (.int .i64 0)).setCell ⟨w.heap.size, 2, none⟩ (.int .i64 0)).setCell ⟨w.heap.size, 3, none⟩ (.int .i64 0)).setCell ⟨w.heap.size, 4, none⟩ (.slice none 0 0)) :=
  ⟨h.bel.trans ((only5 _ _ _ _ _ _ _).belowOf (by have := h.bel.size; omega) (by simp)), .inl ⟨hn, rfl⟩⟩
theorem got_ok {l : List UInt8} {w x : World} {st : St} {cs : Array Value} {c : Cfg} {u : Value} (h : GetC w st cs x) (hn : getCfg l = some c) (hi : Ints x u c.res) (hu : ∀ k, u.ownBlock = some k → w.heap.size < k) : GotCfg l w (.returned (.tuple #[.agg #[.int .i64 c.cores, .int .i64 c.syncs, .int .i64 c.lag, .int .i64 c.move, u], .int .i64 0])) (((((x.setCell ⟨w.heap.size, 0, none⟩ (.int .i64 c.cores)).setCell ⟨w.heap.size, 1, none⟩ (.int .i64 c.syncs)).setCell ⟨w.heap.size, 2, none⟩ (.int .i64 c.lag)).setCell ⟨w.heap.size, 3, none⟩ (.int .i64 c.move)).setCell ⟨w.heap.size, 4, none⟩ u) :=
  ⟨h.bel.trans ((only5 _ _ _ _ _ _ _).belowOf (by have := h.bel.size; omega) (by simp)), .inr ⟨c, u, hn, hi.off (only5 _ _ _ _ _ _ _) (fun k hk => by have := hu k hk; simp; omega), rfl⟩⟩
theorem getCfg_of {l : List UInt8} (h5 : (cfgS5 l).2 = some []) (hb : cfgB (cfgOf l) = true) : getCfg l = some (cfgOf l) := by unfold getCfg; rw [if_pos ⟨h5, hb⟩]
theorem getCfg_no1 {l : List UInt8} (h5 : (cfgS5 l).2 ≠ some []) : getCfg l = none := by unfold getCfg; rw [if_neg (fun h => h5 h.1)]
theorem getCfg_no2 {l : List UInt8} (hb : cfgB (cfgOf l) = false) : getCfg l = none := by unfold getCfg; rw [if_neg (fun h => by rw [hb] at h; simp at h)]
set_option maxHeartbeats 8000000 in
set_option maxRecDepth 100000 in
theorem getCfg_any (s : ByteArray) (w : World) (hs : s.size ≤ 140737488355328) (hE : Env w) :
    Calls Tryz.prog 83 #[.string s] w fun e w' => GotCfg s.data.toList w e w' := by
  obtain ⟨x1, s1, hx1⟩ : ∃ x s', numS kCores (some s.data.toList) = (x, s') := ⟨_, _, rfl⟩
  obtain ⟨x2, s2, hx2⟩ : ∃ x s', numS kSyncs s1 = (x, s') := ⟨_, _, rfl⟩
  obtain ⟨x3, s3, hx3⟩ : ∃ x s', numS kLag s2 = (x, s') := ⟨_, _, rfl⟩
  obtain ⟨x4, s4, hx4⟩ : ∃ x s', numS kMove s3 = (x, s') := ⟨_, _, rfl⟩
  have e1 : cfgS1 s.data.toList = (x1, s1) := hx1
  have e2 : cfgS2 s.data.toList = (x2, s2) := by unfold cfgS2; rw [e1]; exact hx2
  have e3 : cfgS3 s.data.toList = (x3, s3) := by unfold cfgS3; rw [e2]; exact hx3
  have e4 : cfgS4 s.data.toList = (x4, s4) := by unfold cfgS4; rw [e3]; exact hx4
  have X1 : Hid (numS kCores (some s.data.toList) = (x1, s1)) := hx1
  have X2 : Hid (numS kSyncs s1 = (x2, s2)) := hx2
  have X3 : Hid (numS kLag s2 = (x3, s3)) := hx3
  have X4 : Hid (numS kMove s3 = (x4, s4)) := hx4
  have EC : Hid (cfgOf s.data.toList = ⟨x1, x2, x3, x4, (cfgS5 s.data.toList).1⟩) := by unfold Hid cfgOf; rw [e1, e2, e3, e4]
  have E5 : Hid (cfgS5 s.data.toList = if moreS s4 then agentsA (textS kRes s4) else ([], s4)) := by unfold Hid cfgS5; rw [e4]
  clear hx1 hx2 hx3 hx4 e1 e2 e3 e4
  have h5 := hE.1
  have g0 : Hid (GetC w (some s.data.toList) zCfg (((w.alloc (.cells zCfg 24)).alloc (.cells #[.string s, .bool false] 107)).alloc (.cells zCfg 24))) := by
    have b0 := balloc w (.cells zCfg 24)
    have b1 := balloc (w.alloc (.cells zCfg 24)) (.cells #[.string s, .bool false] 107)
    have b2 := balloc ((w.alloc (.cells zCfg 24)).alloc (.cells #[.string s, .bool false] 107)) (.cells zCfg 24)
    have z1 : (w.alloc (.cells zCfg 24)).heap.size = w.heap.size + 1 := by simp
    have z2 : ((w.alloc (.cells zCfg 24)).alloc (.cells #[.string s, .bool false] 107)).heap.size = w.heap.size + 2 := by simp
    refine ⟨⟨s, false, ?_, hs, rfl⟩, ?_, ?_, ((hE.below b0).below b1).below b2, btrans (btrans b0 b1) b2, h5⟩
    · unfold RdAt
      rw [b2.block _ (by omega), ← z1]
      exact heap_alloc_new _ _
    · exact (Blk.below (Blk.below (heap_alloc_new _ _) b1) b2)
    · unfold Blk
      rw [← z2]
      exact heap_alloc_new _ _
  clear hE
  go_enter Tryz.func83, Tryz.ntmps83
  go_wp2_with fail
  refine (number_at (w.heap.size + 1) _ ⟨#[99, 111, 114, 101, 115, 32]⟩ kCores rfl x1 s1 X1.out _ g0.out.env (by omega) g0.out.rd).mono ?_
  rintro e w1 ⟨rfl, r1, o1⟩
  have q1 : Hid (GetC w s1 zCfg w1) := g0.out.read r1 o1
  have c0 : w1.cell? ⟨w.heap.size + 2, 0, none⟩ = some (.int .i64 0) := q1.out.blk.cell 0
  have f0 := q1.out.blk.frozen 0
  have l0 := q1.out.blk.lt
  clear r1 o1 g0
  go_wp2_with fail
  have q2 := q1.out.store 0 (.int .i64 x1)
  simp only [List.setIfInBounds_toArray, List.set_cons_zero] at q2
  generalize hW2 : w1.setCell ⟨w.heap.size + 2, 0, none⟩ (.int .i64 x1) = W2 at q2 ⊢
  have Q2 : Hid (GetC w s1 _ W2) := q2
  clear q1 c0 f0 q2 hW2 l0
  refine (number_at (w.heap.size + 1) _ ⟨#[32, 115, 121, 110, 99, 115, 32]⟩ kSyncs rfl x2 s2 X2.out _ Q2.out.env (by omega) Q2.out.rd).mono ?_
  rintro e w3 ⟨rfl, r3, o3⟩
  have q3 : Hid (GetC w s2 _ w3) := Q2.out.read r3 o3
  have c0 : w3.cell? ⟨w.heap.size + 2, 1, none⟩ = some (.int .i64 0) := q3.out.blk.cell 1
  have f0 := q3.out.blk.frozen 1
  have l0 := q3.out.blk.lt
  clear r3 o3 Q2
  go_wp2_with fail
  have q4 := q3.out.store 1 (.int .i64 x2)
  simp only [List.setIfInBounds_toArray, List.set_cons_zero, List.set_cons_succ] at q4
  generalize hW4 : w3.setCell ⟨w.heap.size + 2, 1, none⟩ (.int .i64 x2) = W4 at q4 ⊢
  have Q4 : Hid (GetC w s2 _ W4) := q4
  clear q3 c0 f0 q4 hW4 l0
  refine (number_at (w.heap.size + 1) _ ⟨#[32, 108, 97, 103, 32]⟩ kLag rfl x3 s3 X3.out _ Q4.out.env (by omega) Q4.out.rd).mono ?_
  rintro e w5 ⟨rfl, r5, o5⟩
  have q5 : Hid (GetC w s3 _ w5) := Q4.out.read r5 o5
  have c0 : w5.cell? ⟨w.heap.size + 2, 2, none⟩ = some (.int .i64 0) := q5.out.blk.cell 2
  have f0 := q5.out.blk.frozen 2
  have l0 := q5.out.blk.lt
  clear r5 o5 Q4
  go_wp2_with fail
  have q6 := q5.out.store 2 (.int .i64 x3)
  simp only [List.setIfInBounds_toArray, List.set_cons_zero, List.set_cons_succ] at q6
  generalize hW6 : w5.setCell ⟨w.heap.size + 2, 2, none⟩ (.int .i64 x3) = W6 at q6 ⊢
  have Q6 : Hid (GetC w s3 _ W6) := q6
  clear q5 c0 f0 q6 hW6 l0
  refine (number_at (w.heap.size + 1) _ ⟨#[32, 109, 111, 118, 101, 32]⟩ kMove rfl x4 s4 X4.out _ Q6.out.env (by omega) Q6.out.rd).mono ?_
  rintro e w7 ⟨rfl, r7, o7⟩
  have q7 : Hid (GetC w s4 _ w7) := Q6.out.read r7 o7
  have c0 : w7.cell? ⟨w.heap.size + 2, 3, none⟩ = some (.int .i64 0) := q7.out.blk.cell 3
  have f0 := q7.out.blk.frozen 3
  have l0 := q7.out.blk.lt
  clear r7 o7 Q6
  go_wp2_with fail
  have q8 := q7.out.store 3 (.int .i64 x4)
  simp only [List.setIfInBounds_toArray, List.set_cons_zero, List.set_cons_succ] at q8
  generalize hW8 : w7.setCell ⟨w.heap.size + 2, 3, none⟩ (.int .i64 x4) = W8 at q8 ⊢
  have Q8 : Hid (GetC w s4 #[.int .i64 x1, .int .i64 x2, .int .i64 x3, .int .i64 x4, .slice none 0 0] W8) := q8
  clear q7 c0 f0 q8 hW8 l0
  refine (more_any (w.heap.size + 1) s4 _ Q8.out.rd).mono ?_
  rintro e w' ⟨rfl, hw⟩
  subst w'
  cases hm : moreS s4
  · go_wp2_with fail
    refine (ended_any (w.heap.size + 1) s4 _ Q8.out.rd).mono ?_
    rintro e w' ⟨rfl, hw⟩
    subst w'
    have SF : Hid ((cfgS5 s.data.toList).2 = s4 ∧ (cfgS5 s.data.toList).1 = []) := by unfold Hid; rw [E5.out, if_neg (by simp [hm])]; exact ⟨rfl, rfl⟩
    have c0 : W8.cell? ⟨w.heap.size + 1 + 1, 0, none⟩ = some (.int .i64 x1) := Q8.out.blk.cell 0
    have c1 : W8.cell? ⟨w.heap.size + 1 + 1, 1, none⟩ = some (.int .i64 x2) := Q8.out.blk.cell 1
    have c2 : W8.cell? ⟨w.heap.size + 1 + 1, 2, none⟩ = some (.int .i64 x3) := Q8.out.blk.cell 2
    have c3 : W8.cell? ⟨w.heap.size + 1 + 1, 3, none⟩ = some (.int .i64 x4) := Q8.out.blk.cell 3
    have c4 : W8.cell? ⟨w.heap.size + 1 + 1, 4, none⟩ = some (.slice none 0 0) := Q8.out.blk.cell 4
    have d0 : W8.cell? ⟨w.heap.size, 0, none⟩ = some (.int .i64 0) := Q8.out.res.cell 0
    have d1 : W8.cell? ⟨w.heap.size, 1, none⟩ = some (.int .i64 0) := Q8.out.res.cell 1
    have d2 : W8.cell? ⟨w.heap.size, 2, none⟩ = some (.int .i64 0) := Q8.out.res.cell 2
    have d3 : W8.cell? ⟨w.heap.size, 3, none⟩ = some (.int .i64 0) := Q8.out.res.cell 3
    have d4 : W8.cell? ⟨w.heap.size, 4, none⟩ = some (.slice none 0 0) := Q8.out.res.cell 4
    have f0 := Q8.out.res.frozen 0
    have f1 := Q8.out.res.frozen 1
    have f2 := Q8.out.res.frozen 2
    have f3 := Q8.out.res.frozen 3
    have f4 := Q8.out.res.frozen 4
    have l9 := Q8.out.res.lt
    by_cases hs4 : s4 = some []
    · have hd : decide (s4 = some []) = true := by simp [hs4]
      have HS : Hid (s4 = some []) := hs4
      clear hs4 d0 d1 d2 d3 d4 f0 f1 f2 f3 f4
      rw [hd]
      go_wp2_with fail
      refine (rconfig_any x1 x2 x3 x4 (.slice none 0 0) [] _ (.inl ⟨rfl, _, _, rfl⟩) (by simp)).mono ?_
      rintro e w9 ⟨rfl, g9⟩
      have Q9 : Hid (GetC w s4 #[.int .i64 x1, .int .i64 x2, .int .i64 x3, .int .i64 x4, .slice none 0 0] w9) := Q8.out.below g9
      have I9 : Hid (Ints w9 (.slice none 0 0) []) := Ints.below (.inl ⟨rfl, _, _, rfl⟩) g9
      have c0 : w9.cell? ⟨w.heap.size + 1 + 1, 0, none⟩ = some (.int .i64 x1) := Q9.out.blk.cell 0
      have c1 : w9.cell? ⟨w.heap.size + 1 + 1, 1, none⟩ = some (.int .i64 x2) := Q9.out.blk.cell 1
      have c2 : w9.cell? ⟨w.heap.size + 1 + 1, 2, none⟩ = some (.int .i64 x3) := Q9.out.blk.cell 2
      have c3 : w9.cell? ⟨w.heap.size + 1 + 1, 3, none⟩ = some (.int .i64 x4) := Q9.out.blk.cell 3
      have c4 : w9.cell? ⟨w.heap.size + 1 + 1, 4, none⟩ = some (.slice none 0 0) := Q9.out.blk.cell 4
      have d0 : w9.cell? ⟨w.heap.size, 0, none⟩ = some (.int .i64 0) := Q9.out.res.cell 0
      have d1 : w9.cell? ⟨w.heap.size, 1, none⟩ = some (.int .i64 0) := Q9.out.res.cell 1
      have d2 : w9.cell? ⟨w.heap.size, 2, none⟩ = some (.int .i64 0) := Q9.out.res.cell 2
      have d3 : w9.cell? ⟨w.heap.size, 3, none⟩ = some (.int .i64 0) := Q9.out.res.cell 3
      have d4 : w9.cell? ⟨w.heap.size, 4, none⟩ = some (.slice none 0 0) := Q9.out.res.cell 4
      have f0 := Q9.out.res.frozen 0
      have f1 := Q9.out.res.frozen 1
      have f2 := Q9.out.res.frozen 2
      have f3 := Q9.out.res.frozen 3
      have f4 := Q9.out.res.frozen 4
      have l9 := Q9.out.res.lt
      clear g9 Q8
      cases hb : cfgB ⟨x1, x2, x3, x4, []⟩
      · go_wp2_with fail
        have r := set5_blk Q9.out.res (.int .i64 0) (.int .i64 0) (.int .i64 0) (.int .i64 0) (.slice none 0 0)
        have fin := got_bad Q9.out (getCfg_no2 (by rw [EC.out, SF.out.2]; exact hb))
        generalize hZ : World.setCell _ _ _ = Z at r fin ⊢
        have k0 : Z.cell? ⟨w.heap.size, 0, none⟩ = some (.int .i64 0) := r.cell 0
        have k1 : Z.cell? ⟨w.heap.size, 1, none⟩ = some (.int .i64 0) := r.cell 1
        have k2 : Z.cell? ⟨w.heap.size, 2, none⟩ = some (.int .i64 0) := r.cell 2
        have k3 : Z.cell? ⟨w.heap.size, 3, none⟩ = some (.int .i64 0) := r.cell 3
        have k4 : Z.cell? ⟨w.heap.size, 4, none⟩ = some (.slice none 0 0) := r.cell 4
        exact bodyPost_ret (v := .tuple #[.agg zCfg, .int .i64 1]) (by simp [results, Tryz.results83, go_sem, k0, k1, k2, k3, k4]) rfl fin
      · go_wp2_with fail
        have ec : cfgOf s.data.toList = ⟨x1, x2, x3, x4, []⟩ := by rw [EC.out, SF.out.2]
        have r := set5_blk Q9.out.res (.int .i64 x1) (.int .i64 x2) (.int .i64 x3) (.int .i64 x4) (.slice none 0 0)
        have fin := got_ok (c := ⟨x1, x2, x3, x4, []⟩) (u := .slice none 0 0) Q9.out (by rw [← ec]; exact getCfg_of (by rw [SF.out.1]; exact HS.out) (by rw [ec]; exact hb)) I9.out (by intro k hk; simp [Value.ownBlock] at hk)
        generalize hZ : World.setCell _ _ _ = Z at r fin ⊢
        have k0 : Z.cell? ⟨w.heap.size, 0, none⟩ = some (.int .i64 x1) := r.cell 0
        have k1 : Z.cell? ⟨w.heap.size, 1, none⟩ = some (.int .i64 x2) := r.cell 1
        have k2 : Z.cell? ⟨w.heap.size, 2, none⟩ = some (.int .i64 x3) := r.cell 2
        have k3 : Z.cell? ⟨w.heap.size, 3, none⟩ = some (.int .i64 x4) := r.cell 3
        have k4 : Z.cell? ⟨w.heap.size, 4, none⟩ = some (.slice none 0 0) := r.cell 4
        exact bodyPost_ret (v := .tuple #[.agg #[.int .i64 x1, .int .i64 x2, .int .i64 x3, .int .i64 x4, .slice none 0 0], .int .i64 0]) (by simp [results, Tryz.results83, go_sem, k0, k1, k2, k3, k4]) rfl fin
    · have hd : decide (s4 = some []) = false := by simp [hs4]
      have HS : Hid (¬ s4 = some []) := hs4
      clear hs4
      rw [hd]
      go_wp2_with fail
      have r := set5_blk Q8.out.res (.int .i64 0) (.int .i64 0) (.int .i64 0) (.int .i64 0) (.slice none 0 0)
      have fin := got_bad Q8.out (getCfg_no1 (by rw [SF.out.1]; exact HS.out))
      generalize hZ : World.setCell _ _ _ = Z at r fin ⊢
      have k0 : Z.cell? ⟨w.heap.size, 0, none⟩ = some (.int .i64 0) := r.cell 0
      have k1 : Z.cell? ⟨w.heap.size, 1, none⟩ = some (.int .i64 0) := r.cell 1
      have k2 : Z.cell? ⟨w.heap.size, 2, none⟩ = some (.int .i64 0) := r.cell 2
      have k3 : Z.cell? ⟨w.heap.size, 3, none⟩ = some (.int .i64 0) := r.cell 3
      have k4 : Z.cell? ⟨w.heap.size, 4, none⟩ = some (.slice none 0 0) := r.cell 4
      exact bodyPost_ret (v := .tuple #[.agg zCfg, .int .i64 1]) (by simp [results, Tryz.results83, go_sem, k0, k1, k2, k3, k4]) rfl fin
  · go_wp2_with fail
    refine (text_any (w.heap.size + 1) s4 ⟨#[32, 114, 101, 115]⟩ _ Q8.out.rd).mono ?_
    rintro e w9 ⟨rfl, r9, o9⟩
    have Q9 : Hid (GetC w (textS kRes s4) #[.int .i64 x1, .int .i64 x2, .int .i64 x3, .int .i64 x4, .slice none 0 0] w9) := Q8.out.read r9 o9
    clear r9 o9 Q8
    go_wp2_with fail
    refine (agents_any (w.heap.size + 1) (textS kRes s4) _ Q9.out.env (by omega) Q9.out.rd).mono ?_
    rintro e wa ⟨u, rfl, own, ra, oa⟩
    obtain ⟨res, sa, hA⟩ : ∃ res sa, agentsA (textS kRes s4) = (res, sa) := ⟨_, _, rfl⟩
    rw [hA] at own ra
    have HA : Hid (agentsA (textS kRes s4) = (res, sa)) := hA
    have HL : Hid (res.length ≤ 1000000) := by
      have := agentsS_len 5 (numS [32] (textS kRes s4)).2
      have e : res = (agentsA (textS kRes s4)).1 := by rw [hA]
      unfold Hid; rw [e]; unfold agentsA; simp only [List.length_cons]; omega
    have z9 : w.heap.size + 2 < w9.heap.size := Q9.out.blk.lt
    have HU : Hid (∀ k, u.ownBlock = some k → w.heap.size + 2 < k) := fun k hk => by have := (own.lt k hk).1; omega
    have QA : Hid (GetC w sa #[.int .i64 x1, .int .i64 x2, .int .i64 x3, .int .i64 x4, .slice none 0 0] wa) := Q9.out.read ra oa
    obtain ⟨ad, cap, rfl⟩ := own_form own
    have OW : Hid (Ints wa (.slice ad res.length cap) res) := own_ints own
    have c0 : wa.cell? ⟨w.heap.size + 2, 4, none⟩ = some (.slice none 0 0) := QA.out.blk.cell 4
    have f0 := QA.out.blk.frozen 4
    have l0 := QA.out.blk.lt
    clear own ra oa hA Q9 z9
    go_wp2_with fail
    have qb := QA.out.store 4 (.slice ad res.length cap)
    simp only [List.setIfInBounds_toArray, List.set_cons_zero, List.set_cons_succ] at qb
    have ib : Ints (wa.setCell ⟨w.heap.size + 2, 4, none⟩ (.slice ad res.length cap)) (.slice ad res.length cap) res := OW.out.off ((Only.refl [w.heap.size + 2] wa).setCell (p := ⟨w.heap.size + 2, 4, none⟩) (by simp) _) (fun k hk => by have := HU.out k hk; simp; omega)
    generalize hWb : wa.setCell ⟨w.heap.size + 2, 4, none⟩ (.slice ad res.length cap) = Wb at qb ib ⊢
    have Qb : Hid (GetC w sa #[.int .i64 x1, .int .i64 x2, .int .i64 x3, .int .i64 x4, .slice ad res.length cap] Wb) := qb
    have IB : Hid (Ints Wb (.slice ad res.length cap) res) := ib
    clear QA c0 f0 qb ib hWb l0 OW
    refine (ended_any (w.heap.size + 1) sa _ Qb.out.rd).mono ?_
    rintro e w' ⟨rfl, hw⟩
    subst w'
    have SF : Hid ((cfgS5 s.data.toList).2 = sa ∧ (cfgS5 s.data.toList).1 = res) := by unfold Hid; rw [E5.out, if_pos hm, HA.out]; exact ⟨rfl, rfl⟩
    have c0 : Wb.cell? ⟨w.heap.size + 1 + 1, 0, none⟩ = some (.int .i64 x1) := Qb.out.blk.cell 0
    have c1 : Wb.cell? ⟨w.heap.size + 1 + 1, 1, none⟩ = some (.int .i64 x2) := Qb.out.blk.cell 1
    have c2 : Wb.cell? ⟨w.heap.size + 1 + 1, 2, none⟩ = some (.int .i64 x3) := Qb.out.blk.cell 2
    have c3 : Wb.cell? ⟨w.heap.size + 1 + 1, 3, none⟩ = some (.int .i64 x4) := Qb.out.blk.cell 3
    have c4 : Wb.cell? ⟨w.heap.size + 1 + 1, 4, none⟩ = some (.slice ad res.length cap) := Qb.out.blk.cell 4
    have d0 : Wb.cell? ⟨w.heap.size, 0, none⟩ = some (.int .i64 0) := Qb.out.res.cell 0
    have d1 : Wb.cell? ⟨w.heap.size, 1, none⟩ = some (.int .i64 0) := Qb.out.res.cell 1
    have d2 : Wb.cell? ⟨w.heap.size, 2, none⟩ = some (.int .i64 0) := Qb.out.res.cell 2
    have d3 : Wb.cell? ⟨w.heap.size, 3, none⟩ = some (.int .i64 0) := Qb.out.res.cell 3
    have d4 : Wb.cell? ⟨w.heap.size, 4, none⟩ = some (.slice none 0 0) := Qb.out.res.cell 4
    have f0 := Qb.out.res.frozen 0
    have f1 := Qb.out.res.frozen 1
    have f2 := Qb.out.res.frozen 2
    have f3 := Qb.out.res.frozen 3
    have f4 := Qb.out.res.frozen 4
    have l9 := Qb.out.res.lt
    by_cases hs4 : sa = some []
    · have hd : decide (sa = some []) = true := by simp [hs4]
      have HS : Hid (sa = some []) := hs4
      clear hs4 d0 d1 d2 d3 d4 f0 f1 f2 f3 f4
      rw [hd]
      go_wp2_with fail
      refine (rconfig_any x1 x2 x3 x4 (.slice ad res.length cap) res _ IB.out HL.out).mono ?_
      rintro e w9 ⟨rfl, g9⟩
      have Q9 : Hid (GetC w sa #[.int .i64 x1, .int .i64 x2, .int .i64 x3, .int .i64 x4, .slice ad res.length cap] w9) := Qb.out.below g9
      have I9 : Hid (Ints w9 (.slice ad res.length cap) res) := Ints.below IB.out g9
      have c0 : w9.cell? ⟨w.heap.size + 1 + 1, 0, none⟩ = some (.int .i64 x1) := Q9.out.blk.cell 0
      have c1 : w9.cell? ⟨w.heap.size + 1 + 1, 1, none⟩ = some (.int .i64 x2) := Q9.out.blk.cell 1
      have c2 : w9.cell? ⟨w.heap.size + 1 + 1, 2, none⟩ = some (.int .i64 x3) := Q9.out.blk.cell 2
      have c3 : w9.cell? ⟨w.heap.size + 1 + 1, 3, none⟩ = some (.int .i64 x4) := Q9.out.blk.cell 3
      have c4 : w9.cell? ⟨w.heap.size + 1 + 1, 4, none⟩ = some (.slice ad res.length cap) := Q9.out.blk.cell 4
      have d0 : w9.cell? ⟨w.heap.size, 0, none⟩ = some (.int .i64 0) := Q9.out.res.cell 0
      have d1 : w9.cell? ⟨w.heap.size, 1, none⟩ = some (.int .i64 0) := Q9.out.res.cell 1
      have d2 : w9.cell? ⟨w.heap.size, 2, none⟩ = some (.int .i64 0) := Q9.out.res.cell 2
      have d3 : w9.cell? ⟨w.heap.size, 3, none⟩ = some (.int .i64 0) := Q9.out.res.cell 3
      have d4 : w9.cell? ⟨w.heap.size, 4, none⟩ = some (.slice none 0 0) := Q9.out.res.cell 4
      have f0 := Q9.out.res.frozen 0
      have f1 := Q9.out.res.frozen 1
      have f2 := Q9.out.res.frozen 2
      have f3 := Q9.out.res.frozen 3
      have f4 := Q9.out.res.frozen 4
      have l9 := Q9.out.res.lt
      clear g9 Qb
      cases hb : cfgB ⟨x1, x2, x3, x4, res⟩
      · go_wp2_with fail
        have r := set5_blk Q9.out.res (.int .i64 0) (.int .i64 0) (.int .i64 0) (.int .i64 0) (.slice none 0 0)
        have fin := got_bad Q9.out (getCfg_no2 (by rw [EC.out, SF.out.2]; exact hb))
        generalize hZ : World.setCell _ _ _ = Z at r fin ⊢
        have k0 : Z.cell? ⟨w.heap.size, 0, none⟩ = some (.int .i64 0) := r.cell 0
        have k1 : Z.cell? ⟨w.heap.size, 1, none⟩ = some (.int .i64 0) := r.cell 1
        have k2 : Z.cell? ⟨w.heap.size, 2, none⟩ = some (.int .i64 0) := r.cell 2
        have k3 : Z.cell? ⟨w.heap.size, 3, none⟩ = some (.int .i64 0) := r.cell 3
        have k4 : Z.cell? ⟨w.heap.size, 4, none⟩ = some (.slice none 0 0) := r.cell 4
        exact bodyPost_ret (v := .tuple #[.agg zCfg, .int .i64 1]) (by simp [results, Tryz.results83, go_sem, k0, k1, k2, k3, k4]) rfl fin
      · go_wp2_with fail
        have ec : cfgOf s.data.toList = ⟨x1, x2, x3, x4, res⟩ := by rw [EC.out, SF.out.2]
        have r := set5_blk Q9.out.res (.int .i64 x1) (.int .i64 x2) (.int .i64 x3) (.int .i64 x4) (.slice ad res.length cap)
        have fin := got_ok (c := ⟨x1, x2, x3, x4, res⟩) (u := .slice ad res.length cap) Q9.out (by rw [← ec]; exact getCfg_of (by rw [SF.out.1]; exact HS.out) (by rw [ec]; exact hb)) I9.out (fun k hk => by have := HU.out k hk; omega)
        generalize hZ : World.setCell _ _ _ = Z at r fin ⊢
        have k0 : Z.cell? ⟨w.heap.size, 0, none⟩ = some (.int .i64 x1) := r.cell 0
        have k1 : Z.cell? ⟨w.heap.size, 1, none⟩ = some (.int .i64 x2) := r.cell 1
        have k2 : Z.cell? ⟨w.heap.size, 2, none⟩ = some (.int .i64 x3) := r.cell 2
        have k3 : Z.cell? ⟨w.heap.size, 3, none⟩ = some (.int .i64 x4) := r.cell 3
        have k4 : Z.cell? ⟨w.heap.size, 4, none⟩ = some (.slice ad res.length cap) := r.cell 4
        exact bodyPost_ret (v := .tuple #[.agg #[.int .i64 x1, .int .i64 x2, .int .i64 x3, .int .i64 x4, .slice ad res.length cap], .int .i64 0]) (by simp [results, Tryz.results83, go_sem, k0, k1, k2, k3, k4]) rfl fin
    · have hd : decide (sa = some []) = false := by simp [hs4]
      have HS : Hid (¬ sa = some []) := hs4
      clear hs4
      rw [hd]
      go_wp2_with fail
      have r := set5_blk Qb.out.res (.int .i64 0) (.int .i64 0) (.int .i64 0) (.int .i64 0) (.slice none 0 0)
      have fin := got_bad Qb.out (getCfg_no1 (by rw [SF.out.1]; exact HS.out))
      generalize hZ : World.setCell _ _ _ = Z at r fin ⊢
      have k0 : Z.cell? ⟨w.heap.size, 0, none⟩ = some (.int .i64 0) := r.cell 0
      have k1 : Z.cell? ⟨w.heap.size, 1, none⟩ = some (.int .i64 0) := r.cell 1
      have k2 : Z.cell? ⟨w.heap.size, 2, none⟩ = some (.int .i64 0) := r.cell 2
      have k3 : Z.cell? ⟨w.heap.size, 3, none⟩ = some (.int .i64 0) := r.cell 3
      have k4 : Z.cell? ⟨w.heap.size, 4, none⟩ = some (.slice none 0 0) := r.cell 4
      exact bodyPost_ret (v := .tuple #[.agg zCfg, .int .i64 1]) (by simp [results, Tryz.results83, go_sem, k0, k1, k2, k3, k4]) rfl fin
end Go.Proofs.YtakdliecjfeedaaGreatDoor

/- The contract of note.GetTask. -/
namespace Go.Proofs.YtakdliecjfeedaaGreatDoor
open Go Go.RowKit

abbrev zTsk : Array Value := #[.int .i64 0, .int .i64 0, .int .i64 0, .slice none 0 0]
/-- Under way in GetTask: the configuration that came, the result, the reader, the task. -/
structure GetT (w : World) (cc : Array Value) (st : St) (cs : Array Value) (w' : World) : Prop where
  cfg : Blk w' w.heap.size cc 24
  rd : Rd w' (w.heap.size + 2) st
  res : Blk w' (w.heap.size + 1) zTsk 34
  blk : Blk w' (w.heap.size + 3) cs 34
  env : Env w'
  bel : Below w.heap.size w w'
  five : 5 ≤ w.heap.size
theorem GetT.read {a x y : World} {cc : Array Value} {st st' : St} {cs : Array Value} (h : GetT a cc st cs x) (r : Rd y (a.heap.size + 2) st') (o : Only [a.heap.size + 2] x y) : GetT a cc st' cs y :=
  ⟨h.cfg.only o (by simp), r, h.res.only o (by simp), h.blk.only o (by simp), h.env.only o (by simp; have := h.five; omega), h.bel.trans (o.belowOf (by have := h.bel.size; omega) (by simp)), h.five⟩
theorem GetT.store {a x : World} {cc : Array Value} {st : St} {cs : Array Value} (h : GetT a cc st cs x) (i : Nat) (v : Value) : GetT a cc st (cs.setIfInBounds i v) (x.setCell ⟨a.heap.size + 3, i, none⟩ v) := by
  obtain ⟨h1, h2⟩ := h.blk.set i v
  exact ⟨h.cfg.only h2 (by simp), h.rd.only h2 (by simp), h.res.only h2 (by simp), h1, h.env.only h2 (by simp; have := h.five; omega), h.bel.trans (h2.belowOf (by have := h.bel.size; omega) (by simp)), h.five⟩
theorem GetT.below {a x y : World} {cc : Array Value} {st : St} {cs : Array Value} (h : GetT a cc st cs x) (g : Below x.heap.size x y) : GetT a cc st cs y :=
  ⟨h.cfg.below g, h.rd.below g, h.res.below g, h.blk.below g, h.env.below g, btrans h.bel g, h.five⟩
theorem set4_blk {w : World} {g : Nat} {t : TypeId} (h : Blk w g zTsk t) (a b c d : Value) : Blk ((((w.setCell ⟨g, 0, none⟩ a).setCell ⟨g, 1, none⟩ b).setCell ⟨g, 2, none⟩ c).setCell ⟨g, 3, none⟩ d) g #[a, b, c, d] t :=
  ((((h.set 0 a).1.set 1 b).1.set 2 c).1.set 3 d).1
/-- What GetTask answers. -/
def GotTsk (c : Cfg) (l : List UInt8) (w : World) (e : Ending) (w' : World) : Prop := Below w.heap.size w w' ∧
  (((cfgB c = false ∨ getTsk c.res.length l = none) ∧ e = .returned (.tuple #[.agg zTsk, .int .i64 1])) ∨ ∃ t u, cfgB c = true ∧ getTsk c.res.length l = some t ∧ Secs w' u t.secs ∧ e = .returned (.tuple #[.agg #[.int .i64 t.c, .int .i64 t.d, .int .i64 t.t, u], .int .i64 0]))
theorem gott_bad {c : Cfg} {l : List UInt8} {w x : World} {cc : Array Value} {st : St} {cs : Array Value} (h : GetT w cc st cs x) (hn : cfgB c = false ∨ getTsk c.res.length l = none) : GotTsk c l w (.returned (.tuple #[.agg zTsk, .int .i64 1])) ((((x.setCell ⟨w.heap.size + 1, 0, none⟩ (.int .i64 0)).setCell ⟨w.heap.size + 1, 1, none⟩ (.int .i64 0)).setCell ⟨w.heap.size + 1, 2, none⟩ (.int .i64 0)).setCell ⟨w.heap.size + 1, 3, none⟩ (.slice none 0 0)) :=
  ⟨h.bel.trans ((only4 _ _ _ _ _ _).belowOf (by have := h.bel.size; omega) (by simp)), .inl ⟨hn, rfl⟩⟩
theorem gott_ok {c : Cfg} {l : List UInt8} {w x : World} {cc : Array Value} {st : St} {cs : Array Value} {t : Tsk} {u : Value} (h : GetT w cc st cs x) (hc : cfgB c = true) (hn : getTsk c.res.length l = some t) (hi : Secs x u t.secs) (hu : ∀ k, u.ownBlock = some k → w.heap.size + 1 < k) : GotTsk c l w (.returned (.tuple #[.agg #[.int .i64 t.c, .int .i64 t.d, .int .i64 t.t, u], .int .i64 0])) ((((x.setCell ⟨w.heap.size + 1, 0, none⟩ (.int .i64 t.c)).setCell ⟨w.heap.size + 1, 1, none⟩ (.int .i64 t.d)).setCell ⟨w.heap.size + 1, 2, none⟩ (.int .i64 t.t)).setCell ⟨w.heap.size + 1, 3, none⟩ u) :=
  ⟨h.bel.trans ((only4 _ _ _ _ _ _).belowOf (by have := h.bel.size; omega) (by simp)), .inr ⟨t, u, hc, hn, hi.off (only4 _ _ _ _ _ _) (fun k hk => by have := hu k hk; simp; omega), rfl⟩⟩
theorem getTsk_of {n : Int} {l : List UInt8} (h5 : (tskS4 l).2 = some []) (hb : tskB n (tskOf l) = true) : getTsk n l = some (tskOf l) := by unfold getTsk; rw [if_pos ⟨h5, hb⟩]
theorem getTsk_no1 {n : Int} {l : List UInt8} (h5 : (tskS4 l).2 ≠ some []) : getTsk n l = none := by unfold getTsk; rw [if_neg (fun h => h5 h.1)]
theorem getTsk_no2 {n : Int} {l : List UInt8} (hb : tskB n (tskOf l) = false) : getTsk n l = none := by unfold getTsk; rw [if_neg (fun h => by rw [hb] at h; simp at h)]

set_option maxHeartbeats 8000000 in
set_option maxRecDepth 100000 in
theorem getTsk_any (co sy la mo : Int) (v : Value) (l : List Int) (s : ByteArray) (w : World) (hs : s.size ≤ 140737488355328) (hE : Env w) (hv : Ints w v l) (hl : l.length ≤ 1000000) :
    Calls Tryz.prog 84 #[.agg #[.int .i64 co, .int .i64 sy, .int .i64 la, .int .i64 mo, v], .string s] w fun e w' => GotTsk ⟨co, sy, la, mo, l⟩ s.data.toList w e w' := by
  obtain ⟨x1, s1, hx1⟩ : ∃ x s', numS [] (some s.data.toList) = (x, s') := ⟨_, _, rfl⟩
  obtain ⟨x2, s2, hx2⟩ : ∃ x s', numS [47] s1 = (x, s') := ⟨_, _, rfl⟩
  obtain ⟨x3, s3, hx3⟩ : ∃ x s', numS [47] s2 = (x, s') := ⟨_, _, rfl⟩
  obtain ⟨m, sa, hxa⟩ : ∃ x s', secsS 2 s3 = (x, s') := ⟨_, _, rfl⟩
  have e1 : tskS1 s.data.toList = (x1, s1) := hx1
  have e2 : tskS2 s.data.toList = (x2, s2) := by unfold tskS2; rw [e1]; exact hx2
  have e3 : tskS3 s.data.toList = (x3, s3) := by unfold tskS3; rw [e2]; exact hx3
  have e4 : tskS4 s.data.toList = (m, sa) := by unfold tskS4; rw [e3]; exact hxa
  have X1 : Hid (numS [] (some s.data.toList) = (x1, s1)) := hx1
  have X2 : Hid (numS [47] s1 = (x2, s2)) := hx2
  have X3 : Hid (numS [47] s2 = (x3, s3)) := hx3
  have XA : Hid (secsS 2 s3 = (m, sa)) := hxa
  have EC : Hid (tskOf s.data.toList = ⟨x1, x2, x3, m⟩) := by unfold Hid tskOf; rw [e1, e2, e3, e4]
  have E5 : Hid ((tskS4 s.data.toList).2 = sa) := by unfold Hid; rw [e4]
  have HL : Hid (m.length ≤ 1000000) := by
    have := secsS_len 2 s3
    rw [hxa] at this
    unfold Hid; simp only at this; omega
  clear hx1 hx2 hx3 hxa e1 e2 e3 e4
  have h5 := hE.1
  have HV : Hid (Ints w v l) := hv
  obtain ⟨a, cap, rfl⟩ := hv.form
  clear hv
  have g0 : Hid (GetT w #[.int .i64 co, .int .i64 sy, .int .i64 la, .int .i64 mo, .slice a l.length cap] (some s.data.toList) zTsk ((((w.alloc (.cells #[.int .i64 co, .int .i64 sy, .int .i64 la, .int .i64 mo, .slice a l.length cap] 24)).alloc (.cells zTsk 34)).alloc (.cells #[.string s, .bool false] 107)).alloc (.cells zTsk 34))) := by
    have b0 := balloc w (.cells #[.int .i64 co, .int .i64 sy, .int .i64 la, .int .i64 mo, .slice a l.length cap] 24)
    generalize hA : w.alloc (.cells #[.int .i64 co, .int .i64 sy, .int .i64 la, .int .i64 mo, .slice a l.length cap] 24) = A at b0 ⊢
    have k0 : Blk A w.heap.size #[.int .i64 co, .int .i64 sy, .int .i64 la, .int .i64 mo, .slice a l.length cap] 24 := by rw [← hA]; exact heap_alloc_new _ _
    have z0 : A.heap.size = w.heap.size + 1 := by rw [← hA]; simp
    have b1 := balloc A (.cells zTsk 34)
    generalize hB : A.alloc (.cells zTsk 34) = B at b1 ⊢
    have k1 : Blk B (w.heap.size + 1) zTsk 34 := by rw [← hB, ← z0]; exact heap_alloc_new _ _
    have z1 : B.heap.size = w.heap.size + 2 := by rw [← hB]; simp [z0]
    have b2 := balloc B (.cells #[.string s, .bool false] 107)
    generalize hC : B.alloc (.cells #[.string s, .bool false] 107) = C at b2 ⊢
    have k2 : RdAt C (w.heap.size + 2) s false := by unfold RdAt; rw [← hC, ← z1]; exact heap_alloc_new _ _
    have z2 : C.heap.size = w.heap.size + 3 := by rw [← hC]; simp [z1]
    have b3 := balloc C (.cells zTsk 34)
    have k3 : Blk (C.alloc (.cells zTsk 34)) (w.heap.size + 3) zTsk 34 := by rw [← z2]; exact heap_alloc_new _ _
    exact ⟨((k0.below b1).below b2).below b3, ⟨s, false, k2.below b3, hs, rfl⟩, (k1.below b2).below b3, k3, (((hE.below b0).below b1).below b2).below b3, btrans (btrans (btrans b0 b1) b2) b3, h5⟩
  clear hE
  go_enter Tryz.func84, Tryz.ntmps84
  go_wp2_with fail
  refine (number_at (w.heap.size + 2) _ ⟨#[]⟩ [] rfl x1 s1 X1.out _ g0.out.env (by omega) g0.out.rd).mono ?_
  rintro e w1 ⟨rfl, r1, o1⟩
  have q1 : Hid (GetT w _ s1 _ w1) := g0.out.read r1 o1
  have c0 : w1.cell? ⟨w.heap.size + 3, 0, none⟩ = some (.int .i64 0) := q1.out.blk.cell 0
  have f0 := q1.out.blk.frozen 0
  have l0 := q1.out.blk.lt
  clear r1 o1 g0
  go_wp2_with fail
  have q2 := q1.out.store 0 (.int .i64 x1)
  simp only [List.setIfInBounds_toArray, List.set_cons_zero] at q2
  generalize hW2 : w1.setCell ⟨w.heap.size + 3, 0, none⟩ (.int .i64 x1) = W1 at q2 ⊢
  have Q1 : Hid (GetT w _ s1 _ W1) := q2
  clear q1 c0 f0 q2 hW2 l0
  refine (number_at (w.heap.size + 2) _ ⟨#[47]⟩ [47] rfl x2 s2 X2.out _ Q1.out.env (by omega) Q1.out.rd).mono ?_
  rintro e w2 ⟨rfl, r1, o1⟩
  have q1 : Hid (GetT w _ s2 _ w2) := Q1.out.read r1 o1
  have c0 : w2.cell? ⟨w.heap.size + 3, 1, none⟩ = some (.int .i64 0) := q1.out.blk.cell 1
  have f0 := q1.out.blk.frozen 1
  have l0 := q1.out.blk.lt
  clear r1 o1 Q1
  go_wp2_with fail
  have q2 := q1.out.store 1 (.int .i64 x2)
  simp only [List.setIfInBounds_toArray, List.set_cons_zero, List.set_cons_succ] at q2
  generalize hW2 : w2.setCell ⟨w.heap.size + 3, 1, none⟩ (.int .i64 x2) = W2 at q2 ⊢
  have Q2 : Hid (GetT w _ s2 _ W2) := q2
  clear q1 c0 f0 q2 hW2 l0
  refine (number_at (w.heap.size + 2) _ ⟨#[47]⟩ [47] rfl x3 s3 X3.out _ Q2.out.env (by omega) Q2.out.rd).mono ?_
  rintro e w3 ⟨rfl, r1, o1⟩
  have q1 : Hid (GetT w _ s3 _ w3) := Q2.out.read r1 o1
  have c0 : w3.cell? ⟨w.heap.size + 3, 2, none⟩ = some (.int .i64 0) := q1.out.blk.cell 2
  have f0 := q1.out.blk.frozen 2
  have l0 := q1.out.blk.lt
  clear r1 o1 Q2
  go_wp2_with fail
  have q2 := q1.out.store 2 (.int .i64 x3)
  simp only [List.setIfInBounds_toArray, List.set_cons_zero, List.set_cons_succ] at q2
  generalize hW2 : w3.setCell ⟨w.heap.size + 3, 2, none⟩ (.int .i64 x3) = W3 at q2 ⊢
  have Q3 : Hid (GetT w _ s3 _ W3) := q2
  clear q1 c0 f0 q2 hW2 l0
  refine (sects_any (w.heap.size + 2) s3 _ Q3.out.env (by omega) Q3.out.rd).mono ?_
  rintro e wa ⟨u, rfl, own, ra, oa⟩
  rw [XA.out] at own ra
  have z9 : w.heap.size + 3 < W3.heap.size := Q3.out.blk.lt
  have HU : Hid (∀ k, u.ownBlock = some k → w.heap.size + 3 < k) := fun k hk => by have := (own.lt k hk).1; omega
  have QA : Hid (GetT w #[.int .i64 co, .int .i64 sy, .int .i64 la, .int .i64 mo, .slice a l.length cap] sa #[.int .i64 x1, .int .i64 x2, .int .i64 x3, .slice none 0 0] wa) := Q3.out.read ra oa
  obtain ⟨ad, cap2, rfl⟩ := own_form own
  have OW : Hid (Secs wa (.slice ad m.length cap2) m) := own_secs own
  have c0 : wa.cell? ⟨w.heap.size + 3, 3, none⟩ = some (.slice none 0 0) := QA.out.blk.cell 3
  have f0 := QA.out.blk.frozen 3
  have l0 := QA.out.blk.lt
  clear own ra oa Q3 z9
  go_wp2_with fail
  have qb := QA.out.store 3 (.slice ad m.length cap2)
  simp only [List.setIfInBounds_toArray, List.set_cons_zero, List.set_cons_succ] at qb
  have ib : Secs (wa.setCell ⟨w.heap.size + 3, 3, none⟩ (.slice ad m.length cap2)) (.slice ad m.length cap2) m := OW.out.off ((Only.refl [w.heap.size + 3] wa).setCell (p := ⟨w.heap.size + 3, 3, none⟩) (by simp) _) (fun k hk => by have := HU.out k hk; simp; omega)
  generalize hWb : wa.setCell ⟨w.heap.size + 3, 3, none⟩ (.slice ad m.length cap2) = Wb at qb ib ⊢
  have Qb : Hid (GetT w #[.int .i64 co, .int .i64 sy, .int .i64 la, .int .i64 mo, .slice a l.length cap] sa #[.int .i64 x1, .int .i64 x2, .int .i64 x3, .slice ad m.length cap2] Wb) := qb
  have IB : Hid (Secs Wb (.slice ad m.length cap2) m) := ib
  have VB : Hid (Ints Wb (.slice a l.length cap) l) := HV.out.below qb.bel
  clear QA c0 f0 qb ib hWb l0 OW
  refine (ended_any (w.heap.size + 2) sa _ Qb.out.rd).mono ?_
  rintro e w' ⟨rfl, hw⟩
  subst w'
  have c0 : Wb.cell? ⟨w.heap.size + 1 + 1 + 1, 0, none⟩ = some (.int .i64 x1) := Qb.out.blk.cell 0
  have c1 : Wb.cell? ⟨w.heap.size + 1 + 1 + 1, 1, none⟩ = some (.int .i64 x2) := Qb.out.blk.cell 1
  have c2 : Wb.cell? ⟨w.heap.size + 1 + 1 + 1, 2, none⟩ = some (.int .i64 x3) := Qb.out.blk.cell 2
  have c3 : Wb.cell? ⟨w.heap.size + 1 + 1 + 1, 3, none⟩ = some (.slice ad m.length cap2) := Qb.out.blk.cell 3
  have a0 : Wb.cell? ⟨w.heap.size, 0, none⟩ = some (.int .i64 co) := Qb.out.cfg.cell 0
  have a1 : Wb.cell? ⟨w.heap.size, 1, none⟩ = some (.int .i64 sy) := Qb.out.cfg.cell 1
  have a2 : Wb.cell? ⟨w.heap.size, 2, none⟩ = some (.int .i64 la) := Qb.out.cfg.cell 2
  have a3 : Wb.cell? ⟨w.heap.size, 3, none⟩ = some (.int .i64 mo) := Qb.out.cfg.cell 3
  have a4 : Wb.cell? ⟨w.heap.size, 4, none⟩ = some (.slice a l.length cap) := Qb.out.cfg.cell 4
  have d0 : Wb.cell? ⟨w.heap.size + 1, 0, none⟩ = some (.int .i64 0) := Qb.out.res.cell 0
  have d1 : Wb.cell? ⟨w.heap.size + 1, 1, none⟩ = some (.int .i64 0) := Qb.out.res.cell 1
  have d2 : Wb.cell? ⟨w.heap.size + 1, 2, none⟩ = some (.int .i64 0) := Qb.out.res.cell 2
  have d3 : Wb.cell? ⟨w.heap.size + 1, 3, none⟩ = some (.slice none 0 0) := Qb.out.res.cell 3
  have f0 := Qb.out.res.frozen 0
  have f1 := Qb.out.res.frozen 1
  have f2 := Qb.out.res.frozen 2
  have f3 := Qb.out.res.frozen 3
  have l9 := Qb.out.res.lt
  by_cases hs4 : sa = some []
  · have hd : decide (sa = some []) = true := by simp [hs4]
    have HS : Hid (sa = some []) := hs4
    clear hs4 d0 d1 d2 d3 f0 f1 f2 f3
    rw [hd]
    go_wp2_with fail
    refine (rtask_any co sy la mo (.slice a l.length cap) l x1 x2 x3 (.slice ad m.length cap2) m _ VB.out hl IB.out HL.out).mono ?_
    rintro e w9 ⟨rfl, g9⟩
    have Q9 : Hid (GetT w #[.int .i64 co, .int .i64 sy, .int .i64 la, .int .i64 mo, .slice a l.length cap] sa #[.int .i64 x1, .int .i64 x2, .int .i64 x3, .slice ad m.length cap2] w9) := Qb.out.below g9
    have I9 : Hid (Secs w9 (.slice ad m.length cap2) m) := IB.out.below g9
    have c0 : w9.cell? ⟨w.heap.size + 1 + 1 + 1, 0, none⟩ = some (.int .i64 x1) := Q9.out.blk.cell 0
    have c1 : w9.cell? ⟨w.heap.size + 1 + 1 + 1, 1, none⟩ = some (.int .i64 x2) := Q9.out.blk.cell 1
    have c2 : w9.cell? ⟨w.heap.size + 1 + 1 + 1, 2, none⟩ = some (.int .i64 x3) := Q9.out.blk.cell 2
    have c3 : w9.cell? ⟨w.heap.size + 1 + 1 + 1, 3, none⟩ = some (.slice ad m.length cap2) := Q9.out.blk.cell 3
    have a0 : w9.cell? ⟨w.heap.size, 0, none⟩ = some (.int .i64 co) := Q9.out.cfg.cell 0
    have a1 : w9.cell? ⟨w.heap.size, 1, none⟩ = some (.int .i64 sy) := Q9.out.cfg.cell 1
    have a2 : w9.cell? ⟨w.heap.size, 2, none⟩ = some (.int .i64 la) := Q9.out.cfg.cell 2
    have a3 : w9.cell? ⟨w.heap.size, 3, none⟩ = some (.int .i64 mo) := Q9.out.cfg.cell 3
    have a4 : w9.cell? ⟨w.heap.size, 4, none⟩ = some (.slice a l.length cap) := Q9.out.cfg.cell 4
    have d0 : w9.cell? ⟨w.heap.size + 1, 0, none⟩ = some (.int .i64 0) := Q9.out.res.cell 0
    have d1 : w9.cell? ⟨w.heap.size + 1, 1, none⟩ = some (.int .i64 0) := Q9.out.res.cell 1
    have d2 : w9.cell? ⟨w.heap.size + 1, 2, none⟩ = some (.int .i64 0) := Q9.out.res.cell 2
    have d3 : w9.cell? ⟨w.heap.size + 1, 3, none⟩ = some (.slice none 0 0) := Q9.out.res.cell 3
    have f0 := Q9.out.res.frozen 0
    have f1 := Q9.out.res.frozen 1
    have f2 := Q9.out.res.frozen 2
    have f3 := Q9.out.res.frozen 3
    have l9 := Q9.out.res.lt
    clear g9 Qb
    cases hb : (cfgB ⟨co, sy, la, mo, l⟩ && tskB l.length ⟨x1, x2, x3, m⟩)
    · go_wp2_with fail
      have r := set4_blk Q9.out.res (.int .i64 0) (.int .i64 0) (.int .i64 0) (.slice none 0 0)
      have fin := gott_bad (c := ⟨co, sy, la, mo, l⟩) (l := s.data.toList) Q9.out (by rw [Bool.and_eq_false_iff] at hb; rcases hb with hb | hb; exact .inl hb; exact .inr (getTsk_no2 (by rw [EC.out]; exact hb)))
      generalize hZ : World.setCell _ _ _ = Z at r fin ⊢
      have k0 : Z.cell? ⟨w.heap.size + 1, 0, none⟩ = some (.int .i64 0) := r.cell 0
      have k1 : Z.cell? ⟨w.heap.size + 1, 1, none⟩ = some (.int .i64 0) := r.cell 1
      have k2 : Z.cell? ⟨w.heap.size + 1, 2, none⟩ = some (.int .i64 0) := r.cell 2
      have k3 : Z.cell? ⟨w.heap.size + 1, 3, none⟩ = some (.slice none 0 0) := r.cell 3
      exact bodyPost_ret (v := .tuple #[.agg zTsk, .int .i64 1]) (by simp [results, Tryz.results84, go_sem, k0, k1, k2, k3]) rfl fin
    · have hb' := Bool.and_eq_true_iff.1 hb
      have HB : Hid (_ ∧ _) := hb'
      clear hb'
      go_wp2_with fail
      have r := set4_blk Q9.out.res (.int .i64 x1) (.int .i64 x2) (.int .i64 x3) (.slice ad m.length cap2)
      have fin := gott_ok (c := ⟨co, sy, la, mo, l⟩) (l := s.data.toList) (t := ⟨x1, x2, x3, m⟩) (u := .slice ad m.length cap2) Q9.out HB.out.1 (by rw [← EC.out]; exact getTsk_of (by rw [E5.out]; exact HS.out) (by rw [EC.out]; exact HB.out.2)) I9.out (fun k hk => by have := HU.out k hk; omega)
      generalize hZ : World.setCell _ _ _ = Z at r fin ⊢
      have k0 : Z.cell? ⟨w.heap.size + 1, 0, none⟩ = some (.int .i64 x1) := r.cell 0
      have k1 : Z.cell? ⟨w.heap.size + 1, 1, none⟩ = some (.int .i64 x2) := r.cell 1
      have k2 : Z.cell? ⟨w.heap.size + 1, 2, none⟩ = some (.int .i64 x3) := r.cell 2
      have k3 : Z.cell? ⟨w.heap.size + 1, 3, none⟩ = some (.slice ad m.length cap2) := r.cell 3
      exact bodyPost_ret (v := .tuple #[.agg #[.int .i64 x1, .int .i64 x2, .int .i64 x3, .slice ad m.length cap2], .int .i64 0]) (by simp [results, Tryz.results84, go_sem, k0, k1, k2, k3]) rfl fin
  · have hd : decide (sa = some []) = false := by simp [hs4]
    have HS : Hid (¬ sa = some []) := hs4
    clear hs4
    rw [hd]
    go_wp2_with fail
    have r := set4_blk Qb.out.res (.int .i64 0) (.int .i64 0) (.int .i64 0) (.slice none 0 0)
    have fin := gott_bad (c := ⟨co, sy, la, mo, l⟩) (l := s.data.toList) Qb.out (.inr (getTsk_no1 (by rw [E5.out]; exact HS.out)))
    generalize hZ : World.setCell _ _ _ = Z at r fin ⊢
    have k0 : Z.cell? ⟨w.heap.size + 1, 0, none⟩ = some (.int .i64 0) := r.cell 0
    have k1 : Z.cell? ⟨w.heap.size + 1, 1, none⟩ = some (.int .i64 0) := r.cell 1
    have k2 : Z.cell? ⟨w.heap.size + 1, 2, none⟩ = some (.int .i64 0) := r.cell 2
    have k3 : Z.cell? ⟨w.heap.size + 1, 3, none⟩ = some (.slice none 0 0) := r.cell 3
    exact bodyPost_ret (v := .tuple #[.agg zTsk, .int .i64 1]) (by simp [results, Tryz.results84, go_sem, k0, k1, k2, k3]) rfl fin
end Go.Proofs.YtakdliecjfeedaaGreatDoor
