/- The contract of note.GetTask. -/
import Derived.Test.YtcgmbfpmcldfdaaGreatDoorGet
namespace Go.Proofs.YtcgmbfpmcldfdaaGreatDoor
open Go Go.RowKit

abbrev zTsk : Array Value := #[.int .i64 0, .int .i64 0, .int .i64 0, .slice none 0 0]
/-- Under way in GetTask: the configuration that came, the result, the reader, the task. -/
structure GetT (w : World) (cc : Array Value) (st : St) (cs : Array Value) (w' : World) : Prop where
  cfg : Blk w' w.heap.size cc 43
  rd : Rd w' (w.heap.size + 2) st
  res : Blk w' (w.heap.size + 1) zTsk 48
  blk : Blk w' (w.heap.size + 3) cs 48
  env : Env w'
  bel : Below w.heap.size w w'
  five : 5 ≤ w.heap.size
theorem GetT.read {a x y : World} {cc : Array Value} {st st' : St} {cs : Array Value} (h : GetT a cc st cs x) (r : Rd y (a.heap.size + 2) st') (o : Only [a.heap.size + 2] x y) : GetT a cc st' cs y :=
  ⟨h.cfg.only o (by simp), r, h.res.only o (by simp), h.blk.only o (by simp), h.env.only o (by simp; have := h.five; omega), h.bel.trans (o.belowOf (by have := h.bel.size; omega) (by simp)), h.five⟩
theorem GetT.store {a x : World} {cc : Array Value} {st : St} {cs : Array Value} (h : GetT a cc st cs x) (i : Nat) (v : Value) : GetT a cc st (cs.setIfInBounds i v) (x.setCell ⟨a.heap.size + 3, i, none⟩ v) := by
  obtain ⟨h1, h2⟩ := h.blk.set i v
  exact ⟨h.cfg.only h2 (by simp), h.rd.only h2 (by simp), h.res.only h2 (by simp), h1, h.env.only h2 (by simp; have := h.five; omega), h.bel.trans (h2.belowOf (by have := h.bel.size; omega) (by simp)), h.five⟩
theorem GetT.below {a x y : World} {cc : Array Value} {st : St} {cs : Array Value} (h : GetT a cc st cs x) (g : Below x.heap.size x y) : GetT a cc st cs y :=
  ⟨h.cfg.below g, h.rd.below g, h.res.below g, h.blk.below g, h.env.below g, btrans h.bel g, h.five⟩
theorem set4_blk {w : World} {g : Nat} {t : TypeId} (h : Blk w g zTsk t) (a b c d : Value) : Blk ((((w.setCell ⟨g, 0, none⟩ a).setCell ⟨g, 1, none⟩ b).setCell ⟨g, 2, none⟩ c).setCell ⟨g, 3, none⟩ d) g #[a, b, c, d] t :=
  ((((h.set 0 a).1.set 1 b).1.set 2 c).1.set 3 d).1
/-- What GetTask answers. -/
def GotTsk (c : Cfg) (l : List UInt8) (w : World) (e : Ending) (w' : World) : Prop := Below w.heap.size w w' ∧
  (((cfgB c = false ∨ getTsk c.res.length l = none) ∧ e = .returned (.tuple #[.agg zTsk, .int .i64 1])) ∨ ∃ t u, cfgB c = true ∧ getTsk c.res.length l = some t ∧ Secs w' u t.secs ∧ e = .returned (.tuple #[.agg #[.int .i64 t.c, .int .i64 t.d, .int .i64 t.t, u], .int .i64 0]))
theorem gott_bad {c : Cfg} {l : List UInt8} {w x : World} {cc : Array Value} {st : St} {cs : Array Value} (h : GetT w cc st cs x) (hn : cfgB c = false ∨ getTsk c.res.length l = none) : GotTsk c l w (.returned (.tuple #[.agg zTsk, .int .i64 1])) ((((x.setCell ⟨w.heap.size + 1, 0, none⟩ (.int .i64 0)).setCell ⟨w.heap.size + 1, 1, none⟩ (.int .i64 0)).setCell ⟨w.heap.size + 1, 2, none⟩ (.int .i64 0)).setCell ⟨w.heap.size + 1, 3, none⟩ (.slice none 0 0)) :=
  ⟨h.bel.trans ((only4 _ _ _ _ _ _).belowOf (by have := h.bel.size; omega) (by simp)), .inl ⟨hn, rfl⟩⟩
theorem gott_ok {c : Cfg} {l : List UInt8} {w x : World} {cc : Array Value} {st : St} {cs : Array Value} {t : Tsk} {u : Value} (h : GetT w cc st cs x) (hc : cfgB c = true) (hn : getTsk c.res.length l = some t) (hi : Secs x u t.secs) (hu : ∀ k, u.ownBlock = some k → w.heap.size + 1 < k) : GotTsk c l w (.returned (.tuple #[.agg #[.int .i64 t.c, .int .i64 t.d, .int .i64 t.t, u], .int .i64 0])) ((((x.setCell ⟨w.heap.size + 1, 0, none⟩ (.int .i64 t.c)).setCell ⟨w.heap.size + 1, 1, none⟩ (.int .i64 t.d)).setCell ⟨w.heap.size + 1, 2, none⟩ (.int .i64 t.t)).setCell ⟨w.heap.size + 1, 3, none⟩ u) :=
  ⟨h.bel.trans ((only4 _ _ _ _ _ _).belowOf (by have := h.bel.size; omega) (by simp)), .inr ⟨t, u, hc, hn, hi.off (only4 _ _ _ _ _ _) (fun k hk => by have := hu k hk; simp; omega), rfl⟩⟩
theorem getTsk_of {n : Int} {l : List UInt8} (h5 : (tskS4 l).2 = some []) (hb : tskB n (tskOf l) = true) : getTsk n l = some (tskOf l) := by unfold getTsk; rw [if_pos ⟨h5, hb⟩]
theorem getTsk_no1 {n : Int} {l : List UInt8} (h5 : (tskS4 l).2 ≠ some []) : getTsk n l = none := by unfold getTsk; rw [if_neg (fun h => h5 h.1)]
theorem getTsk_no2 {n : Int} {l : List UInt8} (hb : tskB n (tskOf l) = false) : getTsk n l = none := by unfold getTsk; rw [if_neg (fun h => by rw [hb] at h; simp at h)]

set_option maxHeartbeats 8000000 in
set_option maxRecDepth 100000 in
theorem getTsk_any (co sy la mo : Int) (v : Value) (l : List Int) (s : ByteArray) (w : World) (hs : s.size ≤ 140737488355328) (hE : Env w) (hv : Ints w v l) (hl : l.length ≤ 1000000) :
    Calls Tryz.prog 30 #[.agg #[.int .i64 co, .int .i64 sy, .int .i64 la, .int .i64 mo, v], .string s] w fun e w' => GotTsk ⟨co, sy, la, mo, l⟩ s.data.toList w e w' := by
  obtain ⟨x1, s1, hx1⟩ : ∃ x s', numS [] (some s.data.toList) = (x, s') := ⟨_, _, rfl⟩
  obtain ⟨x2, s2, hx2⟩ : ∃ x s', numS [47] s1 = (x, s') := ⟨_, _, rfl⟩
  obtain ⟨x3, s3, hx3⟩ : ∃ x s', numS [47] s2 = (x, s') := ⟨_, _, rfl⟩
  obtain ⟨m, sa, hxa⟩ : ∃ x s', secsS 2 s3 = (x, s') := ⟨_, _, rfl⟩
  have e1 : tskS1 s.data.toList = (x1, s1) := hx1
  have e2 : tskS2 s.data.toList = (x2, s2) := by unfold tskS2; rw [e1]; exact hx2
  have e3 : tskS3 s.data.toList = (x3, s3) := by unfold tskS3; rw [e2]; exact hx3
  have e4 : tskS4 s.data.toList = (m, sa) := by unfold tskS4; rw [e3]; exact hxa
  have X1 : Hid (numS [] (some s.data.toList) = (x1, s1)) := hx1
  have X2 : Hid (numS [47] s1 = (x2, s2)) := hx2
  have X3 : Hid (numS [47] s2 = (x3, s3)) := hx3
  have XA : Hid (secsS 2 s3 = (m, sa)) := hxa
  have EC : Hid (tskOf s.data.toList = ⟨x1, x2, x3, m⟩) := by unfold Hid tskOf; rw [e1, e2, e3, e4]
  have E5 : Hid ((tskS4 s.data.toList).2 = sa) := by unfold Hid; rw [e4]
  have HL : Hid (m.length ≤ 1000000) := by
    have := secsS_len 2 s3
    rw [hxa] at this
    unfold Hid; simp only at this; omega
  clear hx1 hx2 hx3 hxa e1 e2 e3 e4
  have h5 := hE.1
  have HV : Hid (Ints w v l) := hv
  obtain ⟨a, cap, rfl⟩ := hv.form
  clear hv
  have g0 : Hid (GetT w #[.int .i64 co, .int .i64 sy, .int .i64 la, .int .i64 mo, .slice a l.length cap] (some s.data.toList) zTsk ((((w.alloc (.cells #[.int .i64 co, .int .i64 sy, .int .i64 la, .int .i64 mo, .slice a l.length cap] 43)).alloc (.cells zTsk 48)).alloc (.cells #[.string s, .bool false] 69)).alloc (.cells zTsk 48))) := by
    have b0 := balloc w (.cells #[.int .i64 co, .int .i64 sy, .int .i64 la, .int .i64 mo, .slice a l.length cap] 43)
    generalize hA : w.alloc (.cells #[.int .i64 co, .int .i64 sy, .int .i64 la, .int .i64 mo, .slice a l.length cap] 43) = A at b0 ⊢
    have k0 : Blk A w.heap.size #[.int .i64 co, .int .i64 sy, .int .i64 la, .int .i64 mo, .slice a l.length cap] 43 := by rw [← hA]; exact heap_alloc_new _ _
    have z0 : A.heap.size = w.heap.size + 1 := by rw [← hA]; simp
    have b1 := balloc A (.cells zTsk 48)
    generalize hB : A.alloc (.cells zTsk 48) = B at b1 ⊢
    have k1 : Blk B (w.heap.size + 1) zTsk 48 := by rw [← hB, ← z0]; exact heap_alloc_new _ _
    have z1 : B.heap.size = w.heap.size + 2 := by rw [← hB]; simp [z0]
    have b2 := balloc B (.cells #[.string s, .bool false] 69)
    generalize hC : B.alloc (.cells #[.string s, .bool false] 69) = C at b2 ⊢
    have k2 : RdAt C (w.heap.size + 2) s false := by unfold RdAt; rw [← hC, ← z1]; exact heap_alloc_new _ _
    have z2 : C.heap.size = w.heap.size + 3 := by rw [← hC]; simp [z1]
    have b3 := balloc C (.cells zTsk 48)
    have k3 : Blk (C.alloc (.cells zTsk 48)) (w.heap.size + 3) zTsk 48 := by rw [← z2]; exact heap_alloc_new _ _
    exact ⟨((k0.below b1).below b2).below b3, ⟨s, false, k2.below b3, hs, rfl⟩, (k1.below b2).below b3, k3, (((hE.below b0).below b1).below b2).below b3, btrans (btrans (btrans b0 b1) b2) b3, h5⟩
  clear hE
  go_enter Tryz.func30, Tryz.ntmps30
  go_wp2_with fail
  refine (number_at (w.heap.size + 2) _ ⟨#[]⟩ [] rfl x1 s1 X1.out _ g0.out.env (by omega) g0.out.rd).mono ?_
  rintro e w1 ⟨rfl, r1, o1⟩
  have q1 : Hid (GetT w _ s1 _ w1) := g0.out.read r1 o1
  have c0 : w1.cell? ⟨w.heap.size + 3, 0, none⟩ = some (.int .i64 0) := q1.out.blk.cell 0
  have f0 := q1.out.blk.frozen 0
  have l0 := q1.out.blk.lt
  clear r1 o1 g0
  go_wp2_with fail
  have q2 := q1.out.store 0 (.int .i64 x1)
  simp only [List.setIfInBounds_toArray, List.set_cons_zero] at q2
  generalize hW2 : w1.setCell ⟨w.heap.size + 3, 0, none⟩ (.int .i64 x1) = W1 at q2 ⊢
  have Q1 : Hid (GetT w _ s1 _ W1) := q2
  clear q1 c0 f0 q2 hW2 l0
  refine (number_at (w.heap.size + 2) _ ⟨#[47]⟩ [47] rfl x2 s2 X2.out _ Q1.out.env (by omega) Q1.out.rd).mono ?_
  rintro e w2 ⟨rfl, r1, o1⟩
  have q1 : Hid (GetT w _ s2 _ w2) := Q1.out.read r1 o1
  have c0 : w2.cell? ⟨w.heap.size + 3, 1, none⟩ = some (.int .i64 0) := q1.out.blk.cell 1
  have f0 := q1.out.blk.frozen 1
  have l0 := q1.out.blk.lt
  clear r1 o1 Q1
  go_wp2_with fail
  have q2 := q1.out.store 1 (.int .i64 x2)
  simp only [List.setIfInBounds_toArray, List.set_cons_zero, List.set_cons_succ] at q2
  generalize hW2 : w2.setCell ⟨w.heap.size + 3, 1, none⟩ (.int .i64 x2) = W2 at q2 ⊢
  have Q2 : Hid (GetT w _ s2 _ W2) := q2
  clear q1 c0 f0 q2 hW2 l0
  refine (number_at (w.heap.size + 2) _ ⟨#[47]⟩ [47] rfl x3 s3 X3.out _ Q2.out.env (by omega) Q2.out.rd).mono ?_
  rintro e w3 ⟨rfl, r1, o1⟩
  have q1 : Hid (GetT w _ s3 _ w3) := Q2.out.read r1 o1
  have c0 : w3.cell? ⟨w.heap.size + 3, 2, none⟩ = some (.int .i64 0) := q1.out.blk.cell 2
  have f0 := q1.out.blk.frozen 2
  have l0 := q1.out.blk.lt
  clear r1 o1 Q2
  go_wp2_with fail
  have q2 := q1.out.store 2 (.int .i64 x3)
  simp only [List.setIfInBounds_toArray, List.set_cons_zero, List.set_cons_succ] at q2
  generalize hW2 : w3.setCell ⟨w.heap.size + 3, 2, none⟩ (.int .i64 x3) = W3 at q2 ⊢
  have Q3 : Hid (GetT w _ s3 _ W3) := q2
  clear q1 c0 f0 q2 hW2 l0
  refine (sects_any (w.heap.size + 2) s3 _ Q3.out.env (by omega) Q3.out.rd).mono ?_
  rintro e wa ⟨u, rfl, own, ra, oa⟩
  rw [XA.out] at own ra
  have z9 : w.heap.size + 3 < W3.heap.size := Q3.out.blk.lt
  have HU : Hid (∀ k, u.ownBlock = some k → w.heap.size + 3 < k) := fun k hk => by have := (own.lt k hk).1; omega
  have QA : Hid (GetT w #[.int .i64 co, .int .i64 sy, .int .i64 la, .int .i64 mo, .slice a l.length cap] sa #[.int .i64 x1, .int .i64 x2, .int .i64 x3, .slice none 0 0] wa) := Q3.out.read ra oa
  obtain ⟨ad, cap2, rfl⟩ := own_form own
  have OW : Hid (Secs wa (.slice ad m.length cap2) m) := own_secs own
  have c0 : wa.cell? ⟨w.heap.size + 3, 3, none⟩ = some (.slice none 0 0) := QA.out.blk.cell 3
  have f0 := QA.out.blk.frozen 3
  have l0 := QA.out.blk.lt
  clear own ra oa Q3 z9
  go_wp2_with fail
  have qb := QA.out.store 3 (.slice ad m.length cap2)
  simp only [List.setIfInBounds_toArray, List.set_cons_zero, List.set_cons_succ] at qb
  have ib : Secs (wa.setCell ⟨w.heap.size + 3, 3, none⟩ (.slice ad m.length cap2)) (.slice ad m.length cap2) m := OW.out.off ((Only.refl [w.heap.size + 3] wa).setCell (p := ⟨w.heap.size + 3, 3, none⟩) (by simp) _) (fun k hk => by have := HU.out k hk; simp; omega)
  generalize hWb : wa.setCell ⟨w.heap.size + 3, 3, none⟩ (.slice ad m.length cap2) = Wb at qb ib ⊢
  have Qb : Hid (GetT w #[.int .i64 co, .int .i64 sy, .int .i64 la, .int .i64 mo, .slice a l.length cap] sa #[.int .i64 x1, .int .i64 x2, .int .i64 x3, .slice ad m.length cap2] Wb) := qb
  have IB : Hid (Secs Wb (.slice ad m.length cap2) m) := ib
  have VB : Hid (Ints Wb (.slice a l.length cap) l) := HV.out.below qb.bel
  clear QA c0 f0 qb ib hWb l0 OW
  refine (ended_any (w.heap.size + 2) sa _ Qb.out.rd).mono ?_
  rintro e w' ⟨rfl, hw⟩
  subst w'
  have c0 : Wb.cell? ⟨w.heap.size + 1 + 1 + 1, 0, none⟩ = some (.int .i64 x1) := Qb.out.blk.cell 0
  have c1 : Wb.cell? ⟨w.heap.size + 1 + 1 + 1, 1, none⟩ = some (.int .i64 x2) := Qb.out.blk.cell 1
  have c2 : Wb.cell? ⟨w.heap.size + 1 + 1 + 1, 2, none⟩ = some (.int .i64 x3) := Qb.out.blk.cell 2
  have c3 : Wb.cell? ⟨w.heap.size + 1 + 1 + 1, 3, none⟩ = some (.slice ad m.length cap2) := Qb.out.blk.cell 3
  have a0 : Wb.cell? ⟨w.heap.size, 0, none⟩ = some (.int .i64 co) := Qb.out.cfg.cell 0
  have a1 : Wb.cell? ⟨w.heap.size, 1, none⟩ = some (.int .i64 sy) := Qb.out.cfg.cell 1
  have a2 : Wb.cell? ⟨w.heap.size, 2, none⟩ = some (.int .i64 la) := Qb.out.cfg.cell 2
  have a3 : Wb.cell? ⟨w.heap.size, 3, none⟩ = some (.int .i64 mo) := Qb.out.cfg.cell 3
  have a4 : Wb.cell? ⟨w.heap.size, 4, none⟩ = some (.slice a l.length cap) := Qb.out.cfg.cell 4
  have d0 : Wb.cell? ⟨w.heap.size + 1, 0, none⟩ = some (.int .i64 0) := Qb.out.res.cell 0
  have d1 : Wb.cell? ⟨w.heap.size + 1, 1, none⟩ = some (.int .i64 0) := Qb.out.res.cell 1
  have d2 : Wb.cell? ⟨w.heap.size + 1, 2, none⟩ = some (.int .i64 0) := Qb.out.res.cell 2
  have d3 : Wb.cell? ⟨w.heap.size + 1, 3, none⟩ = some (.slice none 0 0) := Qb.out.res.cell 3
  have f0 := Qb.out.res.frozen 0
  have f1 := Qb.out.res.frozen 1
  have f2 := Qb.out.res.frozen 2
  have f3 := Qb.out.res.frozen 3
  have l9 := Qb.out.res.lt
  by_cases hs4 : sa = some []
  · have hd : decide (sa = some []) = true := by simp [hs4]
    have HS : Hid (sa = some []) := hs4
    clear hs4 d0 d1 d2 d3 f0 f1 f2 f3
    rw [hd]
    go_wp2_with fail
    refine (rtask_any co sy la mo (.slice a l.length cap) l x1 x2 x3 (.slice ad m.length cap2) m _ VB.out hl IB.out HL.out).mono ?_
    rintro e w9 ⟨rfl, g9⟩
    have Q9 : Hid (GetT w #[.int .i64 co, .int .i64 sy, .int .i64 la, .int .i64 mo, .slice a l.length cap] sa #[.int .i64 x1, .int .i64 x2, .int .i64 x3, .slice ad m.length cap2] w9) := Qb.out.below g9
    have I9 : Hid (Secs w9 (.slice ad m.length cap2) m) := IB.out.below g9
    have c0 : w9.cell? ⟨w.heap.size + 1 + 1 + 1, 0, none⟩ = some (.int .i64 x1) := Q9.out.blk.cell 0
    have c1 : w9.cell? ⟨w.heap.size + 1 + 1 + 1, 1, none⟩ = some (.int .i64 x2) := Q9.out.blk.cell 1
    have c2 : w9.cell? ⟨w.heap.size + 1 + 1 + 1, 2, none⟩ = some (.int .i64 x3) := Q9.out.blk.cell 2
    have c3 : w9.cell? ⟨w.heap.size + 1 + 1 + 1, 3, none⟩ = some (.slice ad m.length cap2) := Q9.out.blk.cell 3
    have a0 : w9.cell? ⟨w.heap.size, 0, none⟩ = some (.int .i64 co) := Q9.out.cfg.cell 0
    have a1 : w9.cell? ⟨w.heap.size, 1, none⟩ = some (.int .i64 sy) := Q9.out.cfg.cell 1
    have a2 : w9.cell? ⟨w.heap.size, 2, none⟩ = some (.int .i64 la) := Q9.out.cfg.cell 2
    have a3 : w9.cell? ⟨w.heap.size, 3, none⟩ = some (.int .i64 mo) := Q9.out.cfg.cell 3
    have a4 : w9.cell? ⟨w.heap.size, 4, none⟩ = some (.slice a l.length cap) := Q9.out.cfg.cell 4
    have d0 : w9.cell? ⟨w.heap.size + 1, 0, none⟩ = some (.int .i64 0) := Q9.out.res.cell 0
    have d1 : w9.cell? ⟨w.heap.size + 1, 1, none⟩ = some (.int .i64 0) := Q9.out.res.cell 1
    have d2 : w9.cell? ⟨w.heap.size + 1, 2, none⟩ = some (.int .i64 0) := Q9.out.res.cell 2
    have d3 : w9.cell? ⟨w.heap.size + 1, 3, none⟩ = some (.slice none 0 0) := Q9.out.res.cell 3
    have f0 := Q9.out.res.frozen 0
    have f1 := Q9.out.res.frozen 1
    have f2 := Q9.out.res.frozen 2
    have f3 := Q9.out.res.frozen 3
    have l9 := Q9.out.res.lt
    clear g9 Qb
    cases hb : (cfgB ⟨co, sy, la, mo, l⟩ && tskB l.length ⟨x1, x2, x3, m⟩)
    · go_wp2_with fail
      have r := set4_blk Q9.out.res (.int .i64 0) (.int .i64 0) (.int .i64 0) (.slice none 0 0)
      have fin := gott_bad (c := ⟨co, sy, la, mo, l⟩) (l := s.data.toList) Q9.out (by rw [Bool.and_eq_false_iff] at hb; rcases hb with hb | hb; exact .inl hb; exact .inr (getTsk_no2 (by rw [EC.out]; exact hb)))
      generalize hZ : World.setCell _ _ _ = Z at r fin ⊢
      have k0 : Z.cell? ⟨w.heap.size + 1, 0, none⟩ = some (.int .i64 0) := r.cell 0
      have k1 : Z.cell? ⟨w.heap.size + 1, 1, none⟩ = some (.int .i64 0) := r.cell 1
      have k2 : Z.cell? ⟨w.heap.size + 1, 2, none⟩ = some (.int .i64 0) := r.cell 2
      have k3 : Z.cell? ⟨w.heap.size + 1, 3, none⟩ = some (.slice none 0 0) := r.cell 3
      exact bodyPost_ret (v := .tuple #[.agg zTsk, .int .i64 1]) (by simp [results, Tryz.results30, go_sem, k0, k1, k2, k3]) rfl fin
    · have hb' := Bool.and_eq_true_iff.1 hb
      have HB : Hid (_ ∧ _) := hb'
      clear hb'
      go_wp2_with fail
      have r := set4_blk Q9.out.res (.int .i64 x1) (.int .i64 x2) (.int .i64 x3) (.slice ad m.length cap2)
      have fin := gott_ok (c := ⟨co, sy, la, mo, l⟩) (l := s.data.toList) (t := ⟨x1, x2, x3, m⟩) (u := .slice ad m.length cap2) Q9.out HB.out.1 (by rw [← EC.out]; exact getTsk_of (by rw [E5.out]; exact HS.out) (by rw [EC.out]; exact HB.out.2)) I9.out (fun k hk => by have := HU.out k hk; omega)
      generalize hZ : World.setCell _ _ _ = Z at r fin ⊢
      have k0 : Z.cell? ⟨w.heap.size + 1, 0, none⟩ = some (.int .i64 x1) := r.cell 0
      have k1 : Z.cell? ⟨w.heap.size + 1, 1, none⟩ = some (.int .i64 x2) := r.cell 1
      have k2 : Z.cell? ⟨w.heap.size + 1, 2, none⟩ = some (.int .i64 x3) := r.cell 2
      have k3 : Z.cell? ⟨w.heap.size + 1, 3, none⟩ = some (.slice ad m.length cap2) := r.cell 3
      exact bodyPost_ret (v := .tuple #[.agg #[.int .i64 x1, .int .i64 x2, .int .i64 x3, .slice ad m.length cap2], .int .i64 0]) (by simp [results, Tryz.results30, go_sem, k0, k1, k2, k3]) rfl fin
  · have hd : decide (sa = some []) = false := by simp [hs4]
    have HS : Hid (¬ sa = some []) := hs4
    clear hs4
    rw [hd]
    go_wp2_with fail
    have r := set4_blk Qb.out.res (.int .i64 0) (.int .i64 0) (.int .i64 0) (.slice none 0 0)
    have fin := gott_bad (c := ⟨co, sy, la, mo, l⟩) (l := s.data.toList) Qb.out (.inr (getTsk_no1 (by rw [E5.out]; exact HS.out)))
    generalize hZ : World.setCell _ _ _ = Z at r fin ⊢
    have k0 : Z.cell? ⟨w.heap.size + 1, 0, none⟩ = some (.int .i64 0) := r.cell 0
    have k1 : Z.cell? ⟨w.heap.size + 1, 1, none⟩ = some (.int .i64 0) := r.cell 1
    have k2 : Z.cell? ⟨w.heap.size + 1, 2, none⟩ = some (.int .i64 0) := r.cell 2
    have k3 : Z.cell? ⟨w.heap.size + 1, 3, none⟩ = some (.slice none 0 0) := r.cell 3
    exact bodyPost_ret (v := .tuple #[.agg zTsk, .int .i64 1]) (by simp [results, Tryz.results30, go_sem, k0, k1, k2, k3]) rfl fin
end Go.Proofs.YtcgmbfpmcldfdaaGreatDoor
