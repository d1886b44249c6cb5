/- A configuration and a task in boxes of their own; what their copies leave. -/
import Derived.Test.YtfhhpmnohbmnoaaGreatDoorKeep
import Derived.Test.YtfhhpmnohbmnoaaGreatDoorRef2
namespace Go.Proofs.YtfhhpmnohbmnoaaGreatDoor
open Go Go.RowKit

theorem nth_op {l : List Oper} {i : Nat} {o : Oper} (h : l[i]? = some o) : l.toArray[i]? = some o := by simpa using h
/-- The two boxes. -/
structure CT (w : World) (C T : Array Value) (x : World) : Prop where
  five : 5 ≤ w.heap.size
  env : Env x
  bc : Blk x w.heap.size C 24
  bt : Blk x (w.heap.size + 1) T 27
  bel : Below w.heap.size w x
theorem CT.below {w x y : World} {C T : Array Value} (h : CT w C T x) (g : Below x.heap.size x y) : CT w C T y := ⟨h.five, h.env.below g, h.bc.below g, h.bt.below g, btrans h.bel g⟩
theorem CT.drew {w x : World} {C T : Array Value} (h : CT w C T x) : CT w C T x.drew := h.below ((Below.refl _ _).drew)
theorem CT.start {w : World} (hE : Env w) (C T : Array Value) : CT w C T ((w.alloc (.cells C 24)).alloc (.cells T 27)) := by
  have b0 := balloc w (.cells C 24)
  have k0 : Blk (w.alloc (.cells C 24)) w.heap.size C 24 := heap_alloc_new _ _
  have z0 : (w.alloc (.cells C 24)).heap.size = w.heap.size + 1 := by simp
  have b1 := balloc (w.alloc (.cells C 24)) (.cells T 27)
  have k1 : Blk ((w.alloc (.cells C 24)).alloc (.cells T 27)) (w.heap.size + 1) T 27 := by rw [← z0]; exact heap_alloc_new _ _
  exact ⟨hE.1, (hE.below b0).below b1, k0.below b1, k1, btrans b0 b1⟩
/-- What the copies leave. -/
structure Cop (w : World) (co sy la mo : Int) (sc : Option Addr) (nc kc : Nat) (l : List Int) (c d t : Int) (st : Option Addr) (nt kt : Nat) (m : List Sec) (x : World) : Prop where
  ct : CT w #[.int .i64 co, .int .i64 sy, .int .i64 la, .int .i64 mo, .slice sc nc kc] #[.int .i64 c, .int .i64 d, .int .i64 t, .slice st nt kt] x
  lc : l.length = nc
  lt : m.length = nt
  oc : x.ownsRow (w.heap.size + 2) 3 1 (.slice sc nc kc) nc (l.map mkI)
  ot : x.ownsRow (w.heap.size + 2) 57 3 (.slice st nt kt) nt (secC m)
  ne : ∀ j k, (Value.slice sc nc kc).ownBlock = some j → (Value.slice st nt kt).ownBlock = some k → j < k
variable {w x y : World} {co sy la mo c d t : Int} {sc st : Option Addr} {nc kc nt kt : Nat} {l : List Int} {m : List Sec}
theorem Cop.below (h : Cop w co sy la mo sc nc kc l c d t st nt kt m x) (g : Below x.heap.size x y) : Cop w co sy la mo sc nc kc l c d t st nt kt m y :=
  ⟨h.ct.below g, h.lc, h.lt, own_below h.oc g, own_below h.ot g, h.ne⟩
theorem Cop.drew (h : Cop w co sy la mo sc nc kc l c d t st nt kt m x) : Cop w co sy la mo sc nc kc l c d t st nt kt m x.drew := h.below ((Below.refl _ _).drew)
theorem Cop.ints (h : Cop w co sy la mo sc nc kc l c d t st nt kt m x) : Ints x (.slice sc nc kc) l := own_ints (by have := h.oc; rw [← h.lc] at this ⊢; exact this)
theorem Cop.secs (h : Cop w co sy la mo sc nc kc l c d t st nt kt m x) : Secs x (.slice st nt kt) m := own_secs (by have := h.ot; rw [← h.lt] at this ⊢; exact this)
theorem Cop.made {x1 v2 v3 : World} {oc ot : Value} (h : CT w #[.int .i64 co, .int .i64 sy, .int .i64 la, .int .i64 mo, oc] #[.int .i64 c, .int .i64 d, .int .i64 t, ot] x1) (hlc : l.length = nc) (hlt : m.length = nt)
    (hc : v2.ownsRow x1.heap.size 3 1 (.slice sc nc kc) nc (l.map mkI)) (g2 : Below x1.heap.size x1 v2) (ht : v3.ownsRow v2.heap.size 57 3 (.slice st nt kt) nt (secC m)) (g3 : Below v2.heap.size v2 v3) :
    Cop w co sy la mo sc nc kc l c d t st nt kt m (((((((((v3.setCell ⟨w.heap.size, 0, none⟩ (.int .i64 co)).setCell ⟨w.heap.size, 1, none⟩ (.int .i64 sy)).setCell ⟨w.heap.size, 2, none⟩ (.int .i64 la)).setCell ⟨w.heap.size, 3, none⟩ (.int .i64 mo)).setCell ⟨w.heap.size, 4, none⟩ (.slice sc nc kc)).setCell ⟨w.heap.size + 1, 0, none⟩ (.int .i64 c)).setCell ⟨w.heap.size + 1, 1, none⟩ (.int .i64 d)).setCell ⟨w.heap.size + 1, 2, none⟩ (.int .i64 t)).setCell ⟨w.heap.size + 1, 3, none⟩ (.slice st nt kt)) := by
  have h3 := (h.below g2).below g3
  have z1 : w.heap.size + 1 < x1.heap.size := h.bt.lt
  have z2 : x1.heap.size ≤ v2.heap.size := g2.size
  have k5 := (((((h3.bc.set 0 (.int .i64 co)).1.set 1 (.int .i64 sy)).1.set 2 (.int .i64 la)).1.set 3 (.int .i64 mo)).1.set 4 (.slice sc nc kc)).1
  have o5 := only5 v3 w.heap.size (.int .i64 co) (.int .i64 sy) (.int .i64 la) (.int .i64 mo) (.slice sc nc kc)
  have t5 := h3.bt.only o5 (by simp)
  generalize ((((v3.setCell ⟨w.heap.size, 0, none⟩ (.int .i64 co)).setCell ⟨w.heap.size, 1, none⟩ (.int .i64 sy)).setCell ⟨w.heap.size, 2, none⟩ (.int .i64 la)).setCell ⟨w.heap.size, 3, none⟩ (.int .i64 mo)).setCell ⟨w.heap.size, 4, none⟩ (.slice sc nc kc) = y at k5 o5 t5 ⊢
  have k9 := ((((t5.set 0 (.int .i64 c)).1.set 1 (.int .i64 d)).1.set 2 (.int .i64 t)).1.set 3 (.slice st nt kt)).1
  have o9 := only4 y (w.heap.size + 1) (.int .i64 c) (.int .i64 d) (.int .i64 t) (.slice st nt kt)
  have c9 := k5.only o9 (by simp)
  generalize (((y.setCell ⟨w.heap.size + 1, 0, none⟩ (.int .i64 c)).setCell ⟨w.heap.size + 1, 1, none⟩ (.int .i64 d)).setCell ⟨w.heap.size + 1, 2, none⟩ (.int .i64 t)).setCell ⟨w.heap.size + 1, 3, none⟩ (.slice st nt kt) = z at k9 o9 c9 ⊢
  have f := h.five
  have hE : Env z := (h3.env.only o5 (by simpa using f)).only o9 (by simp; omega)
  refine ⟨⟨f, hE, c9, k9, (h3.bel.trans (o5.belowOf (by have := h3.bc.lt; omega) (by simp))).trans (o9.belowOf (by have := k5.lt; omega) (by simp))⟩, hlc, hlt, ?_, ?_, ?_⟩
  · have a := own_mono (own_below hc g3) (base' := w.heap.size + 2) (by omega)
    exact own_off (own_off a o5 (fun j hj => by have := (a.lt j hj).1; simp; omega)) o9 (fun j hj => by have := (a.lt j hj).1; simp; omega)
  · have a := own_mono ht (base' := w.heap.size + 2) (by omega)
    exact own_off (own_off a o5 (fun j hj => by have := (a.lt j hj).1; simp; omega)) o9 (fun j hj => by have := (a.lt j hj).1; simp; omega)
  · intro j k hj hk
    have a := (hc.lt j hj).2
    have b := (ht.lt k hk).1
    omega
theorem lconfig_at (co sy la mo : Int) (a : Option Addr) (len cap : Nat) (z l : List Int) (n : Nat) (hl : z.take 8 = l) (hn : l.length = n) (w : World) (hv : AInts w a len cap z) :
    Calls Tryz.prog 8 #[.agg #[.int .i64 co, .int .i64 sy, .int .i64 la, .int .i64 mo, .slice a len cap]] w fun e w' => ∃ sa ka, e = .returned (.agg #[.int .i64 co, .int .i64 sy, .int .i64 la, .int .i64 mo, .slice sa n ka]) ∧ w'.ownsRow w.heap.size 3 1 (.slice sa n ka) n (l.map mkI) ∧ Below w.heap.size w w' := by
  refine (lconfig_any co sy la mo a len cap z w hv).mono ?_
  rintro e w' ⟨u, rfl, own, g⟩
  rw [hl, hn] at own
  obtain ⟨sa, ka, e⟩ := own_form own
  subst e
  exact ⟨sa, ka, rfl, own, g⟩
theorem ltask_at (c d t : Int) (a : Option Addr) (len cap : Nat) (z l : List Sec) (n : Nat) (hl : z.take 4 = l) (hn : l.length = n) (w : World) (hv : ASecs w a len cap z) :
    Calls Tryz.prog 9 #[.agg #[.int .i64 c, .int .i64 d, .int .i64 t, .slice a len cap]] w fun e w' => ∃ sa ka, e = .returned (.agg #[.int .i64 c, .int .i64 d, .int .i64 t, .slice sa n ka]) ∧ w'.ownsRow w.heap.size 57 3 (.slice sa n ka) n (secC l) ∧ Below w.heap.size w w' := by
  refine (ltask_any c d t a len cap z w hv).mono ?_
  rintro e w' ⟨u, rfl, own, g⟩
  rw [hl, hn] at own
  obtain ⟨sa, ka, e⟩ := own_form own
  subst e
  exact ⟨sa, ka, rfl, own, g⟩
theorem rtask_at (co sy la mo : Int) (v : Value) (l : List Int) (c d t : Int) (u : Value) (m : List Sec) (w : World) (hv : Ints w v l) (hl : l.length ≤ 1000000) (hu : Secs w u m) (hm : m.length ≤ 1000000) (hb : cfgB ⟨co, sy, la, mo, l⟩ = true) (n : Nat) (hn : l.length = n) (X : Bool) (hX : tskB n ⟨c, d, t, m⟩ = X) :
    Calls Tryz.prog 16 #[.agg #[.int .i64 co, .int .i64 sy, .int .i64 la, .int .i64 mo, v], .agg #[.int .i64 c, .int .i64 d, .int .i64 t, u]] w fun e w' => e = .returned (.bool X) ∧ Below w.heap.size w w' := by
  have h := rtask_any co sy la mo v l c d t u m w hv hl hu hm
  rw [hb, hn, Bool.true_and, hX] at h
  exact h
theorem refTask_at (co sy la mo : Int) (a : Option Addr) (n cap : Nat) (c d t : Int) (u : Value) (m : List Sec) (w : World) (hu : Secs w u m) (hm : m.length ≤ 1000000) (X : Bool) (hX : tskB n ⟨c, d, t, m⟩ = X) :
    Calls Tryz.prog 17 #[.agg #[.int .i64 co, .int .i64 sy, .int .i64 la, .int .i64 mo, .slice a n cap], .agg #[.int .i64 c, .int .i64 d, .int .i64 t, u]] w fun e w' => e = .returned (.bool X) ∧ Below w.heap.size w w' := by
  have h := refTask_any co sy la mo a n cap c d t u m w hu hm
  rw [hX] at h
  exact h
end Go.Proofs.YtfhhpmnohbmnoaaGreatDoor
