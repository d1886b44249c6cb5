/- A configuration, two tasks, a load and a piece in boxes of their own; what the copies leave. -/
import Derived.Test.YtfhhpmnohbmnoaaGreatDoorTwo
namespace Go.Proofs.YtfhhpmnohbmnoaaGreatDoor
open Go Go.RowKit

/-- The five boxes. -/
structure R5 (w : World) (C T U L P : Array Value) (x : World) : Prop where
  five : 5 ≤ w.heap.size
  env : Env x
  bc : Blk x w.heap.size C 24
  bt : Blk x (w.heap.size + 1) T 27
  bu : Blk x (w.heap.size + 2) U 27
  bl : Blk x (w.heap.size + 3) L 29
  bp : Blk x (w.heap.size + 4) P 31
  bel : Below w.heap.size w x
theorem R5.below {w x y : World} {C T U L P : Array Value} (h : R5 w C T U L P x) (g : Below x.heap.size x y) : R5 w C T U L P y := ⟨h.five, h.env.below g, h.bc.below g, h.bt.below g, h.bu.below g, h.bl.below g, h.bp.below g, btrans h.bel g⟩
theorem R5.drew {w x : World} {C T U L P : Array Value} (h : R5 w C T U L P x) : R5 w C T U L P x.drew := h.below ((Below.refl _ _).drew)
theorem blk_next {w x : World} {k : Nat} (hs : x.heap.size = w.heap.size + k) (cs : Array Value) (t : TypeId) : Blk (x.alloc (.cells cs t)) (w.heap.size + k) cs t := by rw [← hs]; exact heap_alloc_new _ _
theorem R5.start {w : World} (hE : Env w) (C T U L P : Array Value) : R5 w C T U L P (((((w.alloc (.cells C 24)).alloc (.cells T 27)).alloc (.cells U 27)).alloc (.cells L 29)).alloc (.cells P 31)) := by
  have g0 := balloc w (.cells C 24)
  have k0 : Blk (w.alloc (.cells C 24)) w.heap.size C 24 := heap_alloc_new _ _
  have e0 := hE.below g0
  have z0 : (w.alloc (.cells C 24)).heap.size = w.heap.size + 1 := by simp
  generalize w.alloc (.cells C 24) = x0 at *
  have g1 := balloc x0 (.cells T 27)
  have k1 := blk_next z0 T 27
  have z1 : (x0.alloc (.cells T 27)).heap.size = w.heap.size + 2 := by simp [z0]
  generalize x0.alloc (.cells T 27) = x1 at *
  have g2 := balloc x1 (.cells U 27)
  have k2 := blk_next z1 U 27
  have z2 : (x1.alloc (.cells U 27)).heap.size = w.heap.size + 3 := by simp [z1]
  generalize x1.alloc (.cells U 27) = x2 at *
  have g3 := balloc x2 (.cells L 29)
  have k3 := blk_next z2 L 29
  have z3 : (x2.alloc (.cells L 29)).heap.size = w.heap.size + 4 := by simp [z2]
  generalize x2.alloc (.cells L 29) = x3 at *
  have g4 := balloc x3 (.cells P 31)
  have k4 := blk_next z3 P 31
  exact ⟨hE.1, (((e0.below g1).below g2).below g3).below g4, (((k0.below g1).below g2).below g3).below g4, ((k1.below g2).below g3).below g4, (k2.below g3).below g4, k3.below g4, k4, btrans (btrans (btrans (btrans g0 g1) g2) g3) g4⟩
/-- What the copies leave. -/
structure Cop5 (w : World) (co sy la mo : Int) (sc : Option Addr) (nc kc : Nat) (l : List Int) (c d t : Int) (st : Option Addr) (nt kt : Nat) (m : List Sec) (c' d' t' : Int) (su : Option Addr) (nu ku : Nat) (m' : List Sec) (L P : Array Value) (x : World) : Prop where
  r5 : R5 w #[.int .i64 co, .int .i64 sy, .int .i64 la, .int .i64 mo, .slice sc nc kc] #[.int .i64 c, .int .i64 d, .int .i64 t, .slice st nt kt] #[.int .i64 c', .int .i64 d', .int .i64 t', .slice su nu ku] L P x
  ints : Ints x (.slice sc nc kc) l
  secs : Secs x (.slice st nt kt) m
  secu : Secs x (.slice su nu ku) m'
variable {w x y : World} {co sy la mo c d t c' d' t' : Int} {sc st su : Option Addr} {nc kc nt kt nu ku : Nat} {l : List Int} {m m' : List Sec} {L P : Array Value}
theorem Cop5.below (h : Cop5 w co sy la mo sc nc kc l c d t st nt kt m c' d' t' su nu ku m' L P x) (g : Below x.heap.size x y) : Cop5 w co sy la mo sc nc kc l c d t st nt kt m c' d' t' su nu ku m' L P y := ⟨h.r5.below g, h.ints.below g, h.secs.below g, h.secu.below g⟩
theorem Cop5.drew (h : Cop5 w co sy la mo sc nc kc l c d t st nt kt m c' d' t' su nu ku m' L P x) : Cop5 w co sy la mo sc nc kc l c d t st nt kt m c' d' t' su nu ku m' L P x.drew := h.below ((Below.refl _ _).drew)
theorem own_intsN {w : World} {base e n : Nat} {v : Value} {l : List Int} (hn : l.length = n) (h : w.ownsRow base e 1 v n (l.map mkI)) : Ints w v l := own_ints (by rw [hn]; exact h)
theorem own_secsN {w : World} {base e n : Nat} {v : Value} {l : List Sec} (hn : l.length = n) (h : w.ownsRow base e 3 v n (secC l)) : Secs w v l := own_secs (by rw [hn]; exact h)
theorem only_mono {S T : List Nat} {a b : World} (h : Only S a b) (hS : ∀ k ∈ S, k ∈ T) : Only T a b := ⟨h.os, h.tape, h.output, h.size, fun k hk hn => h.block k hk (fun m => hn (hS k m))⟩
theorem Cop5.made {x1 v2 v3 v4 : World} {oc ot ou : Value} (h : R5 w #[.int .i64 co, .int .i64 sy, .int .i64 la, .int .i64 mo, oc] #[.int .i64 c, .int .i64 d, .int .i64 t, ot] #[.int .i64 c', .int .i64 d', .int .i64 t', ou] L P x1) (hlc : l.length = nc) (hlt : m.length = nt) (hlu : m'.length = nu)
    (hc : v2.ownsRow x1.heap.size 3 1 (.slice sc nc kc) nc (l.map mkI)) (g2 : Below x1.heap.size x1 v2) (ht : v3.ownsRow v2.heap.size 57 3 (.slice st nt kt) nt (secC m)) (g3 : Below v2.heap.size v2 v3) (hu : v4.ownsRow v3.heap.size 57 3 (.slice su nu ku) nu (secC m')) (g4 : Below v3.heap.size v3 v4) :
    Cop5 w co sy la mo sc nc kc l c d t st nt kt m c' d' t' su nu ku m' L P (((((((((((((v4.setCell ⟨w.heap.size, 0, none⟩ (.int .i64 co)).setCell ⟨w.heap.size, 1, none⟩ (.int .i64 sy)).setCell ⟨w.heap.size, 2, none⟩ (.int .i64 la)).setCell ⟨w.heap.size, 3, none⟩ (.int .i64 mo)).setCell ⟨w.heap.size, 4, none⟩ (.slice sc nc kc)).setCell ⟨w.heap.size + 1, 0, none⟩ (.int .i64 c)).setCell ⟨w.heap.size + 1, 1, none⟩ (.int .i64 d)).setCell ⟨w.heap.size + 1, 2, none⟩ (.int .i64 t)).setCell ⟨w.heap.size + 1, 3, none⟩ (.slice st nt kt)).setCell ⟨w.heap.size + 2, 0, none⟩ (.int .i64 c')).setCell ⟨w.heap.size + 2, 1, none⟩ (.int .i64 d')).setCell ⟨w.heap.size + 2, 2, none⟩ (.int .i64 t')).setCell ⟨w.heap.size + 2, 3, none⟩ (.slice su nu ku)) := by
  have h4 := ((h.below g2).below g3).below g4
  have z1 : w.heap.size + 4 < x1.heap.size := h.bp.lt
  have z2 : x1.heap.size ≤ v2.heap.size := g2.size
  have z3 : v2.heap.size ≤ v3.heap.size := g3.size
  have z4 : v3.heap.size ≤ v4.heap.size := g4.size
  have oc4 := own_below (own_below hc g3) g4
  have ot4 := own_below ht g4
  have k5 := (((((h4.bc.set 0 (.int .i64 co)).1.set 1 (.int .i64 sy)).1.set 2 (.int .i64 la)).1.set 3 (.int .i64 mo)).1.set 4 (.slice sc nc kc)).1
  have o5 := only5 v4 w.heap.size (.int .i64 co) (.int .i64 sy) (.int .i64 la) (.int .i64 mo) (.slice sc nc kc)
  have t5 := h4.bt.only o5 (by simp)
  have u5 := h4.bu.only o5 (by simp)
  have l5 := h4.bl.only o5 (by simp)
  have p5 := h4.bp.only o5 (by simp)
  generalize ((((v4.setCell ⟨w.heap.size, 0, none⟩ (.int .i64 co)).setCell ⟨w.heap.size, 1, none⟩ (.int .i64 sy)).setCell ⟨w.heap.size, 2, none⟩ (.int .i64 la)).setCell ⟨w.heap.size, 3, none⟩ (.int .i64 mo)).setCell ⟨w.heap.size, 4, none⟩ (.slice sc nc kc) = y at k5 o5 t5 u5 l5 p5 ⊢
  have k9 := ((((t5.set 0 (.int .i64 c)).1.set 1 (.int .i64 d)).1.set 2 (.int .i64 t)).1.set 3 (.slice st nt kt)).1
  have o9 := only4 y (w.heap.size + 1) (.int .i64 c) (.int .i64 d) (.int .i64 t) (.slice st nt kt)
  have c9 := k5.only o9 (by simp)
  have u9 := u5.only o9 (by simp)
  have l9 := l5.only o9 (by simp)
  have p9 := p5.only o9 (by simp)
  generalize (((y.setCell ⟨w.heap.size + 1, 0, none⟩ (.int .i64 c)).setCell ⟨w.heap.size + 1, 1, none⟩ (.int .i64 d)).setCell ⟨w.heap.size + 1, 2, none⟩ (.int .i64 t)).setCell ⟨w.heap.size + 1, 3, none⟩ (.slice st nt kt) = z at k9 o9 c9 u9 l9 p9 ⊢
  have k13 := ((((u9.set 0 (.int .i64 c')).1.set 1 (.int .i64 d')).1.set 2 (.int .i64 t')).1.set 3 (.slice su nu ku)).1
  have o13 := only4 z (w.heap.size + 2) (.int .i64 c') (.int .i64 d') (.int .i64 t') (.slice su nu ku)
  have c13 := c9.only o13 (by simp)
  have t13 := Blk.only k9 o13 (by simp)
  have l13 := l9.only o13 (by simp)
  have p13 := p9.only o13 (by simp)
  have on : Only [w.heap.size, w.heap.size + 1, w.heap.size + 2] v4 _ := ((only_mono o5 (T := [w.heap.size, w.heap.size + 1, w.heap.size + 2]) (by simp)).same (only_mono o9 (by simp))).same (only_mono o13 (by simp))
  generalize (((z.setCell ⟨w.heap.size + 2, 0, none⟩ (.int .i64 c')).setCell ⟨w.heap.size + 2, 1, none⟩ (.int .i64 d')).setCell ⟨w.heap.size + 2, 2, none⟩ (.int .i64 t')).setCell ⟨w.heap.size + 2, 3, none⟩ (.slice su nu ku) = Z at k13 c13 t13 l13 p13 on ⊢
  have f := h.five
  have hE : Env Z := h4.env.only on (by simp; omega)
  have off : ∀ {e n z : Nat} {v : Value} {xs : List Value} {b : Nat}, x1.heap.size ≤ b → v4.ownsRow b e z v n xs → Z.ownsRow b e z v n xs := fun hb ho => own_off ho on (fun k hk => by have := (ho.lt k hk).1; simp; omega)
  exact ⟨⟨f, hE, c13, t13, k13, l13, p13, h4.bel.trans (on.belowOf (by have := h4.bc.lt; omega) (by simp))⟩, own_intsN hlc (off (Nat.le_refl _) oc4), own_secsN hlt (off z2 ot4), own_secsN hlu (off (Nat.le_trans z2 z3) hu)⟩
end Go.Proofs.YtfhhpmnohbmnoaaGreatDoor
