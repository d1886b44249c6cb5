/- Two configurations and two tasks in boxes of their own; what the copies leave. -/
import Derived.Test.YtfhhpmnohbmnoaaGreatDoorFive2
namespace Go.Proofs.YtfhhpmnohbmnoaaGreatDoor
open Go Go.RowKit

/-- The four boxes. -/
structure R4 (w : World) (C D T U : Array Value) (x : World) : Prop where
  five : 5 ≤ w.heap.size
  env : Env x
  bc : Blk x w.heap.size C 24
  bd : Blk x (w.heap.size + 1) D 24
  bt : Blk x (w.heap.size + 2) T 27
  bu : Blk x (w.heap.size + 3) U 27
  bel : Below w.heap.size w x
theorem R4.below {w x y : World} {C D T U : Array Value} (h : R4 w C D T U x) (g : Below x.heap.size x y) : R4 w C D T U y := ⟨h.five, h.env.below g, h.bc.below g, h.bd.below g, h.bt.below g, h.bu.below g, btrans h.bel g⟩
theorem R4.drew {w x : World} {C D T U : Array Value} (h : R4 w C D T U x) : R4 w C D T U x.drew := h.below ((Below.refl _ _).drew)
theorem R4.start {w : World} (hE : Env w) (C D T U : Array Value) : R4 w C D T U ((((w.alloc (.cells C 24)).alloc (.cells D 24)).alloc (.cells T 27)).alloc (.cells U 27)) := by
  have g0 := balloc w (.cells C 24)
  have k0 : Blk (w.alloc (.cells C 24)) w.heap.size C 24 := heap_alloc_new _ _
  have e0 := hE.below g0
  have z0 : (w.alloc (.cells C 24)).heap.size = w.heap.size + 1 := by simp
  generalize w.alloc (.cells C 24) = x0 at *
  have g1 := balloc x0 (.cells D 24)
  have k1 := blk_next z0 D 24
  have z1 : (x0.alloc (.cells D 24)).heap.size = w.heap.size + 2 := by simp [z0]
  generalize x0.alloc (.cells D 24) = x1 at *
  have g2 := balloc x1 (.cells T 27)
  have k2 := blk_next z1 T 27
  have z2 : (x1.alloc (.cells T 27)).heap.size = w.heap.size + 3 := by simp [z1]
  generalize x1.alloc (.cells T 27) = x2 at *
  have g3 := balloc x2 (.cells U 27)
  have k3 := blk_next z2 U 27
  exact ⟨hE.1, ((e0.below g1).below g2).below g3, ((k0.below g1).below g2).below g3, (k1.below g2).below g3, k2.below g3, k3, btrans (btrans (btrans g0 g1) g2) g3⟩
/-- What the copies leave. -/
structure Cop4 (w : World) (co sy la mo : Int) (sc : Option Addr) (nc kc : Nat) (l : List Int) (co' sy' la' mo' : Int) (sd : Option Addr) (nd kd : Nat) (l' : List Int) (c d t : Int) (st : Option Addr) (nt kt : Nat) (m : List Sec) (c' d' t' : Int) (su : Option Addr) (nu ku : Nat) (m' : List Sec) (x : World) : Prop where
  r4 : R4 w #[.int .i64 co, .int .i64 sy, .int .i64 la, .int .i64 mo, .slice sc nc kc] #[.int .i64 co', .int .i64 sy', .int .i64 la', .int .i64 mo', .slice sd nd kd] #[.int .i64 c, .int .i64 d, .int .i64 t, .slice st nt kt] #[.int .i64 c', .int .i64 d', .int .i64 t', .slice su nu ku] x
  intc : Ints x (.slice sc nc kc) l
  intd : Ints x (.slice sd nd kd) l'
  sect : Secs x (.slice st nt kt) m
  secu : Secs x (.slice su nu ku) m'
variable {w x y : World} {co sy la mo co' sy' la' mo' c d t c' d' t' : Int} {sc sd st su : Option Addr} {nc kc nd kd nt kt nu ku : Nat} {l l' : List Int} {m m' : List Sec}
theorem Cop4.below (h : Cop4 w co sy la mo sc nc kc l co' sy' la' mo' sd nd kd l' c d t st nt kt m c' d' t' su nu ku m' x) (g : Below x.heap.size x y) : Cop4 w co sy la mo sc nc kc l co' sy' la' mo' sd nd kd l' c d t st nt kt m c' d' t' su nu ku m' y := ⟨h.r4.below g, h.intc.below g, h.intd.below g, h.sect.below g, h.secu.below g⟩
theorem Cop4.drew (h : Cop4 w co sy la mo sc nc kc l co' sy' la' mo' sd nd kd l' c d t st nt kt m c' d' t' su nu ku m' x) : Cop4 w co sy la mo sc nc kc l co' sy' la' mo' sd nd kd l' c d t st nt kt m c' d' t' su nu ku m' x.drew := h.below ((Below.refl _ _).drew)
theorem Cop4.made {x1 v2 v3 v4 v5 : World} {oc od ot ou : Value} (h : R4 w #[.int .i64 co, .int .i64 sy, .int .i64 la, .int .i64 mo, oc] #[.int .i64 co', .int .i64 sy', .int .i64 la', .int .i64 mo', od] #[.int .i64 c, .int .i64 d, .int .i64 t, ot] #[.int .i64 c', .int .i64 d', .int .i64 t', ou] x1) (hlc : l.length = nc) (hld : l'.length = nd) (hlt : m.length = nt) (hlu : m'.length = nu)
    (hc : v2.ownsRow x1.heap.size 3 1 (.slice sc nc kc) nc (l.map mkI)) (g2 : Below x1.heap.size x1 v2) (hd : v3.ownsRow v2.heap.size 3 1 (.slice sd nd kd) nd (l'.map mkI)) (g3 : Below v2.heap.size v2 v3)
    (ht : v4.ownsRow v3.heap.size 57 3 (.slice st nt kt) nt (secC m)) (g4 : Below v3.heap.size v3 v4) (hu : v5.ownsRow v4.heap.size 57 3 (.slice su nu ku) nu (secC m')) (g5 : Below v4.heap.size v4 v5) :
    Cop4 w co sy la mo sc nc kc l co' sy' la' mo' sd nd kd l' c d t st nt kt m c' d' t' su nu ku m' ((((((((((((((((((v5.setCell ⟨w.heap.size, 0, none⟩ (.int .i64 co)).setCell ⟨w.heap.size, 1, none⟩ (.int .i64 sy)).setCell ⟨w.heap.size, 2, none⟩ (.int .i64 la)).setCell ⟨w.heap.size, 3, none⟩ (.int .i64 mo)).setCell ⟨w.heap.size, 4, none⟩ (.slice sc nc kc)).setCell ⟨w.heap.size + 1, 0, none⟩ (.int .i64 co')).setCell ⟨w.heap.size + 1, 1, none⟩ (.int .i64 sy')).setCell ⟨w.heap.size + 1, 2, none⟩ (.int .i64 la')).setCell ⟨w.heap.size + 1, 3, none⟩ (.int .i64 mo')).setCell ⟨w.heap.size + 1, 4, none⟩ (.slice sd nd kd)).setCell ⟨w.heap.size + 2, 0, none⟩ (.int .i64 c)).setCell ⟨w.heap.size + 2, 1, none⟩ (.int .i64 d)).setCell ⟨w.heap.size + 2, 2, none⟩ (.int .i64 t)).setCell ⟨w.heap.size + 2, 3, none⟩ (.slice st nt kt)).setCell ⟨w.heap.size + 3, 0, none⟩ (.int .i64 c')).setCell ⟨w.heap.size + 3, 1, none⟩ (.int .i64 d')).setCell ⟨w.heap.size + 3, 2, none⟩ (.int .i64 t')).setCell ⟨w.heap.size + 3, 3, none⟩ (.slice su nu ku)) := by
  have h5 := (((h.below g2).below g3).below g4).below g5
  have z1 : w.heap.size + 3 < x1.heap.size := h.bu.lt
  have z2 : x1.heap.size ≤ v2.heap.size := g2.size
  have z3 : v2.heap.size ≤ v3.heap.size := g3.size
  have z4 : v3.heap.size ≤ v4.heap.size := g4.size
  have z5 : v4.heap.size ≤ v5.heap.size := g5.size
  have oc5 := own_below (own_below (own_below hc g3) g4) g5
  have od5 := own_below (own_below hd g4) g5
  have ot5 := own_below ht g5
  have K0 := (((((h5.bc.set 0 (.int .i64 co)).1.set 1 (.int .i64 sy)).1.set 2 (.int .i64 la)).1.set 3 (.int .i64 mo)).1.set 4 (.slice sc nc kc)).1
  have o0 := only5 v5 (w.heap.size) (.int .i64 co) (.int .i64 sy) (.int .i64 la) (.int .i64 mo) (.slice sc nc kc)
  have bd0 := Blk.only h5.bd o0 (by simp)
  have bt0 := Blk.only h5.bt o0 (by simp)
  have bu0 := Blk.only h5.bu o0 (by simp)
  generalize ((((v5.setCell ⟨w.heap.size, 0, none⟩ (.int .i64 co)).setCell ⟨w.heap.size, 1, none⟩ (.int .i64 sy)).setCell ⟨w.heap.size, 2, none⟩ (.int .i64 la)).setCell ⟨w.heap.size, 3, none⟩ (.int .i64 mo)).setCell ⟨w.heap.size, 4, none⟩ (.slice sc nc kc) = y0 at K0 o0 bd0 bt0 bu0 ⊢
  have K1 := (((((bd0.set 0 (.int .i64 co')).1.set 1 (.int .i64 sy')).1.set 2 (.int .i64 la')).1.set 3 (.int .i64 mo')).1.set 4 (.slice sd nd kd)).1
  have o1 := only5 y0 (w.heap.size + 1) (.int .i64 co') (.int .i64 sy') (.int .i64 la') (.int .i64 mo') (.slice sd nd kd)
  have bc1 := Blk.only K0 o1 (by simp)
  have bt1 := Blk.only bt0 o1 (by simp)
  have bu1 := Blk.only bu0 o1 (by simp)
  generalize ((((y0.setCell ⟨w.heap.size + 1, 0, none⟩ (.int .i64 co')).setCell ⟨w.heap.size + 1, 1, none⟩ (.int .i64 sy')).setCell ⟨w.heap.size + 1, 2, none⟩ (.int .i64 la')).setCell ⟨w.heap.size + 1, 3, none⟩ (.int .i64 mo')).setCell ⟨w.heap.size + 1, 4, none⟩ (.slice sd nd kd) = y1 at K1 o1 bc1 bt1 bu1 ⊢
  have K2 := ((((bt1.set 0 (.int .i64 c)).1.set 1 (.int .i64 d)).1.set 2 (.int .i64 t)).1.set 3 (.slice st nt kt)).1
  have o2 := only4 y1 (w.heap.size + 2) (.int .i64 c) (.int .i64 d) (.int .i64 t) (.slice st nt kt)
  have bc2 := Blk.only bc1 o2 (by simp)
  have bd2 := Blk.only K1 o2 (by simp)
  have bu2 := Blk.only bu1 o2 (by simp)
  generalize (((y1.setCell ⟨w.heap.size + 2, 0, none⟩ (.int .i64 c)).setCell ⟨w.heap.size + 2, 1, none⟩ (.int .i64 d)).setCell ⟨w.heap.size + 2, 2, none⟩ (.int .i64 t)).setCell ⟨w.heap.size + 2, 3, none⟩ (.slice st nt kt) = y2 at K2 o2 bc2 bd2 bu2 ⊢
  have K3 := ((((bu2.set 0 (.int .i64 c')).1.set 1 (.int .i64 d')).1.set 2 (.int .i64 t')).1.set 3 (.slice su nu ku)).1
  have o3 := only4 y2 (w.heap.size + 3) (.int .i64 c') (.int .i64 d') (.int .i64 t') (.slice su nu ku)
  have bc3 := Blk.only bc2 o3 (by simp)
  have bd3 := Blk.only bd2 o3 (by simp)
  have bt3 := Blk.only K2 o3 (by simp)
  generalize (((y2.setCell ⟨w.heap.size + 3, 0, none⟩ (.int .i64 c')).setCell ⟨w.heap.size + 3, 1, none⟩ (.int .i64 d')).setCell ⟨w.heap.size + 3, 2, none⟩ (.int .i64 t')).setCell ⟨w.heap.size + 3, 3, none⟩ (.slice su nu ku) = y3 at K3 o3 bc3 bd3 bt3 ⊢
  have on : Only [w.heap.size, w.heap.size + 1, w.heap.size + 2, w.heap.size + 3] v5 y3 := (((only_mono o0 (T := [w.heap.size, w.heap.size + 1, w.heap.size + 2, w.heap.size + 3]) (by simp)).same (only_mono o1 (by simp))).same (only_mono o2 (by simp))).same (only_mono o3 (by simp))
  have f := h.five
  have hE : Env y3 := h5.env.only on (by simp; omega)
  have off : ∀ {e n z : Nat} {v : Value} {xs : List Value} {b : Nat}, x1.heap.size ≤ b → v5.ownsRow b e z v n xs → y3.ownsRow b e z v n xs := fun hb ho => own_off ho on (fun k hk => by have := (ho.lt k hk).1; simp; omega)
  exact ⟨⟨f, hE, bc3, bd3, bt3, K3, h5.bel.trans (on.belowOf (by have := h5.bc.lt; omega) (by simp))⟩, own_intsN hlc (off (Nat.le_refl _) oc5), own_intsN hld (off z2 od5), own_secsN hlt (off (by omega) ot5), own_secsN hlu (off (by omega) hu)⟩
end Go.Proofs.YtfhhpmnohbmnoaaGreatDoor
