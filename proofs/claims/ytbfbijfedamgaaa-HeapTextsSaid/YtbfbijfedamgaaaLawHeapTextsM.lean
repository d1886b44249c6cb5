/-
PROVED: the statement hortatorlaw2.HeapTexts answers true over the landed packages: a heap of texts, of records, is as one of numbers.
  CONDITIONS: none beside the row's own.
-/
import Derived.Test.YtbfbijfedamgaaaOwn
import Derived.Defers
import Derived.Recover
import Derived.Laws.Pointers
import Derived.Deep.RegionHeld3
import Derived.BigQuiet
import Derived.Test.YtbfbijfedamgaaaHeapTake2I
import Derived.Test.YtbfbijfedamgaaaLists
import Derived.Deep.RegionLaw
import Derived.Deep.AppendLies
import Derived.Deep.DrawnRows
import Derived.Maps.AppendAt
import Derived.OwnWalk
import Derived.Test.YtbfbijfedamgaaaHeapPutS
import Derived.Test.YtbfbijfedamgaaaArgs
import Derived.Test.YtbfbijfedamgaaaRows
import Derived.WalkKit
import Derived.ProofKit
import Derived.OpenShut
import Derived.ShutString
import Derived.ChangeOld
import Derived.Below
import Derived.Test.YtbfbijfedamgaaaBegun
/- The cells of a heap's things that are structs of two texts, the second one always the same; what stands at each place. -/
namespace Go.Proofs.Ytbfbijfedamgaaa
open Go.RowKit
/-- The text of one letter, x. -/
def txW : ByteArray := ⟨#[120]⟩
/-- The cells of things, five each. -/
def cells5 (es : List (Ent ByteArray)) : List Value := es.flatMap fun e => [.string e.v, .string txW, .int .i64 e.a, .int .i64 e.b, .int .i64 e.t]
theorem cells5_length (es : List (Ent ByteArray)) : (cells5 es).length = es.length * 5 := by
  induction es with
  | nil => rfl
  | cons e es ih => simp only [cells5, List.flatMap_cons, List.length_append] at *; rw [ih]; simp; omega
theorem cells5_append (es fs : List (Ent ByteArray)) : cells5 (es ++ fs) = cells5 es ++ cells5 fs := by simp [cells5]
theorem cells5_take (es : List (Ent ByteArray)) (n : Nat) : cells5 (es.take n) = (cells5 es).take (n * 5) := by
  induction es generalizing n with
  | nil => simp [cells5]
  | cons e es ih =>
    cases n with
    | zero => simp [cells5]
    | succ n =>
      have := ih n
      rw [show (n + 1) * 5 = n * 5 + 5 by omega]
      simpa [cells5] using this
theorem cells5_get {es : List (Ent ByteArray)} {i : Nat} {x : Ent ByteArray} (h : es[i]? = some x) :
    (cells5 es)[i * 5]? = some (.string x.v) ∧ (cells5 es)[i * 5 + 1]? = some (.string txW) ∧ (cells5 es)[i * 5 + 2]? = some (.int .i64 x.a) ∧ (cells5 es)[i * 5 + 3]? = some (.int .i64 x.b) ∧ (cells5 es)[i * 5 + 4]? = some (.int .i64 x.t) := by
  induction es generalizing i with
  | nil => simp at h
  | cons e es ih =>
    cases i with
    | zero => simp at h; subst h; simp [cells5]
    | succ i =>
      have := ih (i := i) (by simpa using h)
      rw [show (i + 1) * 5 = i * 5 + 5 by omega]
      simpa [cells5] using this
theorem cells5_set (es : List (Ent ByteArray)) (i : Nat) (x : Ent ByteArray) :
    cells5 (es.set i x) = (((((cells5 es).set (i * 5) (.string x.v)).set (i * 5 + 1) (.string txW)).set (i * 5 + 2) (.int .i64 x.a)).set (i * 5 + 3) (.int .i64 x.b)).set (i * 5 + 4) (.int .i64 x.t) := by
  induction es generalizing i with
  | nil => simp [cells5]
  | cons e es ih =>
    cases i with
    | zero => simp [cells5]
    | succ i =>
      have := ih i
      rw [show (i + 1) * 5 = i * 5 + 5 by omega]
      simpa [cells5] using this
theorem cells5_one (es : List (Ent ByteArray)) : ∀ u ∈ cells5 es, u.oneCell' = true := by
  intro u hu
  simp only [cells5, List.mem_flatMap] at hu
  obtain ⟨e, _, hu⟩ := hu
  simp at hu
  rcases hu with rfl | rfl | rfl | rfl | rfl <;> rfl
end Go.Proofs.Ytbfbijfedamgaaa

/- The contract of alike.Same at hortator/hortatorlaw2.pair: it holds two against each other; the deferred call finds no panic. -/
namespace Go.Proofs.Ytbfbijfedamgaaa
open Go.RowKit

def mkW (x : ByteArray) : Value := .agg #[.string x, .string txW]
def okW (_ : World) (_ : List Nat) (_ : ByteArray) : Prop := True
theorem okW.only {w w' : World} {F F' : List Nat} {x : ByteArray} (_ : okW w F x) (_ : Only F w w') (_ : ∀ k ∈ F', k ∈ F ∨ w.heap.size ≤ k) : okW w' F' x := trivial

theorem sameW_idle (p : Addr) (w : World) :
    CallsD Try.prog 109 #[.pointer (some p)] .returning w fun e u' w' => e = .returned (.tuple #[]) ∧ u' = .returning ∧ w' = w := by
  refine callsD_of_wpS Try.func109 rfl fun c₀ cs hu => ?_
  apply wpS_seq
  apply wpS_region
  simp [wpOpsS, go_sem, recoverD, hu, Try.ntmps109, Exit.thenS]
  refine wpS_cond (t := false) (by simp [Act.eval, Array.replicate]) ?_
  simp only [Bool.false_eq_true, if_false]
  refine wpS_of_wp (wp_skip ?_)
  cases c₀
  simp_all [bodyPostS, results, Try.results109]

theorem tl_eq {x y : ByteArray} : x.toList = y.toList ↔ x = y := by
  simp only [ByteArray.toList_eq, ByteArray.ext_iff]
  exact Array.toList_inj
set_option maxHeartbeats 400000 in
theorem sameW_any (x y : ByteArray) (w : World) {F G : List Nat} (_ : okW w F x) (_ : okW w G y) :
    Calls Try.prog 89 #[.agg #[.string x, .string txW], .agg #[.string y, .string txW]] w fun e w' => e = .returned (.bool (decide (x = y))) ∧ Below w.heap.size w w' := by
  have hmf : ∀ (fn : Fn) (first cap : Array Value) (w : World), (Instr.makeFunc fn first cap).run Try.prog w = .ok (.func fn first cap) w := fun _ _ _ _ => rfl
  have bl : ∀ (b : Bool) (o1 o2 o3 : Obj), Below w.heap.size w (((w.alloc o1).alloc o2).alloc o3) := fun _ o1 o2 o3 => (((Below.refl _ _).alloc (Nat.le_refl _) _).alloc (by simp) _).alloc (by simp; omega) _
  go_enter_defers Try.func89, Try.ntmps89
  go_wp2
  all_goals
    refine leaves_cons (f := 109) (args := #[.pointer (some ⟨w.heap.size + 2, 0, none⟩)]) (by simp) (by simp [go_sem]) ?_
    refine (sameW_idle ⟨w.heap.size + 2, 0, none⟩ _).mono ?_
    rintro e u' w'' ⟨rfl, rfl, rfl⟩
    simp [Leaves, settle, results, Try.results89, go_sem]
    first
      | exact ⟨tl_eq.1 ‹_›, bl true _ _ _⟩
      | exact ⟨fun e => absurd (tl_eq.2 e) ‹_›, bl false _ _ _⟩
end Go.Proofs.Ytbfbijfedamgaaa

/- The heap of hortator/hortatorlaw2.pair in memory; the contracts of its Len and find. -/
namespace Go.Proofs.Ytbfbijfedamgaaa.HW
open Go.RowKit

/-- The heap's own block, its array, its things. -/
structure Raw (w : World) (b : Nat) (room puts : Int) (v : Value) (es : List (Ent ByteArray)) : Prop where
  blk : w.heap[b]? = some (.cells #[.int .i64 room, .int .i64 puts, v] 99 (0, 0))
  own : w.ownsRow (b + 1) 104 5 v es.length (cells5 es)
  ok : ∀ x ∈ es, okW w (foot b v) x.v
  few : es.length ≤ 1000

theorem Raw.c0 {w : World} {b : Nat} {room puts : Int} {v : Value} {es : List (Ent ByteArray)} (h : Raw w b room puts v es) : w.cell? ⟨b, 0, none⟩ = some (.int .i64 room) := by simp [World.cell?, h.blk]
theorem Raw.c1 {w : World} {b : Nat} {room puts : Int} {v : Value} {es : List (Ent ByteArray)} (h : Raw w b room puts v es) : w.cell? ⟨b, 1, none⟩ = some (.int .i64 puts) := by simp [World.cell?, h.blk]
theorem Raw.c2 {w : World} {b : Nat} {room puts : Int} {v : Value} {es : List (Ent ByteArray)} (h : Raw w b room puts v es) : w.cell? ⟨b, 2, none⟩ = some v := by simp [World.cell?, h.blk]
theorem Raw.fz {w : World} {b : Nat} {room puts : Int} {v : Value} {es : List (Ent ByteArray)} (h : Raw w b room puts v es) (o : Nat) : w.frozen? ⟨b, o, none⟩ = false := by simp [World.frozen?, h.blk]
theorem Raw.lt {w : World} {b : Nat} {room puts : Int} {v : Value} {es : List (Ent ByteArray)} (h : Raw w b room puts v es) : b < w.heap.size := (Array.getElem?_eq_some_iff.1 h.blk).1
theorem Raw.gt {w : World} {b : Nat} {room puts : Int} {v : Value} {es : List (Ent ByteArray)} (h : Raw w b room puts v es) : ∀ k, v.ownBlock = some k → b < k ∧ k < w.heap.size := fun k hk => by have := h.own.lt k hk; omega
theorem Raw.foot_lt {w : World} {b : Nat} {room puts : Int} {v : Value} {es : List (Ent ByteArray)} (h : Raw w b room puts v es) : ∀ k ∈ foot b v, k < w.heap.size := by
  intro k hk
  simp only [foot, List.mem_cons, Option.mem_toList] at hk
  rcases hk with rfl | hk
  · exact h.lt
  · exact (h.gt k hk).2
/-- What turns none of its blocks leaves it. -/
theorem Raw.only {w w' : World} {b : Nat} {room puts : Int} {v : Value} {es : List (Ent ByteArray)} (h : Raw w b room puts v es) {S : List Nat} (g : Only S w w') (hS : ∀ k ∈ foot b v, k ∉ S) (hok : ∀ x ∈ es, okW w' (foot b v) x.v) : Raw w' b room puts v es := by
  refine ⟨by rw [g.block b h.lt (hS b mem_foot)]; exact h.blk, ?_, hok, h.few⟩
  obtain ⟨h1, h2⟩ := h.own
  refine ⟨h1, ?_⟩
  rcases h2 with h2 | ⟨gb, cap, cur, rfl, hb, hh, r⟩
  · exact .inl h2
  · exact .inr ⟨gb, cap, cur, rfl, hb, by rw [g.block gb (Array.getElem?_eq_some_iff.1 hh).1 (hS gb mem_foot_slice)]; exact hh, r⟩
theorem Raw.below {w w' : World} {b : Nat} {room puts : Int} {v : Value} {es : List (Ent ByteArray)} (h : Raw w b room puts v es) (g : Below w.heap.size w w') : Raw w' b room puts v es :=
  h.only (Below.only g []) (by simp) (fun x hx => (h.ok x hx).only (Below.only g _) (fun k hk => .inl hk))
/-- A thing is laid at a place. -/
theorem Raw.put4 {w : World} {b g n cap : Nat} {room puts : Int} {es : List (Ent ByteArray)} (h : Raw w b room puts (.slice (some ⟨g, 0, none⟩) n cap) es) (i : Nat) (x : Ent ByteArray) (hx : okW w (foot b (.slice (some ⟨g, 0, none⟩) n cap)) x.v) :
    Raw (((((w.setCell ⟨g, i * 5, none⟩ (.string x.v)).setCell ⟨g, i * 5 + 1, none⟩ (.string txW)).setCell ⟨g, i * 5 + 2, none⟩ (.int .i64 x.a)).setCell ⟨g, i * 5 + 3, none⟩ (.int .i64 x.b)).setCell ⟨g, i * 5 + 4, none⟩ (.int .i64 x.t)) b room puts (.slice (some ⟨g, 0, none⟩) n cap) (es.set i x) ∧
    Only (foot b (.slice (some ⟨g, 0, none⟩) n cap)) w (((((w.setCell ⟨g, i * 5, none⟩ (.string x.v)).setCell ⟨g, i * 5 + 1, none⟩ (.string txW)).setCell ⟨g, i * 5 + 2, none⟩ (.int .i64 x.a)).setCell ⟨g, i * 5 + 3, none⟩ (.int .i64 x.b)).setCell ⟨g, i * 5 + 4, none⟩ (.int .i64 x.t)) := by
  have hg := h.gt g rfl
  have m : g ∈ foot b (.slice (some ⟨g, 0, none⟩) n cap) := mem_foot_slice
  have on : Only (foot b (.slice (some ⟨g, 0, none⟩) n cap)) w (((((w.setCell ⟨g, i * 5, none⟩ (.string x.v)).setCell ⟨g, i * 5 + 1, none⟩ (.string txW)).setCell ⟨g, i * 5 + 2, none⟩ (.int .i64 x.a)).setCell ⟨g, i * 5 + 3, none⟩ (.int .i64 x.b)).setCell ⟨g, i * 5 + 4, none⟩ (.int .i64 x.t)) :=
    (((((Only.refl _ w).setCell (p := ⟨g, i * 5, none⟩) m _).setCell (p := ⟨g, i * 5 + 1, none⟩) m _).setCell (p := ⟨g, i * 5 + 2, none⟩) m _).setCell (p := ⟨g, i * 5 + 3, none⟩) m _).setCell (p := ⟨g, i * 5 + 4, none⟩) m _
  have hn : n = es.length := by rcases h.own.2 with ⟨e, _⟩ | ⟨_, _, _, e, _⟩ <;> simp at e; exact e.2.1
  subst hn
  have o := (((((h.own.stored (i * 5) (.string x.v)).1.stored (i * 5 + 1) (.string txW)).1.stored (i * 5 + 2) (.int .i64 x.a)).1.stored (i * 5 + 3) (.int .i64 x.b)).1.stored (i * 5 + 4) (.int .i64 x.t)).1
  rw [← cells5_set] at o
  refine ⟨⟨?_, by simpa using o, fun y hy => ?_, by simpa using h.few⟩, on⟩
  · rw [Below.heap_setCell _ _ _ _ (by show b ≠ g; omega), Below.heap_setCell _ _ _ _ (by show b ≠ g; omega), Below.heap_setCell _ _ _ _ (by show b ≠ g; omega), Below.heap_setCell _ _ _ _ (by show b ≠ g; omega), Below.heap_setCell _ _ _ _ (by show b ≠ g; omega)]
    exact h.blk
  · rcases List.mem_or_eq_of_mem_set hy with hy | rfl
    · exact (h.ok y hy).only on (fun k hk => .inl hk)
    · exact hx.only on (fun k hk => .inl hk)
theorem Raw.drew {w : World} {b : Nat} {room puts : Int} {v : Value} {es : List (Ent ByteArray)} (h : Raw w b room puts v es) : Raw w.drew b room puts v es :=
  h.below ((Below.refl _ _).drew)

set_option maxHeartbeats 400000 in
theorem len_any {b : Nat} {room puts : Int} {v : Value} {es : List (Ent ByteArray)} (w : World) (h : Raw w b room puts v es) :
    Calls Try.prog 88 #[.pointer (some ⟨b, 0, none⟩)] w fun e w' => e = .returned (.int .i64 es.length) ∧ w' = w := by
  have c2 := h.c2
  have hl := h.few
  rcases h.own.2 with ⟨rfl, hn⟩ | ⟨g, cap, cur, rfl, hg⟩
  · go_enter Try.func88, Try.ntmps88
    go_wp2
    go_ret
    exact ⟨ret_int (by omega), rfl⟩
  · go_enter Try.func88, Try.ntmps88
    go_wp2
    go_ret
    exact ⟨rfl, rfl⟩

set_option maxHeartbeats 2000000 in
set_option maxRecDepth 100000 in
theorem find_any {b : Nat} {room puts : Int} {v : Value} {es : List (Ent ByteArray)} (x : ByteArray) (w : World) (h : Raw w b room puts v es) {F : List Nat} (_ : okW w F x) :
    Calls Try.prog 62 #[.pointer (some ⟨b, 0, none⟩), .agg #[.string x, .string txW]] w fun e w' => ∃ r : Int, e = .returned (.int .i64 r) ∧ ((r = -1 ∧ ∀ y ∈ es, y.v ≠ x) ∨ ∃ (i : Nat) (y : Ent ByteArray), r = i ∧ es[i]? = some y ∧ y.v = x) ∧ Below w.heap.size w w' := by
  have gA : Below w.heap.size w (w.alloc (.cells #[.string x, .string txW] 48)) := (Below.refl _ _).alloc (Nat.le_refl _) _
  have h1 := h.below gA
  have hl := h.few
  have bl := h.lt
  go_enter Try.func62, Try.ntmps62
  go_wp2_with (go_at_call 88; refine (len_any _ h1).mono ?_; rintro e w' ⟨rfl, hw⟩; subst w')
  go_loopw [8] (fun i wr => ∃ k : Nat, k ≤ es.length ∧ i = .int .i64 k ∧ (∀ (j : Nat) (y : Ent ByteArray), j < k → es[j]? = some y → y.v ≠ x) ∧ Below (w.alloc (.cells #[.string x, .string txW] 48)).heap.size (w.alloc (.cells #[.string x, .string txW] 48)) wr) (fun i _ => es.length - (intOf i).toNat)
  case atStart => exact ⟨0, by omega, rfl, by omega, Below.refl _ _⟩
  case round =>
    obtain ⟨k, hk, rfl, hno, hb⟩ := hrel
    have HB : Hid (Below w.heap.size w wr) := gA.trans (hb.mono (by simp))
    have HNO : Hid (∀ (j : Nat) (y : Ent ByteArray), j < k → es[j]? = some y → y.v ≠ x) := hno
    have HB2 : Hid (Below (w.alloc (.cells #[.string x, .string txW] 48)).heap.size (w.alloc (.cells #[.string x, .string txW] 48)) wr) := hb
    clear hno
    by_cases hlt : k < es.length
    · have hlt' : (k : Int) < (es.length : Int) := by omega
      have hr := h1.below hb
      have c2 := hr.c2
      have bx0 : wr.cell? ⟨w.heap.size, 0, none⟩ = some (.string x) := (hb.cell (p := ⟨w.heap.size, 0, none⟩) (by simp)).trans (by simp)
      have bx1 : wr.cell? ⟨w.heap.size, 1, none⟩ = some (.string txW) := (hb.cell (p := ⟨w.heap.size, 1, none⟩) (by simp)).trans (by simp)
      have zs : w.heap.size < wr.heap.size := by have := hb.size; simp at this; omega
      rcases hr.own.2 with ⟨rfl, hn⟩ | ⟨g, cap, cur, rfl, hgb, hg, _⟩
      · omega
      have gl : g < wr.heap.size := (Array.getElem?_eq_some_iff.1 hg).1
      obtain ⟨y, hy⟩ : ∃ y, es[k]? = some y := ⟨_, List.getElem?_eq_getElem hlt⟩
      obtain ⟨t0, t1, _⟩ := cells5_get hy
      have cy := hr.own.cellAt (k * 5) (by omega)
      rw [t0] at cy
      have cz := hr.own.cellAt (k * 5 + 1) (by omega)
      rw [t1] at cz
      have bw : b < wr.heap.size := by omega
      have HY : Hid (es[k]? = some y) := hy
      obtain ⟨yv, hyv⟩ : ∃ z, y.v = z := ⟨_, rfl⟩
      have HV : Hid (y.v = yv) := hyv
      rw [hyv] at cy
      clear hr hg t0 t1 hb hy hyv
      have SA : Hid (∀ u : World, Calls Try.prog 89 #[.agg #[.string yv, .string txW], .agg #[.string x, .string txW]] u fun e w' => e = .returned (.bool (decide (yv = x))) ∧ Below u.heap.size u w') := fun u => sameW_any yv x u (F := []) (G := []) trivial trivial
      by_cases hyx : yv = x
      · have K : decide (yv = x) = true := decide_eq_true hyx
        rw [K] at SA
        have HX : Hid (yv = x) := hyx
        clear hyx K
        go_wp2_with fail
        go_region_held3 (fun w' => w'.cell? ⟨b, 2, none⟩ = some (.slice (some ⟨g, 0, none⟩) es.length cap) ∧ w'.cell? ⟨g, k * 5, none⟩ = some (.string yv) ∧ w'.cell? ⟨g, k * 5 + 1, none⟩ = some (.string txW) ∧ w'.cell? ⟨w.heap.size, 0, none⟩ = some (.string x) ∧ w'.cell? ⟨w.heap.size, 1, none⟩ = some (.string txW)) (first | exact ⟨c2, cy, cz, bx0, bx1⟩ | go_keep | exact ⟨(g1.cell (p := ⟨b, 2, none⟩) bw).trans c2, (g1.cell (p := ⟨g, k * 5, none⟩) gl).trans cy, (g1.cell (p := ⟨g, k * 5 + 1, none⟩) gl).trans cz, (g1.cell (p := ⟨w.heap.size, 0, none⟩) zs).trans bx0, (g1.cell (p := ⟨w.heap.size, 1, none⟩) zs).trans bx1⟩)
          ((go_at_call 89; refine (SA.out _).mono ?_; rintro e w1 ⟨rfl, g1⟩))
        go_wp2
        go_ret
        exact ⟨k, rfl, .inr ⟨k, y, rfl, HY.out, HV.out.trans HX.out⟩, HB.out.trans ((((Below.refl _ _).drew).trans g1).mono HB.out.size)⟩
      · have K : decide (yv = x) = false := decide_eq_false hyx
        rw [K] at SA
        have HX : Hid (yv ≠ x) := hyx
        clear hyx K
        go_wp2_with fail
        go_region_held3 (fun w' => w'.cell? ⟨b, 2, none⟩ = some (.slice (some ⟨g, 0, none⟩) es.length cap) ∧ w'.cell? ⟨g, k * 5, none⟩ = some (.string yv) ∧ w'.cell? ⟨g, k * 5 + 1, none⟩ = some (.string txW) ∧ w'.cell? ⟨w.heap.size, 0, none⟩ = some (.string x) ∧ w'.cell? ⟨w.heap.size, 1, none⟩ = some (.string txW)) (first | exact ⟨c2, cy, cz, bx0, bx1⟩ | go_keep | exact ⟨(g1.cell (p := ⟨b, 2, none⟩) bw).trans c2, (g1.cell (p := ⟨g, k * 5, none⟩) gl).trans cy, (g1.cell (p := ⟨g, k * 5 + 1, none⟩) gl).trans cz, (g1.cell (p := ⟨w.heap.size, 0, none⟩) zs).trans bx0, (g1.cell (p := ⟨w.heap.size, 1, none⟩) zs).trans bx1⟩)
          ((go_at_call 89; refine (SA.out _).mono ?_; rintro e w1 ⟨rfl, g1⟩))
        go_wp2
        go_roundw
        case rel =>
          refine ⟨k + 1, hlt, by go_num, fun j z hj hz => ?_, HB2.out.trans ((((Below.refl _ _).drew).trans g1).mono HB2.out.size)⟩
          by_cases e : j = k
          · subst e; rw [HY.out] at hz; cases hz; rw [HV.out]; exact HX.out
          · exact HNO.out j z (by omega) hz
        case measure => simp [intOf]; omega
    · have hlt' : ¬ (k : Int) < (es.length : Int) := by omega
      clear hb
      go_wp2
      go_ret
      exact ⟨-1, rfl, .inl ⟨rfl, fun y hy => by obtain ⟨j, hj⟩ := List.getElem?_of_mem hy; exact HNO.out j y (by have := (List.getElem?_eq_some_iff.1 hj).1; omega) hj⟩, HB.out⟩
end Go.Proofs.Ytbfbijfedamgaaa.HW

/- The contract of the heap's swap at hortator/hortatorlaw2.pair. -/
namespace Go.Proofs.Ytbfbijfedamgaaa.HW
open Go.RowKit

set_option maxHeartbeats 1000000 in
theorem swap_any {b : Nat} {room puts : Int} {v : Value} {es : List (Ent ByteArray)} (i j : Nat) (w : World) (h : Raw w b room puts v es) (hi : i < es.length) (hj : j < es.length) (hij : i ≠ j) :
    Calls Try.prog 110 #[.pointer (some ⟨b, 0, none⟩), .int .i64 i, .int .i64 j] w fun e w' => e = .returned (.tuple #[]) ∧ Raw w' b room puts v (swp es i j) ∧ Only (foot b v) w w' := by
  have c2 := h.c2
  have hl := h.few
  rcases h.own.2 with ⟨rfl, hn⟩ | ⟨g, cap, cur, rfl, hg⟩
  · omega
  obtain ⟨x, hx⟩ : ∃ x, es[i]? = some x := ⟨_, List.getElem?_eq_getElem hi⟩
  obtain ⟨y, hy⟩ : ∃ y, es[j]? = some y := ⟨_, List.getElem?_eq_getElem hj⟩
  obtain ⟨a0, a9, a1, a2, a3⟩ := cells5_get hx
  obtain ⟨b0, b9, b1, b2, b3⟩ := cells5_get hy
  have p0 := (h.own.cellAt (i * 5) (by omega)).trans a0
  have p9 := (h.own.cellAt (i * 5 + 1) (by omega)).trans a9
  have p1 := (h.own.cellAt (i * 5 + 2) (by omega)).trans a1
  have p2 := (h.own.cellAt (i * 5 + 3) (by omega)).trans a2
  have p3 := (h.own.cellAt (i * 5 + 4) (by omega)).trans a3
  have q0 := (h.own.cellAt (j * 5) (by omega)).trans b0
  have q9 := (h.own.cellAt (j * 5 + 1) (by omega)).trans b9
  have q1 := (h.own.cellAt (j * 5 + 2) (by omega)).trans b1
  have q2 := (h.own.cellAt (j * 5 + 3) (by omega)).trans b2
  have q3 := (h.own.cellAt (j * 5 + 4) (by omega)).trans b3
  have fz := h.own.frozenAt
  clear a0 a9 a1 a2 a3 b0 b9 b1 b2 b3 hg
  go_enter Try.func110, Try.ntmps110
  go_region
  go_end0
  obtain ⟨r1, o1⟩ := h.put4 i y (h.ok y (List.mem_of_getElem? hy))
  obtain ⟨r2, o2⟩ := r1.put4 j x ((h.ok x (List.mem_of_getElem? hx)).only o1 (fun k hk => .inl hk))
  rw [← swp_eq hx hy] at r2
  exact ⟨rfl, r2.drew, (o1.trans o2 (fun k hk => .inl hk)).drew⟩
end Go.Proofs.Ytbfbijfedamgaaa.HW

/- The contract of the heap's rise at hortator/hortatorlaw2.pair. -/
namespace Go.Proofs.Ytbfbijfedamgaaa.HW
open Go.RowKit

/-- Where a thing lies. -/
theorem Raw.at {w : World} {b g n cap : Nat} {room puts : Int} {es : List (Ent ByteArray)} (h : Raw w b room puts (.slice (some ⟨g, 0, none⟩) n cap) es) {i : Nat} {x : Ent ByteArray} (hx : es[i]? = some x) :
    (w.cell? ⟨g, i * 5, none⟩ = some (.string x.v) ∧ w.cell? ⟨g, i * 5 + 1, none⟩ = some (.string txW)) ∧ w.cell? ⟨g, i * 5 + 2, none⟩ = some (.int .i64 x.a) ∧ w.cell? ⟨g, i * 5 + 3, none⟩ = some (.int .i64 x.b) ∧ w.cell? ⟨g, i * 5 + 4, none⟩ = some (.int .i64 x.t) := by
  have hn : n = es.length := by rcases h.own.2 with ⟨e, _⟩ | ⟨_, _, _, e, _⟩ <;> simp at e; exact e.2.1
  subst hn
  have hi := lt_of_some hx
  obtain ⟨a0, a9, a1, a2, a3⟩ := cells5_get hx
  exact ⟨⟨(h.own.cellAt (i * 5) (by omega)).trans a0, (h.own.cellAt (i * 5 + 1) (by omega)).trans a9⟩, (h.own.cellAt (i * 5 + 2) (by omega)).trans a1, (h.own.cellAt (i * 5 + 3) (by omega)).trans a2, (h.own.cellAt (i * 5 + 4) (by omega)).trans a3⟩
theorem Raw.len {w : World} {b g n cap : Nat} {room puts : Int} {es : List (Ent ByteArray)} (h : Raw w b room puts (.slice (some ⟨g, 0, none⟩) n cap) es) : n = es.length := by
  rcases h.own.2 with ⟨e, _⟩ | ⟨_, _, _, e, _⟩ <;> simp at e; exact e.2.1

theorem lt_of_ltB {x y : Ent ByteArray} (h : ltB x.a x.b x.t y.a y.b y.t = true) : Lt x y := by unfold ltB at h; unfold Lt; simpa using h
theorem le_of_ltB {x y : Ent ByteArray} (h : ltB x.a x.b x.t y.a y.b y.t = false) : Le y x := by unfold ltB at h; unfold Le Lt; simpa using h

set_option maxHeartbeats 2000000 in
theorem rise_any {b : Nat} {room puts : Int} {v : Value} {es : List (Ent ByteArray)} (i : Nat) (w : World) (h : Raw w b room puts v es) (hi : i < es.length) (hn : Near es i) :
    Calls Try.prog 91 #[.pointer (some ⟨b, 0, none⟩), .int .i64 i] w fun e w' => ∃ (k : Nat) (fs : List (Ent ByteArray)), e = .returned (.int .i64 k) ∧ k < fs.length ∧ Down fs k ∧ fs.Perm es ∧ Raw w' b room puts v fs ∧ Only (foot b v) w w' := by
  rcases h.own.2 with ⟨rfl, hz⟩ | ⟨g, cap, cur, hv, -⟩
  · omega
  generalize es.length = n at hv
  subst hv
  go_enter Try.func91, Try.ntmps91
  go_wp2
  go_loopw [1] (fun q wr => ∃ (k : Nat) (fs : List (Ent ByteArray)), q = .int .i64 k ∧ k < fs.length ∧ Near fs k ∧ fs.Perm es ∧ Raw wr b room puts (.slice (some ⟨g, 0, none⟩) n cap) fs ∧ Only (foot b (.slice (some ⟨g, 0, none⟩) n cap)) w wr) (fun q _ => (intOf q).toNat)
  case atStart => exact ⟨i, es, rfl, hi, hn, List.Perm.refl _, h, Only.refl _ _⟩
  case round =>
    obtain ⟨k, fs, rfl, hk, hnear, hperm, hr, hon⟩ := hrel
    have hl := hr.few
    by_cases h0 : 0 < k
    · obtain ⟨m, hm⟩ : ∃ m : Nat, (k - 1) / 2 = m := ⟨_, rfl⟩
      have hm' : ((k : Int) - 1) / 2 = (m : Int) := by omega
      have hmk : m < k := by omega
      have hmn : m < fs.length := by omega
      obtain ⟨x, hx⟩ : ∃ x, fs[k]? = some x := ⟨_, List.getElem?_eq_getElem hk⟩
      obtain ⟨y, hy⟩ : ∃ y, fs[m]? = some y := ⟨_, List.getElem?_eq_getElem hmn⟩
      have c2 := hr.c2
      obtain ⟨-, x1, x2, x3⟩ := hr.at hx
      obtain ⟨-, y1, y2, y3⟩ := hr.at hy
      have bl := hr.lt
      have gl := (hr.gt g rfl).2
      have hlen := hr.len
      have H1 : Hid (Raw wr b room puts (.slice (some ⟨g, 0, none⟩) n cap) fs) := hr
      have H2 : Hid (Near fs k ∧ fs.Perm es ∧ fs[k]? = some x ∧ fs[m]? = some y ∧ (k - 1) / 2 = m ∧ n = fs.length) := ⟨hnear, hperm, hx, hy, hm, hlen⟩
      have hkn : k < n := by omega
      have hmn2 : m < n := by omega
      clear hr hnear hperm hx hy hm h hn hlen
      cases hlt : ltB x.a x.b x.t y.a y.b y.t
      · have K : Hid (ltB x.a x.b x.t y.a y.b y.t = false) := hlt
        clear hlt
        have sb := fun w : World => K.out ▸ before_any x.a x.b x.t y.a y.b y.t w
        go_wp2_with fail
        go_region_held3 (fun w' => w'.cell? ⟨b, 2, none⟩ = some (.slice (some ⟨g, 0, none⟩) n cap) ∧ w'.cell? ⟨g, k * 5 + 2, none⟩ = some (.int .i64 x.a) ∧ w'.cell? ⟨g, k * 5 + 3, none⟩ = some (.int .i64 x.b) ∧ w'.cell? ⟨g, k * 5 + 4, none⟩ = some (.int .i64 x.t) ∧ w'.cell? ⟨g, m * 5 + 2, none⟩ = some (.int .i64 y.a) ∧ w'.cell? ⟨g, m * 5 + 3, none⟩ = some (.int .i64 y.b) ∧ w'.cell? ⟨g, m * 5 + 4, none⟩ = some (.int .i64 y.t)) (go_keep)
          (first | (go_at_call 105; refine (sb _).mono ?_; rintro e w1 ⟨rfl, g1⟩; have d2 := (g1.cell (p := ⟨b, 2, none⟩) bl).trans c2; have dx1 := (g1.cell (p := ⟨g, k * 5 + 2, none⟩) gl).trans x1; have dx2 := (g1.cell (p := ⟨g, k * 5 + 3, none⟩) gl).trans x2; have dx3 := (g1.cell (p := ⟨g, k * 5 + 4, none⟩) gl).trans x3; have dy1 := (g1.cell (p := ⟨g, m * 5 + 2, none⟩) gl).trans y1; have dy2 := (g1.cell (p := ⟨g, m * 5 + 3, none⟩) gl).trans y2; have dy3 := (g1.cell (p := ⟨g, m * 5 + 4, none⟩) gl).trans y3))
        go_wp2
        go_ret
        obtain ⟨a1, a2, a3, a4, a5, a6⟩ := H2.out
        exact ⟨k, fs, rfl, hk, near_down a1 (.inr (by rw [a5]; intro u v hu hv; rw [a4] at hu; rw [a3] at hv; cases hu; cases hv; exact le_of_ltB K.out)), a2, H1.out.drew.below g1, hon.drew.trans (Below.only g1 []) (by simp)⟩
      · have K : Hid (ltB x.a x.b x.t y.a y.b y.t = true) := hlt
        clear hlt
        have sb := fun w : World => K.out ▸ before_any x.a x.b x.t y.a y.b y.t w
        go_wp2_with fail
        go_region_held3 (fun w' => w'.cell? ⟨b, 2, none⟩ = some (.slice (some ⟨g, 0, none⟩) n cap) ∧ w'.cell? ⟨g, k * 5 + 2, none⟩ = some (.int .i64 x.a) ∧ w'.cell? ⟨g, k * 5 + 3, none⟩ = some (.int .i64 x.b) ∧ w'.cell? ⟨g, k * 5 + 4, none⟩ = some (.int .i64 x.t) ∧ w'.cell? ⟨g, m * 5 + 2, none⟩ = some (.int .i64 y.a) ∧ w'.cell? ⟨g, m * 5 + 3, none⟩ = some (.int .i64 y.b) ∧ w'.cell? ⟨g, m * 5 + 4, none⟩ = some (.int .i64 y.t)) (go_keep)
          (first | (go_at_call 105; refine (sb _).mono ?_; rintro e w1 ⟨rfl, g1⟩; have d2 := (g1.cell (p := ⟨b, 2, none⟩) bl).trans c2; have dx1 := (g1.cell (p := ⟨g, k * 5 + 2, none⟩) gl).trans x1; have dx2 := (g1.cell (p := ⟨g, k * 5 + 3, none⟩) gl).trans x2; have dx3 := (g1.cell (p := ⟨g, k * 5 + 4, none⟩) gl).trans x3; have dy1 := (g1.cell (p := ⟨g, m * 5 + 2, none⟩) gl).trans y1; have dy2 := (g1.cell (p := ⟨g, m * 5 + 3, none⟩) gl).trans y2; have dy3 := (g1.cell (p := ⟨g, m * 5 + 4, none⟩) gl).trans y3))
        go_wp2_with (go_at_call 110; refine (swap_any k m _ (H1.out.drew.below g1) hk hmn (by omega)).mono ?_; rintro e w2 ⟨rfl, r2, o2⟩)
        go_roundw
        case rel =>
          obtain ⟨a1, a2, a3, a4, a5, a6⟩ := H2.out
          subst a5
          exact ⟨_, swp fs k ((k - 1) / 2), rfl, by rw [swp_length]; omega, near_rise a1 h0 a3 a4 (lt_of_ltB K.out), (swp_perm _ _ _).trans a2, r2, (hon.drew.trans (Below.only g1 []) (by simp)).trans o2 (fun k hk => .inl hk)⟩
        case measure => simp [intOf]; omega
    · have hk0 : k = 0 := by omega
      subst hk0
      go_wp2
      go_ret
      exact ⟨0, fs, rfl, hk, near_down hnear (.inl rfl), hperm, hr, hon⟩
end Go.Proofs.Ytbfbijfedamgaaa.HW

/- The contract of the heap's sink at hortator/hortatorlaw2.pair. -/
namespace Go.Proofs.Ytbfbijfedamgaaa.HW
open Go.RowKit

/-- Behind j of the two below the one at k: the first of it and them stands at l. -/
structure SinkL (fs : List (Ent ByteArray)) (k j l : Nat) : Prop where
  from_ : l = k ∨ 0 < l ∧ (l - 1) / 2 = k
  ahead : ∀ x y, l ≠ k → fs[l]? = some x → fs[k]? = some y → Lt x y
  all : ∀ c, 0 < c → (c - 1) / 2 = k → c ≤ 2 * k + j → At fs l c
theorem sinkL_start {fs : List (Ent ByteArray)} (k : Nat) : SinkL fs k 0 k := ⟨.inl rfl, fun _ _ h => absurd rfl h, fun c h1 h2 h3 => by omega⟩
theorem sinkL_stay {fs : List (Ent ByteArray)} {k j l c : Nat} {y z : Ent ByteArray} (h : SinkL fs k j l) (hy : fs[l]? = some y) (hz : fs[c]? = some z) (hc : c = 2 * k + 1 + j) (hle : Le y z) : SinkL fs k (j + 1) l :=
  ⟨h.from_, h.ahead, fun d h1 h2 h3 => by
    by_cases e : d = c
    · subst e; intro u v hu hv; rw [hy] at hu; rw [hz] at hv; cases hu; cases hv; exact hle
    · exact h.all d h1 h2 (by omega)⟩
theorem sinkL_turn {fs : List (Ent ByteArray)} {k j l c : Nat} {y z : Ent ByteArray} (h : SinkL fs k j l) (hy : fs[l]? = some y) (hz : fs[c]? = some z) (hc : c = 2 * k + 1 + j) (hlt : Lt z y) (hj : j ≤ 1 := by omega) : SinkL fs k (j + 1) c := by
  refine ⟨.inr ⟨by omega, by omega⟩, fun u v _ hu hv => ?_, fun d h1 h2 h3 => ?_⟩
  · rw [hz] at hu; cases hu
    by_cases e : l = k
    · subst e; rw [hy] at hv; cases hv; exact hlt
    · have := h.ahead y v e hy hv; unfold Lt at *; omega
  · by_cases e : d = c
    · subst e; intro u v hu hv; rw [hu] at hv; cases hv; exact Le.refl _
    · intro u v hu hv; rw [hz] at hu; cases hu; exact hlt.le.trans (h.all d h1 h2 (by omega) y v hy hv)
theorem sinkL_past {fs : List (Ent ByteArray)} {k j l c : Nat} (h : SinkL fs k j l) (hn : fs.length ≤ c) (hc : c = 2 * k + 1 + j) : SinkL fs k (j + 1) l :=
  ⟨h.from_, h.ahead, fun d h1 h2 h3 => by
    by_cases e : d = c
    · subst e; intro u v hu hv; have := lt_of_some hv; omega
    · exact h.all d h1 h2 (by omega)⟩

theorem ix0 (x y : Int) (w : World) : (Instr.index 69 (.agg #[.int .i64 x, .int .i64 y]) (.int .i64 0)).run Try.prog w = .ok (.int .i64 x) w := by kernel_rfl
theorem ix1 (x y : Int) (w : World) : (Instr.index 69 (.agg #[.int .i64 x, .int .i64 y]) (.int .i64 1)).run Try.prog w = .ok (.int .i64 y) w := by kernel_rfl

set_option maxHeartbeats 4000000 in
set_option maxRecDepth 100000 in
theorem sink_any {b : Nat} {room puts : Int} {v : Value} {es : List (Ent ByteArray)} (i : Nat) (w : World) (h : Raw w b room puts v es) (hi : i < es.length) (hd : Down es i) :
    Calls Try.prog 90 #[.pointer (some ⟨b, 0, none⟩), .int .i64 i] w fun e w' => ∃ fs : List (Ent ByteArray), e = .returned (.tuple #[]) ∧ Heap fs ∧ fs.Perm es ∧ Raw w' b room puts v fs ∧ Only (foot b v) w w' := by
  rcases h.own.2 with ⟨rfl, hz⟩ | ⟨g, cap, cur, hv, -⟩
  · omega
  generalize es.length = n at hv
  subst hv
  go_enter Try.func90, Try.ntmps90
  go_wp2
  go_loopw [1] (fun q wr => ∃ (k : Nat) (fs : List (Ent ByteArray)), q = .int .i64 k ∧ k < n ∧ Down fs k ∧ fs.Perm es ∧ Raw wr b room puts (.slice (some ⟨g, 0, none⟩) n cap) fs ∧ Only (foot b (.slice (some ⟨g, 0, none⟩) n cap)) w wr) (fun q _ => n - (intOf q).toNat)
  case atStart => exact ⟨i, es, rfl, by rw [h.len]; exact hi, hd, List.Perm.refl _, h, Only.refl _ _⟩
  case round =>
    obtain ⟨k, fs, rfl, hk, hdown, hperm, hr, hon⟩ := hrel
    have hl := hr.few
    have hlen := hr.len
    obtain ⟨cl, hc1⟩ : ∃ c : Nat, c = 2 * k + 1 := ⟨_, rfl⟩
    obtain ⟨cr, hc2⟩ : ∃ c : Nat, c = 2 * k + 2 := ⟨_, rfl⟩
    have E1 : 2 * (k : Int) + 1 = (cl : Int) := by omega
    have E2 : 2 * (k : Int) + 2 = (cr : Int) := by omega
    have E : Hid (True ∧ cl = 2 * k + 1 + 0 ∧ cr = 2 * k + 1 + 1) := ⟨trivial, hc1, hc2⟩
    have H2 : Hid (Down fs k ∧ fs.Perm es) := ⟨hdown, hperm⟩
    have hn1 : n ≤ 1000 := by omega
    have HN : Hid (n = fs.length) := hlen
    clear hc1 hc2 hdown hperm h hd hi hlen
    go_wp2
    go_loopw [4, 15] (fun sl sj wr2 => ∃ j l : Nat, j ≤ 2 ∧ sj = .int .i64 j ∧ sl = .int .i64 l ∧ l < n ∧ SinkL fs k j l ∧ Raw wr2 b room puts (.slice (some ⟨g, 0, none⟩) n cap) fs ∧ Only (foot b (.slice (some ⟨g, 0, none⟩) n cap)) w wr2) (fun _ sj _ => 2 - (intOf sj).toNat)
    case atStart => exact ⟨0, k, by omega, rfl, rfl, hk, sinkL_start k, hr, hon⟩
    case round =>
      obtain ⟨j, l, hj, rfl, rfl, hln, hL, hr2, hon2⟩ := hrel
      obtain ⟨y, hy⟩ : ∃ y, fs[l]? = some y := ⟨_, List.getElem?_eq_getElem (by have := HN.out; omega)⟩
      clear hr hon E1 E2
      have ix0 := ix0 cl cr
      have ix1 := ix1 cl cr
      rcases (by omega : j = 0 ∨ j = 1 ∨ j = 2) with rfl | rfl | rfl
      · -- the one below at cl
        by_cases hcn : cl < n
        · obtain ⟨z, hz⟩ : ∃ z, fs[cl]? = some z := ⟨_, List.getElem?_eq_getElem (by have := HN.out; omega)⟩
          obtain ⟨-, z1, z2, z3⟩ := hr2.at hz
          obtain ⟨-, y1, y2, y3⟩ := hr2.at hy
          have c2 := hr2.c2
          have bl := hr2.lt
          have gl := (hr2.gt g rfl).2
          have H3 : Hid (Raw wr b room puts (.slice (some ⟨g, 0, none⟩) n cap) fs) := hr2
          have H4 : Hid (fs[l]? = some y ∧ fs[cl]? = some z) := ⟨hy, hz⟩
          have hcn' : (cl : Int) < (n : Int) := by omega
          have hcd : decide ((cl : Int) < (n : Int)) = true := decide_eq_true hcn'
          clear hr2 hy hz
          cases hlt : ltB z.a z.b z.t y.a y.b y.t
          · have K : Hid (ltB z.a z.b z.t y.a y.b y.t = false) := hlt
            clear hlt
            have sb := fun w : World => K.out ▸ before_any z.a z.b z.t y.a y.b y.t w
            go_wp2_with fail
            go_region_held3 (fun w' => w'.cell? ⟨b, 2, none⟩ = some (.slice (some ⟨g, 0, none⟩) n cap) ∧ w'.cell? ⟨g, cl * 5 + 2, none⟩ = some (.int .i64 z.a) ∧ w'.cell? ⟨g, cl * 5 + 3, none⟩ = some (.int .i64 z.b) ∧ w'.cell? ⟨g, cl * 5 + 4, none⟩ = some (.int .i64 z.t) ∧ w'.cell? ⟨g, l * 5 + 2, none⟩ = some (.int .i64 y.a) ∧ w'.cell? ⟨g, l * 5 + 3, none⟩ = some (.int .i64 y.b) ∧ w'.cell? ⟨g, l * 5 + 4, none⟩ = some (.int .i64 y.t)) (go_keep)
              (first | (go_at_call 105; refine (sb _).mono ?_; rintro e w1 ⟨rfl, g1⟩; have d2 := (g1.cell (p := ⟨b, 2, none⟩) bl).trans c2; have dz1 := (g1.cell (p := ⟨g, cl * 5 + 2, none⟩) gl).trans z1; have dz2 := (g1.cell (p := ⟨g, cl * 5 + 3, none⟩) gl).trans z2; have dz3 := (g1.cell (p := ⟨g, cl * 5 + 4, none⟩) gl).trans z3; have dy1 := (g1.cell (p := ⟨g, l * 5 + 2, none⟩) gl).trans y1; have dy2 := (g1.cell (p := ⟨g, l * 5 + 3, none⟩) gl).trans y2; have dy3 := (g1.cell (p := ⟨g, l * 5 + 4, none⟩) gl).trans y3))
            go_wp2
            go_roundw
            case rel =>
              exact ⟨0 + 1, l, by omega, by go_num, rfl, hln, sinkL_stay hL H4.out.1 H4.out.2 (E.out.2.1) (le_of_ltB K.out), H3.out.drew.below g1, hon2.drew.trans (Below.only g1 []) (by simp)⟩
            case measure => simp [intOf]
          · have K : Hid (ltB z.a z.b z.t y.a y.b y.t = true) := hlt
            clear hlt
            have sb := fun w : World => K.out ▸ before_any z.a z.b z.t y.a y.b y.t w
            go_wp2_with fail
            go_region_held3 (fun w' => w'.cell? ⟨b, 2, none⟩ = some (.slice (some ⟨g, 0, none⟩) n cap) ∧ w'.cell? ⟨g, cl * 5 + 2, none⟩ = some (.int .i64 z.a) ∧ w'.cell? ⟨g, cl * 5 + 3, none⟩ = some (.int .i64 z.b) ∧ w'.cell? ⟨g, cl * 5 + 4, none⟩ = some (.int .i64 z.t) ∧ w'.cell? ⟨g, l * 5 + 2, none⟩ = some (.int .i64 y.a) ∧ w'.cell? ⟨g, l * 5 + 3, none⟩ = some (.int .i64 y.b) ∧ w'.cell? ⟨g, l * 5 + 4, none⟩ = some (.int .i64 y.t)) (go_keep)
              (first | (go_at_call 105; refine (sb _).mono ?_; rintro e w1 ⟨rfl, g1⟩; have d2 := (g1.cell (p := ⟨b, 2, none⟩) bl).trans c2; have dz1 := (g1.cell (p := ⟨g, cl * 5 + 2, none⟩) gl).trans z1; have dz2 := (g1.cell (p := ⟨g, cl * 5 + 3, none⟩) gl).trans z2; have dz3 := (g1.cell (p := ⟨g, cl * 5 + 4, none⟩) gl).trans z3; have dy1 := (g1.cell (p := ⟨g, l * 5 + 2, none⟩) gl).trans y1; have dy2 := (g1.cell (p := ⟨g, l * 5 + 3, none⟩) gl).trans y2; have dy3 := (g1.cell (p := ⟨g, l * 5 + 4, none⟩) gl).trans y3))
            go_wp2
            go_roundw
            case rel =>
              exact ⟨0 + 1, cl, by omega, by go_num, rfl, hcn, sinkL_turn hL H4.out.1 H4.out.2 (E.out.2.1) (lt_of_ltB K.out), H3.out.drew.below g1, hon2.drew.trans (Below.only g1 []) (by simp)⟩
            case measure => simp [intOf]
        · have hcn' : decide ((cl : Int) < (n : Int)) = false := decide_eq_false (by omega)
          have c2 := hr2.c2
          have H3 : Hid (Raw wr b room puts (.slice (some ⟨g, 0, none⟩) n cap) fs) := hr2
          clear hr2 hy
          go_wp2_with fail
          go_quiet (fail)
          go_wp2
          go_roundw
          case rel =>
            exact ⟨0 + 1, l, by omega, by go_num, rfl, hln, sinkL_past hL (by have := HN.out; omega) (E.out.2.1), H3.out.below (below_drewN _ _), hon2.trans (Below.only (below_drewN _ _) []) (by simp)⟩
          case measure => simp [intOf]
      · -- the one below at cr
        by_cases hcn : cr < n
        · obtain ⟨z, hz⟩ : ∃ z, fs[cr]? = some z := ⟨_, List.getElem?_eq_getElem (by have := HN.out; omega)⟩
          obtain ⟨-, z1, z2, z3⟩ := hr2.at hz
          obtain ⟨-, y1, y2, y3⟩ := hr2.at hy
          have c2 := hr2.c2
          have bl := hr2.lt
          have gl := (hr2.gt g rfl).2
          have H3 : Hid (Raw wr b room puts (.slice (some ⟨g, 0, none⟩) n cap) fs) := hr2
          have H4 : Hid (fs[l]? = some y ∧ fs[cr]? = some z) := ⟨hy, hz⟩
          have hcn' : (cr : Int) < (n : Int) := by omega
          have hcd : decide ((cr : Int) < (n : Int)) = true := decide_eq_true hcn'
          clear hr2 hy hz
          cases hlt : ltB z.a z.b z.t y.a y.b y.t
          · have K : Hid (ltB z.a z.b z.t y.a y.b y.t = false) := hlt
            clear hlt
            have sb := fun w : World => K.out ▸ before_any z.a z.b z.t y.a y.b y.t w
            go_wp2_with fail
            go_region_held3 (fun w' => w'.cell? ⟨b, 2, none⟩ = some (.slice (some ⟨g, 0, none⟩) n cap) ∧ w'.cell? ⟨g, cr * 5 + 2, none⟩ = some (.int .i64 z.a) ∧ w'.cell? ⟨g, cr * 5 + 3, none⟩ = some (.int .i64 z.b) ∧ w'.cell? ⟨g, cr * 5 + 4, none⟩ = some (.int .i64 z.t) ∧ w'.cell? ⟨g, l * 5 + 2, none⟩ = some (.int .i64 y.a) ∧ w'.cell? ⟨g, l * 5 + 3, none⟩ = some (.int .i64 y.b) ∧ w'.cell? ⟨g, l * 5 + 4, none⟩ = some (.int .i64 y.t)) (go_keep)
              (first | (go_at_call 105; refine (sb _).mono ?_; rintro e w1 ⟨rfl, g1⟩; have d2 := (g1.cell (p := ⟨b, 2, none⟩) bl).trans c2; have dz1 := (g1.cell (p := ⟨g, cr * 5 + 2, none⟩) gl).trans z1; have dz2 := (g1.cell (p := ⟨g, cr * 5 + 3, none⟩) gl).trans z2; have dz3 := (g1.cell (p := ⟨g, cr * 5 + 4, none⟩) gl).trans z3; have dy1 := (g1.cell (p := ⟨g, l * 5 + 2, none⟩) gl).trans y1; have dy2 := (g1.cell (p := ⟨g, l * 5 + 3, none⟩) gl).trans y2; have dy3 := (g1.cell (p := ⟨g, l * 5 + 4, none⟩) gl).trans y3))
            go_wp2
            go_roundw
            case rel =>
              exact ⟨1 + 1, l, by omega, by go_num, rfl, hln, sinkL_stay hL H4.out.1 H4.out.2 (E.out.2.2) (le_of_ltB K.out), H3.out.drew.below g1, hon2.drew.trans (Below.only g1 []) (by simp)⟩
            case measure => simp [intOf]
          · have K : Hid (ltB z.a z.b z.t y.a y.b y.t = true) := hlt
            clear hlt
            have sb := fun w : World => K.out ▸ before_any z.a z.b z.t y.a y.b y.t w
            go_wp2_with fail
            go_region_held3 (fun w' => w'.cell? ⟨b, 2, none⟩ = some (.slice (some ⟨g, 0, none⟩) n cap) ∧ w'.cell? ⟨g, cr * 5 + 2, none⟩ = some (.int .i64 z.a) ∧ w'.cell? ⟨g, cr * 5 + 3, none⟩ = some (.int .i64 z.b) ∧ w'.cell? ⟨g, cr * 5 + 4, none⟩ = some (.int .i64 z.t) ∧ w'.cell? ⟨g, l * 5 + 2, none⟩ = some (.int .i64 y.a) ∧ w'.cell? ⟨g, l * 5 + 3, none⟩ = some (.int .i64 y.b) ∧ w'.cell? ⟨g, l * 5 + 4, none⟩ = some (.int .i64 y.t)) (go_keep)
              (first | (go_at_call 105; refine (sb _).mono ?_; rintro e w1 ⟨rfl, g1⟩; have d2 := (g1.cell (p := ⟨b, 2, none⟩) bl).trans c2; have dz1 := (g1.cell (p := ⟨g, cr * 5 + 2, none⟩) gl).trans z1; have dz2 := (g1.cell (p := ⟨g, cr * 5 + 3, none⟩) gl).trans z2; have dz3 := (g1.cell (p := ⟨g, cr * 5 + 4, none⟩) gl).trans z3; have dy1 := (g1.cell (p := ⟨g, l * 5 + 2, none⟩) gl).trans y1; have dy2 := (g1.cell (p := ⟨g, l * 5 + 3, none⟩) gl).trans y2; have dy3 := (g1.cell (p := ⟨g, l * 5 + 4, none⟩) gl).trans y3))
            go_wp2
            go_roundw
            case rel =>
              exact ⟨1 + 1, cr, by omega, by go_num, rfl, hcn, sinkL_turn hL H4.out.1 H4.out.2 (E.out.2.2) (lt_of_ltB K.out), H3.out.drew.below g1, hon2.drew.trans (Below.only g1 []) (by simp)⟩
            case measure => simp [intOf]
        · have hcn' : decide ((cr : Int) < (n : Int)) = false := decide_eq_false (by omega)
          have c2 := hr2.c2
          have H3 : Hid (Raw wr b room puts (.slice (some ⟨g, 0, none⟩) n cap) fs) := hr2
          clear hr2 hy
          go_wp2_with fail
          go_quiet (fail)
          go_wp2
          go_roundw
          case rel =>
            exact ⟨1 + 1, l, by omega, by go_num, rfl, hln, sinkL_past hL (by have := HN.out; omega) (E.out.2.2), H3.out.below (below_drewN _ _), hon2.trans (Below.only (below_drewN _ _) []) (by simp)⟩
          case measure => simp [intOf]
      · have HL : Hid (SinkL fs k 2 l) := hL
        clear hL
        by_cases hlk : l = k
        · subst hlk
          go_wp2
          refine bodyPost_ret (results_none rfl _ _ _) rfl ?_
          exact ⟨fs, rfl, down_heap H2.out.1 (fun c h1 h2 => HL.out.all c h1 h2 (by omega)), H2.out.2, hr2, hon2⟩
        · have hlk' : ¬ (l : Int) = (k : Int) := by omega
          go_wp2_with (go_at_call 110; refine (swap_any k l _ hr2 (by have := HN.out; omega) (by have := HN.out; omega) (by omega)).mono ?_; rintro e w2 ⟨rfl, r2, o2⟩)
          go_roundw
          case rel =>
            obtain ⟨q1, q2⟩ : 0 < l ∧ (l - 1) / 2 = k := by rcases HL.out.from_ with e | e; exact absurd e hlk; exact e
            obtain ⟨x, hx⟩ : ∃ x, fs[k]? = some x := ⟨_, List.getElem?_eq_getElem (by have := HN.out; omega)⟩
            exact ⟨l, swp fs k l, rfl, hln, down_sink H2.out.1 q1 q2 hx hy (HL.out.ahead _ _ hlk hy hx) (fun c h1 h2 => HL.out.all c h1 h2 (by omega)), (swp_perm _ _ _).trans H2.out.2, r2, hon2.trans o2 (fun k hk => .inl hk)⟩
          case measure =>
            have q : 0 < l ∧ (l - 1) / 2 = k := by rcases HL.out.from_ with e | e; exact absurd e hlk; exact e
            simp [intOf]; omega
end Go.Proofs.Ytbfbijfedamgaaa.HW

/- The heap of hortator/hortatorlaw2.pair as the chapter has it; the contracts of New, First and settle; what the stores of Put do. -/
namespace Go.Proofs.Ytbfbijfedamgaaa.HW
open Go.RowKit

set_option maxHeartbeats 400000 in
theorem settle_any {b : Nat} {room puts : Int} {v : Value} {es : List (Ent ByteArray)} (i : Nat) (w : World) (h : Raw w b room puts v es) (hi : i < es.length) (hn : Near es i) :
    Calls Try.prog 63 #[.pointer (some ⟨b, 0, none⟩), .int .i64 i] w fun e w' => ∃ fs : List (Ent ByteArray), e = .returned (.tuple #[]) ∧ Heap fs ∧ fs.Perm es ∧ Raw w' b room puts v fs ∧ Only (foot b v) w w' := by
  go_enter Try.func63, Try.ntmps63
  go_wp2_with (first | (go_at_call 91; refine (rise_any i _ h hi hn).mono ?_; rintro e w1 ⟨k, fs, rfl, hk, hd, hp, hr, ho⟩) | (go_at_call 90; refine (sink_any k _ hr hk hd).mono ?_; rintro e w2 ⟨gs, rfl, hh, hp2, hr2, ho2⟩))
  go_end0
  exact ⟨gs, rfl, hh, hp2.trans hp, hr2, ho.trans ho2 (fun k hk => .inl hk)⟩

/-- The heap as the chapter has it: its things in the order in which they were put. -/
def Heaps (w : World) (b : Nat) (room puts : Int) (v : Value) (l : List (Ent ByteArray)) : Prop :=
  ∃ es, Raw w b room puts v es ∧ Heap es ∧ es.Perm l ∧ Items l puts ∧ 0 ≤ room ∧ room ≤ 1000 ∧ (l.length : Int) ≤ room

theorem Heaps.below {w w' : World} {b : Nat} {room puts : Int} {v : Value} {l : List (Ent ByteArray)} (h : Heaps w b room puts v l) (g : Below w.heap.size w w') : Heaps w' b room puts v l := by
  obtain ⟨es, h1, h2⟩ := h
  exact ⟨es, h1.below g, h2⟩
theorem Heaps.lt {w : World} {b : Nat} {room puts : Int} {v : Value} {l : List (Ent ByteArray)} (h : Heaps w b room puts v l) : b < w.heap.size := by
  obtain ⟨es, h1, _⟩ := h
  exact h1.lt
theorem Heaps.foot_lt {w : World} {b : Nat} {room puts : Int} {v : Value} {l : List (Ent ByteArray)} (h : Heaps w b room puts v l) : ∀ k ∈ foot b v, k < w.heap.size := by
  obtain ⟨es, h1, _⟩ := h
  exact h1.foot_lt
theorem Heaps.foot_ge {w : World} {b : Nat} {room puts : Int} {v : Value} {l : List (Ent ByteArray)} (h : Heaps w b room puts v l) : ∀ k ∈ foot b v, b ≤ k := by
  obtain ⟨es, h1, _⟩ := h
  intro k hk
  simp only [foot, List.mem_cons, Option.mem_toList] at hk
  rcases hk with rfl | hk
  · exact Nat.le_refl _
  · exact Nat.le_of_lt (h1.gt k hk).1

/-- From nought to a thousand. -/
def roomV (n : Int) : Int := max 0 (min n 1000)
theorem roomV_bd (n : Int) : 0 ≤ roomV n ∧ roomV n ≤ 1000 := by unfold roomV; omega

set_option maxHeartbeats 400000 in
theorem new_any (n : Int) (w : World) (h1 : -9223372036854775808 ≤ n) (h2 : n ≤ 9223372036854775807) :
    Calls Try.prog 23 #[.int .i64 n] w fun e w' => e = .returned (.pointer (some ⟨w.heap.size, 0, none⟩)) ∧ Heaps w' w.heap.size (roomV n) 0 (.slice none 0 0) [] ∧ Below w.heap.size w w' := by
  have hb := roomV_bd n
  have HB : Hid (0 ≤ roomV n ∧ roomV n ≤ 1000) := hb
  clear hb
  have fin : ∀ r : Int, r = roomV n → Heaps (w.alloc (.cells #[.int .i64 r, .int .i64 0, .slice none 0 0] 99)) w.heap.size (roomV n) 0 (.slice none 0 0) [] := by
    intro r hr
    subst hr
    exact ⟨[], ⟨heap_alloc_new _ _, World.ownsRow_nil _ _ _ _, by simp, by simp⟩, heap_nil, List.Perm.refl _, Items.nil _, HB.out.1, HB.out.2, by simpa using HB.out.1⟩
  rcases (by omega : n < 0 ∨ (0 ≤ n ∧ n ≤ 1000) ∨ 1000 < n) with h | h | h
  · have K : Hid (0 = roomV n) := by show _ = _; unfold roomV; omega
    go_enter Try.func23, Try.ntmps23
    go_wp2
    go_ret
    exact ⟨rfl, fin _ K.out, (Below.refl _ _).alloc (Nat.le_refl _) _⟩
  · have K : Hid (n = roomV n) := by show _ = _; unfold roomV; omega
    go_enter Try.func23, Try.ntmps23
    go_wp2
    go_ret
    exact ⟨rfl, fin _ K.out, (Below.refl _ _).alloc (Nat.le_refl _) _⟩
  · have K : Hid (1000 = roomV n) := by show _ = _; unfold roomV; omega
    go_enter Try.func23, Try.ntmps23
    go_wp2
    go_ret
    exact ⟨rfl, fin _ K.out, (Below.refl _ _).alloc (Nat.le_refl _) _⟩

theorem Raw.slice {w : World} {b : Nat} {room puts : Int} {v : Value} {es : List (Ent ByteArray)} (h : Raw w b room puts v es) : ∃ a cap, v = .slice a es.length cap := by
  rcases h.own.2 with ⟨rfl, hn⟩ | ⟨g, cap, cur, rfl, _⟩
  · exact ⟨none, 0, by rw [hn]⟩
  · exact ⟨_, _, rfl⟩

set_option maxHeartbeats 400000 in
theorem first_none {b : Nat} {room puts : Int} {v : Value} (w : World) (h : Heaps w b room puts v []) :
    Calls Try.prog 65 #[.pointer (some ⟨b, 0, none⟩)] w fun e w' => e = .returned (.tuple #[.agg #[.string ⟨#[]⟩, .string ⟨#[]⟩], .bool false]) ∧ Below w.heap.size w w' := by
  obtain ⟨es, hr, hh, hp, hi, -⟩ := h
  have he : es = [] := List.Perm.eq_nil hp
  subst he
  have h1 := hr.below ((Below.refl _ _).alloc (Nat.le_refl _) (.cells #[.string ⟨#[]⟩, .string ⟨#[]⟩] 48))
  go_enter Try.func65, Try.ntmps65
  go_wp2_with (go_at_call 88; refine (len_any _ h1).mono ?_; rintro e w' ⟨rfl, hw⟩; subst w')
  refine bodyPost_ret (v := .tuple #[.agg #[.string ⟨#[]⟩, .string ⟨#[]⟩], .bool false]) (by simp [results, Try.results65, go_sem]) rfl ⟨rfl, ?_⟩
  first
    | exact ((Below.refl _ _).alloc (Nat.le_refl _) _).alloc (by simp) _
    | exact (((Below.refl _ _).alloc (Nat.le_refl _) _).alloc (by simp) _).setCell (by simp) _
    | exact ((((Below.refl _ _).alloc (Nat.le_refl _) _).alloc (by simp) _).setCell (by simp) _).setCell (by simp) _

set_option maxHeartbeats 400000 in
theorem first_raw {b : Nat} {room puts : Int} {v : Value} {es : List (Ent ByteArray)} {x : Ent ByteArray} (w : World) (hr : Raw w b room puts v es) (hx : es[0]? = some x) :
    Calls Try.prog 65 #[.pointer (some ⟨b, 0, none⟩)] w fun e w' => e = .returned (.tuple #[.agg #[.string x.v, .string txW], .bool true]) ∧ Below w.heap.size w w' := by
  have h1 := hr.below ((Below.refl _ _).alloc (Nat.le_refl _) (.cells #[.string ⟨#[]⟩, .string ⟨#[]⟩] 48))
  have hpos := lt_of_some hx
  rcases hr.own.2 with ⟨rfl, hn⟩ | ⟨g, cap, cur, hv, hgb, hg, -⟩
  · omega
  have gl := (Array.getElem?_eq_some_iff.1 hg).1
  have bl := hr.lt
  have hlen := hr.few
  subst hv
  have c2 := hr.c2
  obtain ⟨cx, cx9⟩ := (hr.at hx).1
  simp only [Nat.zero_mul, Nat.zero_add] at cx cx9
  have hne : ¬ es.length = 0 := by omega
  clear hx hg
  go_enter Try.func65, Try.ntmps65
  go_wp2_with (go_at_call 88; refine (len_any _ h1).mono ?_; rintro e w' ⟨rfl, hw⟩; subst w')
  refine bodyPost_ret (v := .tuple #[.agg #[.string x.v, .string txW], .bool true]) (by simp [results, Try.results65, go_sem]) rfl ⟨rfl, ?_⟩
  first
    | exact (Below.refl _ _).alloc (Nat.le_refl _) _
    | exact (((Below.refl _ _).alloc (Nat.le_refl _) _).setCell (by simp) _).setCell (by simp) _
theorem Heaps.top {w : World} {b : Nat} {room puts : Int} {v : Value} {l : List (Ent ByteArray)} (h : Heaps w b room puts v l) (hl : l ≠ []) : ∃ es x, Raw w b room puts v es ∧ Heap es ∧ es.Perm l ∧ Items l puts ∧ 0 ≤ room ∧ room ≤ 1000 ∧ (l.length : Int) ≤ room ∧ es[0]? = some x ∧ IsFirst l x := by
  obtain ⟨es, hr, hh, hp, r⟩ := h
  have hpos : 0 < es.length := by
    rcases Nat.eq_zero_or_pos es.length with e | e
    · have := hp.length_eq; exact absurd (List.eq_nil_of_length_eq_zero (by omega)) hl
    · exact e
  exact ⟨es, es[0], hr, hh, hp, r.1, r.2.1, r.2.2.1, r.2.2.2, List.getElem?_eq_getElem hpos, (heap_isFirst hh (List.getElem?_eq_getElem hpos)).perm hp⟩
theorem first_some {b : Nat} {room puts : Int} {v : Value} {l : List (Ent ByteArray)} (w : World) (h : Heaps w b room puts v l) (hl : l ≠ []) :
    Calls Try.prog 65 #[.pointer (some ⟨b, 0, none⟩)] w fun e w' => ∃ x, IsFirst l x ∧ e = .returned (.tuple #[.agg #[.string x.v, .string txW], .bool true]) ∧ Below w.heap.size w w' := by
  obtain ⟨es, x, hr, _, _, _, _, _, _, hx, hf⟩ := h.top hl
  exact (first_raw w hr hx).mono fun e w' ⟨he, hw⟩ => ⟨x, hf, he, hw⟩
theorem heap_len {b : Nat} {room puts : Int} {v : Value} {l : List (Ent ByteArray)} (w : World) (h : Heaps w b room puts v l) :
    Calls Try.prog 88 #[.pointer (some ⟨b, 0, none⟩)] w fun e w' => e = .returned (.int .i64 l.length) ∧ w' = w := by
  obtain ⟨es, hr, _, hp, _⟩ := h
  exact hp.length_eq ▸ len_any w hr
end Go.Proofs.Ytbfbijfedamgaaa.HW

/- A heap of int among a few things; the order in which things come. -/
namespace Go.Proofs.Ytbfbijfedamgaaa.HI
open Go.RowKit
theorem keeps {b : Nat} {room puts : Int} {v : Value} {l : List (Ent Int)} : Stays (foot b v) (fun u => Heaps u b room puts v l) := by
  intro w w' S h g hS
  obtain ⟨es, r, x⟩ := h
  exact ⟨es, r.only g hS (fun _ _ => trivial), x⟩
theorem few_put {W w w' : World} {b : Nat} {room puts puts' : Int} {v v' : Value} {l l' : List (Ent Int)} {fs : List Thing} (m : Few W fs w) (i : Nat) (hi : fs[i]? = some (foot b v, fun u => Heaps u b room puts v l)) (h : Heaps w' b room puts' v' l') (o : Only (foot b v) w w') (f : ∀ k ∈ foot b v', k ∈ foot b v ∨ w.heap.size ≤ k) : Few W (fs.set i (foot b v', fun u => Heaps u b room puts' v' l')) w' := by
  have e : (fs.getD i nothing).1 = foot b v := by simp [List.getD, hi]
  exact m.turn i (List.getElem?_eq_some_iff.1 hi).1 (by rw [e]; exact o) h h.foot_lt (by rw [e]; exact f) keeps
theorem few_set {W w w' : World} {b : Nat} {room puts puts' : Int} {v v' : Value} {l l' : List (Ent Int)} {fs : List Thing} (m : Few W fs w) (i : Nat) (hi : fs[i]? = some (foot b v, fun u => Heaps u b room puts v l)) (h : Heaps w' b room puts' v' l') (o : Only (foot b v) w w') (f : foot b v' = foot b v) : Few W (fs.set i (foot b v', fun u => Heaps u b room puts' v' l')) w' :=
  few_put m i hi h o (fun _ hk => .inl (f ▸ hk))
theorem Heaps.items {w : World} {b : Nat} {room puts : Int} {v : Value} {l : List (Ent Int)} (h : Heaps w b room puts v l) : Items l puts := by
  obtain ⟨es, _, _, _, hi, _⟩ := h
  exact hi
end Go.Proofs.Ytbfbijfedamgaaa.HI

/- The document's own heap (a plain list) in memory; the contracts of NewHeap, at, first, First, Key. -/
namespace Go.Proofs.Ytbfbijfedamgaaa.RH
open Go.RowKit
def cells3 (l : List (Ent Int)) : List Value := l.flatMap fun e => [.int .i64 e.v, .int .i64 e.a, .int .i64 e.b]
theorem cells3_length (l : List (Ent Int)) : (cells3 l).length = l.length * 3 := by
  induction l with
  | nil => rfl
  | cons e l ih => simp only [cells3, List.flatMap_cons, List.length_append] at *; rw [ih]; simp; omega
theorem cells3_append (l m : List (Ent Int)) : cells3 (l ++ m) = cells3 l ++ cells3 m := by simp [cells3]
theorem cells3_get {l : List (Ent Int)} {i : Nat} {x : Ent Int} (h : l[i]? = some x) :
    (cells3 l)[i * 3]? = some (.int .i64 x.v) ∧ (cells3 l)[i * 3 + 1]? = some (.int .i64 x.a) ∧ (cells3 l)[i * 3 + 2]? = some (.int .i64 x.b) := by
  induction l generalizing i with
  | nil => simp at h
  | cons e l ih =>
    cases i with
    | zero => simp at h; subst h; simp [cells3]
    | succ i =>
      simp at h
      have := ih h
      rw [show (i + 1) * 3 = i * 3 + 3 by omega]
      simpa [cells3, Nat.add_right_comm _ 3] using this
/-- The heap's own block and its list. -/
structure Refs (w : World) (b : Nat) (room : Int) (v : Value) (l : List (Ent Int)) : Prop where
  blk : w.heap[b]? = some (.cells #[.int .i64 room, v] 39 (0, 0))
  own : w.ownsRow (b + 1) 92 3 v l.length (cells3 l)
  few : l.length ≤ 1000
variable {w w' : World} {b : Nat} {room : Int} {v : Value} {l : List (Ent Int)}
theorem Refs.c0 (h : Refs w b room v l) : w.cell? ⟨b, 0, none⟩ = some (.int .i64 room) := by simp [World.cell?, h.blk]
theorem Refs.c1 (h : Refs w b room v l) : w.cell? ⟨b, 1, none⟩ = some v := by simp [World.cell?, h.blk]
theorem Refs.fz (h : Refs w b room v l) (o : Nat) : w.frozen? ⟨b, o, none⟩ = false := by simp [World.frozen?, h.blk]
theorem Refs.lt (h : Refs w b room v l) : b < w.heap.size := (Array.getElem?_eq_some_iff.1 h.blk).1
theorem Refs.slice (h : Refs w b room v l) : ∃ a cap, v = .slice a l.length cap := by
  rcases h.own.2 with ⟨rfl, hn⟩ | ⟨g, cap, cur, rfl, _⟩
  · exact ⟨none, 0, by rw [hn]⟩
  · exact ⟨_, _, rfl⟩
theorem Refs.only (h : Refs w b room v l) {S : List Nat} (g : Only S w w') (hS : ∀ k ∈ foot b v, k ∉ S) : Refs w' b room v l := by
  refine ⟨by rw [g.block b h.lt (hS b mem_foot)]; exact h.blk, ?_, h.few⟩
  obtain ⟨h1, h2⟩ := h.own
  refine ⟨h1, ?_⟩
  rcases h2 with h2 | ⟨gb, cap, cur, rfl, hb, hh, r⟩
  · exact .inl h2
  · exact .inr ⟨gb, cap, cur, rfl, hb, by rw [g.block gb (Array.getElem?_eq_some_iff.1 hh).1 (hS gb mem_foot_slice)]; exact hh, r⟩
theorem Refs.below (h : Refs w b room v l) (g : Below w.heap.size w w') : Refs w' b room v l := h.only (Below.only g []) (by simp)
theorem Refs.foot_lt (h : Refs w b room v l) : ∀ k ∈ foot b v, k < w.heap.size := by
  intro k hk
  simp only [foot, List.mem_cons, Option.mem_toList] at hk
  rcases hk with rfl | hk
  · exact h.lt
  · exact (h.own.lt k hk).2
theorem Refs.foot_ge (h : Refs w b room v l) : ∀ k ∈ foot b v, b ≤ k := by
  intro k hk
  simp only [foot, List.mem_cons, Option.mem_toList] at hk
  rcases hk with rfl | hk
  · exact Nat.le_refl _
  · exact Nat.le_of_lt (h.own.lt k hk).1
theorem keeps : Stays (foot b v) (fun u => Refs u b room v l) := fun _ _ _ h g hS => h.only g hS
theorem Refs.at (h : Refs w b room v l) {i : Nat} {x : Ent Int} (hx : l[i]? = some x) : ∃ g cap, v = .slice (some ⟨g, 0, none⟩) l.length cap ∧ l.length ≤ cap ∧ cap ≤ maxLen ∧ w.cell? ⟨g, i * 3, none⟩ = some (.int .i64 x.v) ∧ w.cell? ⟨g, i * 3 + 1, none⟩ = some (.int .i64 x.a) ∧ w.cell? ⟨g, i * 3 + 2, none⟩ = some (.int .i64 x.b) := by
  have hl := (List.getElem?_eq_some_iff.1 hx).1
  have own := h.own
  rcases own.2 with ⟨_, hn⟩ | ⟨g, cap, cur, rfl, _, _, h1, h2, _⟩
  · omega
  · obtain ⟨e0, e1, e2⟩ := cells3_get hx
    exact ⟨g, cap, rfl, h1, h2, by rw [own.cellAt _ (by omega), e0], by rw [own.cellAt _ (by omega), e1], by rw [own.cellAt _ (by omega), e2]⟩

set_option maxHeartbeats 1000000 in
theorem at_any (x : Int) (w : World) (h : Refs w b room v l) :
    Calls Try.prog 56 #[.pointer (some ⟨b, 0, none⟩), .int .i64 x] w fun e w' => ∃ r : Int, e = .returned (.int .i64 r) ∧ ((r = -1 ∧ ∀ y ∈ l, y.v ≠ x) ∨ ∃ (i : Nat) (y : Ent Int), r = i ∧ l[i]? = some y ∧ y.v = x) ∧ Below w.heap.size w w' := by
  have c1 := h.c1
  have hf := h.few
  obtain ⟨a, cap, rfl⟩ := h.slice
  have H0 : Hid (Refs w b room (.slice a l.length cap) l) := h
  clear h
  go_enter Try.func56, Try.ntmps56
  go_wp2
  go_loopg [5] l.length (fun gk s5 wr => ∃ k : Nat, gk + k = l.length ∧ s5 = .int .i64 k ∧ (∀ (j : Nat) (y : Ent Int), j < k → l[j]? = some y → y.v ≠ x) ∧ wr = w)
  case atStart => exact ⟨0, by omega, rfl, fun j y hj => absurd hj (by omega), rfl⟩
  case round =>
    obtain ⟨k, hk, rfl, hno, rfl⟩ := hrel
    have HN : Hid (∀ (j : Nat) (y : Ent Int), j < k → l[j]? = some y → y.v ≠ x) := hno
    clear hno
    by_cases hkl : k < l.length
    · have hkl' : (k : Int) < (l.length : Int) := by omega
      obtain ⟨y, hy⟩ : ∃ y, l[k]? = some y := ⟨_, List.getElem?_eq_getElem hkl⟩
      obtain ⟨g, cap', hv, h1, h2, d0, d1, d2⟩ := H0.out.at hy
      simp only [Value.slice.injEq] at hv
      obtain ⟨rfl, _, rfl⟩ := hv
      have HY : Hid (l[k]? = some y) := hy
      unfold maxLen at h2
      clear hy d1 d2
      obtain ⟨yv, hyv⟩ : ∃ z, y.v = z := ⟨_, rfl⟩
      have HV : Hid (y.v = yv) := hyv
      rw [hyv] at d0
      clear hyv
      by_cases e : yv = x
      · subst e
        go_wp2
        go_ret
        exact ⟨k, rfl, .inr ⟨k, y, rfl, HY.out, HV.out⟩, Below.refl _ _⟩
      · go_wp2
        go_roundg (gk - 1)
        case measure => omega
        case rel =>
          refine ⟨k + 1, by omega, by go_num, fun j z hj hz => ?_, rfl⟩
          by_cases e2 : j = k
          · subst e2; rw [HY.out] at hz; cases hz; rw [HV.out]; exact e
          · exact HN.out j z (by omega) hz
    · have hkl' : ¬ (k : Int) < (l.length : Int) := by omega
      go_wp2
      go_ret
      exact ⟨-1, rfl, .inl ⟨rfl, fun y hy => by obtain ⟨j, hj⟩ := List.getElem?_of_mem hy; exact HN.out j y (by have := (List.getElem?_eq_some_iff.1 hj).1; omega) hj⟩, Below.refl _ _⟩
theorem at_no (x : Int) (w : World) (h : Refs w b room v l) (hno : ∀ y ∈ l, y.v ≠ x) :
    Calls Try.prog 56 #[.pointer (some ⟨b, 0, none⟩), .int .i64 x] w fun e w' => e = .returned (.int .i64 (-1)) ∧ Below w.heap.size w w' :=
  (at_any x w h).mono fun e w' ⟨r, he, hr, g⟩ => by
    rcases hr with ⟨rfl, _⟩ | ⟨i, y, _, hy, hv⟩
    · exact ⟨he, g⟩
    · exact absurd hv (hno y (List.mem_of_getElem? hy))
theorem at_yes {puts : Int} (x : Ent Int) (w : World) (h : Refs w b room v l) (it : Items l puts) (hin : x ∈ l) :
    Calls Try.prog 56 #[.pointer (some ⟨b, 0, none⟩), .int .i64 x.v] w fun e w' => ∃ i : Nat, e = .returned (.int .i64 i) ∧ l[i]? = some x ∧ Below w.heap.size w w' :=
  (at_any x.v w h).mono fun e w' ⟨r, he, hr, g⟩ => by
    rcases hr with ⟨rfl, hno⟩ | ⟨i, y, rfl, hy, hv⟩
    · exact absurd rfl (hno x hin)
    · refine ⟨i, he, ?_, g⟩
      obtain ⟨j, hj⟩ := List.getElem?_of_mem hin
      obtain ⟨hi1, rfl⟩ := List.getElem?_eq_some_iff.1 hy
      obtain ⟨hj1, rfl⟩ := List.getElem?_eq_some_iff.1 hj
      have key := List.pairwise_iff_getElem.1 it.dis
      rcases Nat.lt_trichotomy i j with h | h | h
      · exact absurd hv (key i j hi1 hj1 h)
      · subst h; exact hy
      · exact absurd hv.symm (key j i hj1 hi1 h)
end Go.Proofs.Ytbfbijfedamgaaa.RH

/- The contract of the document's own heap: its first, First, Key. -/
namespace Go.Proofs.Ytbfbijfedamgaaa.RH
open Go.RowKit
variable {w w' : World} {b : Nat} {room puts : Int} {v : Value} {l : List (Ent Int)}
theorem later {i f : Nat} {x y : Ent Int} (it : Items l puts) (hf : l[f]? = some x) (hi : l[i]? = some y) (h : f < i) : x.t < y.t := by
  obtain ⟨h1, rfl⟩ := List.getElem?_eq_some_iff.1 hf
  obtain ⟨h2, rfl⟩ := List.getElem?_eq_some_iff.1 hi
  exact List.pairwise_iff_getElem.1 it.inc f i h1 h2 h
/-- The first among the first i. -/
def Best (l : List (Ent Int)) (i : Nat) (s : Value) : Prop := (i = 0 ∧ s = .int .i64 (-1)) ∨ ∃ (f : Nat) (x : Ent Int), f < i ∧ s = .int .i64 f ∧ l[f]? = some x ∧ ∀ (j : Nat) (y : Ent Int), j < i → l[j]? = some y → Le x y
theorem Best.new {i : Nat} {x y : Ent Int} (hy : l[i]? = some y) (hb : ∀ (j : Nat) (z : Ent Int), j < i → l[j]? = some z → Le x z) (lt : y.a < x.a ∨ (y.a = x.a ∧ y.b < x.b)) : Best l (i + 1) (.int .i64 i) := by
  refine .inr ⟨i, y, by omega, rfl, hy, fun j z hj hz => ?_⟩
  by_cases e : j = i
  · subst e; rw [hy] at hz; cases hz; exact Le.refl _
  · have h1 := hb j z (by omega) hz
    have h2 : Le y x := by unfold Le Lt; omega
    exact h2.trans h1
theorem Best.old {i f : Nat} {x y : Ent Int} (it : Items l puts) (hy : l[i]? = some y) (hb : ∀ (j : Nat) (z : Ent Int), j < i → l[j]? = some z → Le x z) (hx : l[f]? = some x) (hf : f < i) (nlt : ¬ (y.a < x.a ∨ (y.a = x.a ∧ y.b < x.b))) : Best l (i + 1) (.int .i64 f) := by
  have ht := later it hx hy hf
  refine .inr ⟨f, x, by omega, rfl, hx, fun j z hj hz => ?_⟩
  by_cases e : j = i
  · subst e; rw [hy] at hz; cases hz; unfold Le Lt; omega
  · exact hb j z (by omega) hz
theorem Best.one {y : Ent Int} (hy : l[0]? = some y) : Best l 1 (.int .i64 (0 : Nat)) := by
  refine .inr ⟨0, y, by omega, rfl, hy, fun j z hj hz => ?_⟩
  obtain rfl : j = 0 := by omega
  rw [hy] at hz; cases hz; exact Le.refl _

set_option maxHeartbeats 4000000 in
set_option maxRecDepth 100000 in
theorem first_best (w : World) (h : Refs w b room v l) (it : Items l puts) :
    Calls Try.prog 59 #[.pointer (some ⟨b, 0, none⟩)] w fun e w' => ∃ s, e = .returned s ∧ Best l l.length s ∧ Below w.heap.size w w' := by
  have hf := h.few
  obtain ⟨a, cap, rfl⟩ := h.slice
  have H0 : Hid (Refs w b room (.slice a l.length cap) l) := h
  have HI : Hid (Items l puts) := it
  clear h it
  go_enter Try.func59, Try.ntmps59
  go_wp2
  go_loopg [3, 4] l.length (fun gk s3 s4 wr => ∃ k : Nat, gk + k = l.length ∧ s4 = .int .i64 k ∧ Best l k s3 ∧ Below w.heap.size w wr)
  case atStart => exact ⟨0, by omega, rfl, .inl ⟨rfl, rfl⟩, Below.refl _ _⟩
  case round =>
    obtain ⟨k, hk, rfl, hb, g⟩ := hrel
    have HG : Hid (Below w.heap.size w wr) := g
    have HR : Hid (Refs wr b room (.slice a l.length cap) l) := H0.out.below g
    have c1 := HR.out.c1
    clear g
    by_cases hkl : k < l.length
    · have hkl' : (k : Int) < (l.length : Int) := by omega
      obtain ⟨y, hy⟩ : ∃ y, l[k]? = some y := ⟨_, List.getElem?_eq_getElem hkl⟩
      have HY : Hid (l[k]? = some y) := hy
      rcases hb with ⟨rfl, rfl⟩ | ⟨f, x, hfk, rfl, hx, hbe⟩
      · have HN : Hid (Best l 1 (.int .i64 (0 : Nat))) := Best.one hy
        clear hy
        go_wp2
        go_big_quiet (fail)
        go_wp2
        go_roundg (gk - 1)
        case measure => omega
        case rel => exact ⟨1, by omega, rfl, HN.out, HG.out.trans ((below_drewN _ _).mono HG.out.size)⟩
      · obtain ⟨g, cap', hv, h1, h2, _, d1, d2⟩ := HR.out.at hy
        simp only [Value.slice.injEq] at hv
        obtain ⟨rfl, _, rfl⟩ := hv
        obtain ⟨g', cap', hv, _, _, _, e1, e2⟩ := HR.out.at hx
        simp only [Value.slice.injEq, Option.some.injEq, Addr.mk.injEq, and_true] at hv
        obtain ⟨rfl, _, rfl⟩ := hv
        unfold maxLen at h2
        have hfl : (f : Int) < (l.length : Int) := by omega
        have HN : Hid ((y.a < x.a ∨ (y.a = x.a ∧ y.b < x.b)) → Best l (k + 1) (.int .i64 k)) := fun h => Best.new hy hbe h
        have HO : Hid (¬ (y.a < x.a ∨ (y.a = x.a ∧ y.b < x.b)) → Best l (k + 1) (.int .i64 f)) := fun h => Best.old HI.out hy hbe hx hfk h
        clear hy hx hbe
        obtain ⟨ya, hya⟩ : ∃ z, y.a = z := ⟨_, rfl⟩
        obtain ⟨yb, hyb⟩ : ∃ z, y.b = z := ⟨_, rfl⟩
        obtain ⟨xa, hxa⟩ : ∃ z, x.a = z := ⟨_, rfl⟩
        obtain ⟨xb, hxb⟩ : ∃ z, x.b = z := ⟨_, rfl⟩
        rw [hya] at d1
        rw [hyb] at d2
        rw [hxa] at e1
        rw [hxb] at e2
        rw [hya, hyb, hxa, hxb] at HN HO
        clear hya hyb hxa hxb
        have q0 : decide ((f : Int) < 0) = false := by simp
        rcases (by omega : ya < xa ∨ (ya = xa ∧ yb < xb) ∨ (ya = xa ∧ ¬ yb < xb) ∨ (¬ ya < xa ∧ ¬ ya = xa)) with t1 | ⟨rfl, t1⟩ | ⟨rfl, t1⟩ | ⟨t1, t2⟩
        · have q1 : decide (ya < xa) = true := decide_eq_true t1
          go_wp2
          go_big_quiet (fail)
          go_wp2
          go_roundg (gk - 1)
          case measure => omega
          case rel => exact ⟨k + 1, by omega, by go_num, HN.out (.inl t1), HG.out.trans ((below_drewN _ _).mono HG.out.size)⟩
        · have q1 : decide (ya < ya) = false := by simp
          have q2 : decide (yb < xb) = true := decide_eq_true t1
          go_wp2
          go_big_quiet (fail)
          go_wp2
          go_roundg (gk - 1)
          case measure => omega
          case rel => exact ⟨k + 1, by omega, by go_num, HN.out (by first | omega | exact .inr ⟨trivial, t1⟩), HG.out.trans ((below_drewN _ _).mono HG.out.size)⟩
        · have q1 : decide (ya < ya) = false := by simp
          have q2 : decide (yb < xb) = false := decide_eq_false t1
          go_wp2
          go_big_quiet (fail)
          go_wp2
          go_roundg (gk - 1)
          case measure => omega
          case rel => exact ⟨k + 1, by omega, by go_num, HO.out (by omega), HG.out.trans ((below_drewN _ _).mono HG.out.size)⟩
        · have q1 : decide (ya < xa) = false := decide_eq_false t1
          have q2 : (ya == xa) = false := by simp; omega
          have q3 : decide (ya = xa) = false := decide_eq_false t2
          go_wp2
          go_big_quiet (fail)
          go_wp2
          go_roundg (gk - 1)
          case measure => omega
          case rel => exact ⟨k + 1, by omega, by go_num, HO.out (by omega), HG.out.trans ((below_drewN _ _).mono HG.out.size)⟩
    · obtain rfl : k = l.length := by omega
      have HB : Hid (Best l l.length u3) := hb
      clear hb
      go_wp2
      go_ret
      exact ⟨u3, rfl, HB.out, HG.out⟩
/-- What First answers: of an empty list nothing; else the first one, and where it is. -/
theorem best_none {s : Value} (h : Best ([] : List (Ent Int)) 0 s) : s = .int .i64 (-1) := by
  rcases h with ⟨_, h⟩ | ⟨f, x, h, _⟩
  · exact h
  · omega
theorem best_some {s : Value} (hl : l ≠ []) (h : Best l l.length s) : ∃ (f : Nat) (x : Ent Int), s = .int .i64 f ∧ l[f]? = some x ∧ IsFirst l x := by
  have := List.length_pos_iff.2 hl
  rcases h with ⟨h, _⟩ | ⟨f, x, _, hs, hx, hb⟩
  · omega
  · refine ⟨f, x, hs, hx, List.mem_of_getElem? hx, fun y hy => ?_⟩
    obtain ⟨j, hj⟩ := List.getElem?_of_mem hy
    exact hb j y (List.getElem?_eq_some_iff.1 hj).1 hj
theorem first_at (w : World) (h : Refs w b room v l) (it : Items l puts) (hl : l ≠ []) :
    Calls Try.prog 59 #[.pointer (some ⟨b, 0, none⟩)] w fun e w' => ∃ (f : Nat) (x : Ent Int), e = .returned (.int .i64 f) ∧ l[f]? = some x ∧ IsFirst l x ∧ Below w.heap.size w w' :=
  (first_best w h it).mono fun e w' ⟨s, he, hb, g⟩ => by
    obtain ⟨f, x, rfl, h1, h2⟩ := best_some hl hb
    exact ⟨f, x, he, h1, h2, g⟩
theorem first_no (w : World) (h : Refs w b room v []) :
    Calls Try.prog 59 #[.pointer (some ⟨b, 0, none⟩)] w fun e w' => e = .returned (.int .i64 (-1)) ∧ Below w.heap.size w w' :=
  (first_best w h (Items.nil 0)).mono fun e w' ⟨s, he, hb, g⟩ => by
    rw [best_none hb] at he
    exact ⟨he, g⟩
set_option maxHeartbeats 1000000 in
theorem top_none (w : World) (h : Refs w b room v []) :
    Calls Try.prog 20 #[.pointer (some ⟨b, 0, none⟩)] w fun e w' => e = .returned (.tuple #[.int .i64 0, .bool false]) ∧ Below w.heap.size w w' := by
  have ct := first_no w h
  go_enter Try.func20, Try.ntmps20
  go_wp2_with (go_at_call 59; refine ct.mono ?_; rintro e w1 ⟨rfl, g1⟩)
  go_ret2
  exact ⟨rfl, g1⟩
set_option maxHeartbeats 1000000 in
theorem top_some (w : World) (h : Refs w b room v l) (it : Items l puts) (hl : l ≠ []) :
    Calls Try.prog 20 #[.pointer (some ⟨b, 0, none⟩)] w fun e w' => ∃ x, IsFirst l x ∧ e = .returned (.tuple #[.int .i64 x.v, .bool true]) ∧ Below w.heap.size w w' := by
  have ct := first_at w h it hl
  have hf := h.few
  have H0 : Hid (Refs w b room v l) := h
  clear h it hl
  go_enter Try.func20, Try.ntmps20
  go_wp2_with fail
  refine ct.mono ?_
  rintro e w1 ⟨f, x, rfl, hx, hfi, g1⟩
  have r1 := H0.out.below g1
  have c1 := r1.c1
  obtain ⟨g, cap, rfl, h1, h2, d0, _, _⟩ := r1.at hx
  have hfl := (List.getElem?_eq_some_iff.1 hx).1
  have hfl' : (f : Int) < (l.length : Int) := by omega
  have HF : Hid (IsFirst l x) := hfi
  unfold maxLen at h2
  clear r1 hx hfi
  go_wp2
  go_ret2
  exact ⟨x, HF.out, rfl, g1⟩
set_option maxHeartbeats 1000000 in
theorem key_none (x : Int) (w : World) (h : Refs w b room v l) (hno : ∀ y ∈ l, y.v ≠ x) :
    Calls Try.prog 18 #[.pointer (some ⟨b, 0, none⟩), .int .i64 x] w fun e w' => e = .returned (.tuple #[.int .i64 0, .int .i64 0, .bool false]) ∧ Below w.heap.size w w' := by
  have ct := at_no x w h hno
  go_enter Try.func18, Try.ntmps18
  go_wp2_with (go_at_call 56; refine ct.mono ?_; rintro e w1 ⟨rfl, g1⟩)
  go_ret3
  exact ⟨rfl, g1⟩
set_option maxHeartbeats 1000000 in
theorem key_some (x : Ent Int) (w : World) (h : Refs w b room v l) (it : Items l puts) (hin : x ∈ l) :
    Calls Try.prog 18 #[.pointer (some ⟨b, 0, none⟩), .int .i64 x.v] w fun e w' => e = .returned (.tuple #[.int .i64 x.a, .int .i64 x.b, .bool true]) ∧ Below w.heap.size w w' := by
  have ct := at_yes x w h it hin
  have hf := h.few
  have H0 : Hid (Refs w b room v l) := h
  clear h it hin
  go_enter Try.func18, Try.ntmps18
  go_wp2_with fail
  refine ct.mono ?_
  rintro e w1 ⟨f, rfl, hx, g1⟩
  have r1 := H0.out.below g1
  have c1 := r1.c1
  obtain ⟨g, cap, rfl, h1, h2, _, d1, d2⟩ := r1.at hx
  have hfl := (List.getElem?_eq_some_iff.1 hx).1
  have hfl' : (f : Int) < (l.length : Int) := by omega
  unfold maxLen at h2
  clear r1 hx
  go_wp2
  go_big_quiet (fail)
  go_wp2
  go_ret3
  exact ⟨rfl, g1.trans ((below_drewN _ _).mono g1.size)⟩
/-- From nought to a thousand. -/
def roomV (n : Int) : Int := max 0 (min n 1000)
set_option maxHeartbeats 1000000 in
theorem new_any (n : Int) (w : World) (h1 : -9223372036854775808 ≤ n) (h2 : n ≤ 9223372036854775807) :
    Calls Try.prog 10 #[.int .i64 n] w fun e w' => e = .returned (.pointer (some ⟨w.heap.size, 0, none⟩)) ∧ Refs w' w.heap.size (roomV n) (.slice none 0 0) [] ∧ Below w.heap.size w w' := by
  have fin : ∀ r : Int, r = roomV n → Refs (w.alloc (.cells #[.int .i64 r, .slice none 0 0] 39)) w.heap.size (roomV n) (.slice none 0 0) [] := by
    intro r hr
    subst hr
    exact ⟨heap_alloc_new _ _, World.ownsRow_nil _ _ _ _, by simp⟩
  rcases (by omega : n ≤ 0 ∨ (0 < n ∧ n ≤ 1000) ∨ 1000 < n) with h | h | h
  · have K : Hid (0 = roomV n) := by show _ = _; unfold roomV; omega
    go_enter Try.func10, Try.ntmps10
    go_wp2
    go_ret
    exact ⟨rfl, fin _ K.out, (Below.refl _ _).alloc (Nat.le_refl _) _⟩
  · have K : Hid (n = roomV n) := by show _ = _; unfold roomV; omega
    go_enter Try.func10, Try.ntmps10
    go_wp2
    go_ret
    exact ⟨rfl, fin _ K.out, (Below.refl _ _).alloc (Nat.le_refl _) _⟩
  · have K : Hid (1000 = roomV n) := by show _ = _; unfold roomV; omega
    go_enter Try.func10, Try.ntmps10
    go_wp2
    go_ret
    exact ⟨rfl, fin _ K.out, (Below.refl _ _).alloc (Nat.le_refl _) _⟩
end Go.Proofs.Ytbfbijfedamgaaa.RH

/- The contracts of the document's own heap: out, Put, Take, Drop. -/
namespace Go.Proofs.Ytbfbijfedamgaaa.RH
open Go.RowKit
/-- append at a step of a region that draws; it may append nothing. -/
theorem step_append_at {P : Program} (w : World) {ops : Array Oper} {o : Oper} {a : Act} {K : Act → World → Prop} {Q : Exit → Act → World → Prop} {E : Prop} (hgd : o.guard = none) (s x : Operand) (t : TypeId)
    (ho : o.op = .call { callee := .builtin .append, args := #[s, x], argTypes := #[t, t] })
    (base : Nat) (e : TypeId) (i : TypeInfo) (z : Value) (size bytes : Nat) (ht : P.underlying t = some (.slice e)) (hi : P.info? e = some i) (hz : i.zero = some z)
    (hsize : i.size = size) (hby : i.bytes = bytes) (hzs : z.cells.size = size) (hsz : 0 < size)
    (v : Value) (n : Nat) (xs : List Value) (hs : a.eval s = v) (hown : w.ownsRow base e size v n xs)
    (ad : Addr) (m c : Nat) (news : List Value) (hx : a.eval x = .slice (some ad) m c) (hl : news.length = m * size) (hnews : ∀ j u, news[j]? = some u → w.cell? (ad.add j) = some u) (h1 : ∀ u ∈ news, u.oneCell' = true)
    (h63 : n + m ≤ maxLen) (hbytes : (n + m) * bytes ≤ 140737488355328) (hbase : base ≤ w.heap.size)
    (h : ∀ v' w', w'.ownsRow base e size v' (n + m) (xs ++ news) → w.grownBy w' v.ownBlock → (v'.ownBlock = v.ownBlock ∨ v'.ownBlock = some w.heap.size) → K (a.put o.dst v') w') :
    if Region.wanted o (yielded ops a.tmps) = true then Oper.wp P o a w K Q else E := by
  have hw : Region.wanted o (yielded ops a.tmps) = true := by simp [Region.wanted, hgd]
  rw [if_pos hw]
  obtain ⟨v', w', hr, h2, h3, _, h5⟩ := run_append_own_at (P := P) w base t o.type e i z size bytes ht hi hz hsize hby hzs hsz v n xs hown ad m c news hl hnews h1 h63 hbytes hbase
  unfold Oper.wp execOp
  simp only [ho, resolve, invoke, builtin, Sem.run_bind, Sem.run_pure, Result.andThen_ok, List.map_toArray, List.map_cons, List.map_nil, hs, hx, hr]
  exact h v' w' h2 h3 h5
variable {w w' : World} {b : Nat} {room puts : Int} {v : Value} {l : List (Ent Int)}
theorem infoItem : (Try.prog.info? 92).map (fun i => (i.zero, i.size, i.bytes)) = some (some (.agg #[.int .i64 0, .int .i64 0, .int .i64 0]), 3, 24) := by kernel_rfl
theorem cells3_one (l : List (Ent Int)) : ∀ u ∈ cells3 l, u.oneCell' = true := by
  intro u hu
  simp only [cells3, List.mem_flatMap] at hu
  obtain ⟨e, _, hu⟩ := hu
  simp at hu
  rcases hu with rfl | rfl | rfl <;> rfl
theorem cells3_take (l : List (Ent Int)) (n : Nat) : cells3 (l.take n) = (cells3 l).take (n * 3) := by
  induction l generalizing n with
  | nil => simp [cells3]
  | cons e l ih =>
    cases n with
    | zero => simp [cells3]
    | succ n =>
      have := ih n
      simp only [cells3] at this ⊢
      rw [List.take_succ_cons, List.flatMap_cons, List.flatMap_cons, this, show (n + 1) * 3 = n * 3 + 3 by omega]
      simp
theorem cells3_drop (l : List (Ent Int)) (n : Nat) : cells3 (l.drop n) = (cells3 l).drop (n * 3) := by
  induction l generalizing n with
  | nil => simp [cells3]
  | cons e l ih =>
    cases n with
    | zero => simp [cells3]
    | succ n =>
      have := ih n
      simp only [cells3] at this ⊢
      rw [List.drop_succ_cons, List.flatMap_cons, this, show (n + 1) * 3 = n * 3 + 3 by omega]
      simp
theorem add_at (g o j : Nat) : (⟨g, o, none⟩ : Addr).add j = ⟨g, o + j, none⟩ := by unfold Addr.add; split <;> simp_all
theorem Refs.cell {g n cap : Nat} (h : Refs w b room (.slice (some ⟨g, 0, none⟩) n cap) l) {j : Nat} {u : Value} (hu : (cells3 l)[j]? = some u) : w.cell? ⟨g, j, none⟩ = some u := by
  have hj := (List.getElem?_eq_some_iff.1 hu).1
  rw [cells3_length] at hj
  have hn : l.length = n := by obtain ⟨a, c, e⟩ := h.slice; simp at e; exact e.2.1.symm
  have own := h.own
  rw [hn] at own hj
  rw [own.cellAt _ (by omega), hu]
theorem Refs.news1 {g n cap : Nat} (h : Refs w b room (.slice (some ⟨g, 0, none⟩) n cap) l) (i : Nat) : ∀ j u, (cells3 (l.take i))[j]? = some u → w.cell? ((⟨g, 0, none⟩ : Addr).add j) = some u := by
  intro j u hu
  rw [cells3_take, List.getElem?_take] at hu
  rw [add_at, Nat.zero_add]
  split at hu
  · exact h.cell hu
  · cases hu
theorem Refs.news2 {g n cap : Nat} (h : Refs w b room (.slice (some ⟨g, 0, none⟩) n cap) l) (i : Nat) : ∀ j u, (cells3 (l.drop i))[j]? = some u → w.cell? ((⟨g, i * 3, none⟩ : Addr).add j) = some u := by
  intro j u hu
  rw [cells3_drop, List.getElem?_drop] at hu
  rw [add_at]
  exact h.cell hu
theorem row_only {base n size : Nat} {e : TypeId} {xs : List Value} {S : List Nat} (h : w.ownsRow base e size v n xs) (g : Only S w w') (hS : ∀ k ∈ v.ownBlock.toList, k ∉ S) : w'.ownsRow base e size v n xs := by
  obtain ⟨h1, h2⟩ := h
  refine ⟨h1, ?_⟩
  rcases h2 with h2 | ⟨gb, cap, cur, rfl, hb, hh, r⟩
  · exact .inl h2
  · exact .inr ⟨gb, cap, cur, rfl, hb, by rw [g.block gb (Array.getElem?_eq_some_iff.1 hh).1 (hS gb (by simp [Value.ownBlock]))]; exact hh, r⟩
theorem erase_cells (l : List (Ent Int)) (i : Nat) : cells3 (l.eraseIdx i) = ([] ++ cells3 (l.take i)) ++ cells3 (l.drop (i + 1)) := by
  rw [List.eraseIdx_eq_take_drop_succ, cells3_append, List.nil_append]
/-- What lies there behind out. -/
theorem out_end {wa w1 wb w2 wc : World} {v1 v2 : Value} {i n : Nat} (h : Refs w b room v l) (hi : i < l.length) (hn : n = l.length - 1) (ga : Only [] w wa) (gr1 : wa.grownBy w1 none) (at1 : v1.ownBlock = none ∨ v1.ownBlock = some wa.heap.size) (gb : Only [] w1 wb) (gr2 : wb.grownBy w2 v1.ownBlock)
    (own2 : w2.ownsRow (b + 1) 92 3 v2 n (([] ++ cells3 (l.take i)) ++ cells3 (l.drop (i + 1)))) (at2 : v2.ownBlock = v1.ownBlock ∨ v2.ownBlock = some wb.heap.size) (gc : Only [] w2 wc) :
    Refs (wc.setCell ⟨b, 1, none⟩ v2) b room v2 (l.eraseIdx i) ∧ Only (foot b v) w (wc.setCell ⟨b, 1, none⟩ v2) ∧ ∀ k ∈ foot b v2, k ∈ foot b v ∨ w.heap.size ≤ k := by
  have hl := h.lt
  have s1 := gr1.size
  have n1 : ∀ k, v1.ownBlock = some k → w.heap.size ≤ k := by
    intro k hk
    rcases at1 with e | e
    · rw [e] at hk; cases hk
    · rw [e] at hk; simp at hk; have := ga.size; omega
  have n2 : ∀ k, v2.ownBlock = some k → w.heap.size ≤ k := by
    intro k hk
    rcases at2 with e | e
    · exact n1 k (e ▸ hk)
    · rw [e] at hk; simp at hk; have := ga.size; have := gb.size; omega
  have o1 : Only [] w w1 := ga.grown gr1 (fun k hk => by cases hk)
  have o2 : Only [] w w2 := (o1.trans gb (by simp)).grown gr2 (fun k hk => .inr (n1 k hk))
  have o3 : Only [] w wc := o2.trans gc (by simp)
  have blk : wc.heap[b]? = some (.cells #[.int .i64 room, v] 39 (0, 0)) := by rw [o3.block b hl (by simp)]; exact h.blk
  refine ⟨⟨?_, ?_, ?_⟩, ?_, ?_⟩
  · have := heap_setCell_same wc b 1 _ _ v2 blk
    simpa using this
  · have := ownsRow_setCell_below (row_only own2 gc (by simp)) (a := ⟨b, 1, none⟩) (show b < b + 1 by omega) v2
    rw [erase_cells, List.length_eraseIdx, if_pos hi, ← hn]
    exact this
  · rw [List.length_eraseIdx, if_pos hi]; have := h.few; omega
  · exact (o3.mono (by simp)).setCell (p := ⟨b, 1, none⟩) mem_foot _
  · intro k hk
    simp only [foot, List.mem_cons, Option.mem_toList] at hk
    rcases hk with rfl | hk
    · exact .inl mem_foot
    · exact .inr (n2 k hk)
theorem row_slice {base n size : Nat} {e : TypeId} {xs : List Value} (h : w.ownsRow base e size v n xs) : ∃ a cap, v = .slice a n cap := by
  rcases h.2 with ⟨rfl, hn⟩ | ⟨g, cap, cur, rfl, _⟩
  · exact ⟨none, 0, by rw [hn]⟩
  · exact ⟨_, _, rfl⟩
theorem newB {wa : World} {v1 : Value} (at1 : v1.ownBlock = none ∨ v1.ownBlock = some wa.heap.size) (hs : wa.heap.size = w.heap.size) : ∀ k, v1.ownBlock = some k → w.heap.size ≤ k := by
  intro k hk
  rcases at1 with e | e
  · rw [e] at hk; cases hk
  · rw [e] at hk; simp at hk; omega
attribute [local go_sem ↓] Go.wp_at_zero Go.wp_at_succ
set_option maxHeartbeats 4000000 in
set_option maxRecDepth 100000 in
theorem out_any (i : Nat) (w : World) (h : Refs w b room v l) (hi : i < l.length) :
    Calls Try.prog 57 #[.pointer (some ⟨b, 0, none⟩), .int .i64 i] w fun e w' => ∃ v', e = .returned (.tuple #[]) ∧ Refs w' b room v' (l.eraseIdx i) ∧ Only (foot b v) w w' ∧ ∀ k ∈ foot b v', k ∈ foot b v ∨ w.heap.size ≤ k := by
  have hf := h.few
  have c1 := h.c1
  have bl := h.lt
  have fb := h.fz 1
  obtain ⟨x, hx⟩ : ∃ x, l[i]? = some x := ⟨_, List.getElem?_eq_getElem hi⟩
  obtain ⟨g, cap, rfl, hn1, hn2, -, -, -⟩ := h.at hx
  have gl := (h.own.lt g rfl).2
  have gb : b < g := (h.own.lt g rfl).1
  unfold maxLen at hn2
  obtain ⟨i0, hi0, hz0, hz1, hz2⟩ := info_parts infoItem
  have N1 : Hid (∀ j u, (cells3 (l.take i))[j]? = some u → w.cell? ((⟨g, 0, none⟩ : Addr).add j) = some u) := h.news1 i
  have N2 : Hid (∀ j u, (cells3 (l.drop (i + 1)))[j]? = some u → w.cell? ((⟨g, (i + 1) * 3, none⟩ : Addr).add j) = some u) := h.news2 (i + 1)
  have H0 : Hid (Refs w b room (.slice (some ⟨g, 0, none⟩) l.length cap) l) := h
  have L1 : (cells3 (l.take i)).length = i * 3 := by rw [cells3_length]; simp; omega
  have L2 : (cells3 (l.drop (i + 1))).length = (l.length - (i + 1)) * 3 := by rw [cells3_length]; simp
  have HL1 : Hid ((cells3 (l.take i)).length = i * 3) := L1
  have HL2 : Hid ((cells3 (l.drop (i + 1))).length = (l.length - (i + 1)) * 3) := L2
  clear h hx L1 L2
  have q0 : (0 : Int) ≤ (i : Int) := by omega
  have q1 : (i : Int) < (l.length : Int) := by omega
  have q2 : (l.length : Int) ≤ (cap : Int) := by omega
  have q3 : (i : Int) ≤ (cap : Int) := by omega
  have q4 : (i : Int) + 1 ≤ (l.length : Int) := by omega
  have q5 : (0 : Int) ≤ (i : Int) + 1 := by omega
  have q6 : (i : Int) + 1 ≤ (cap : Int) := by omega
  have q7 : IntKind.i64.wrap ((i : Int) + 1) = (i : Int) + 1 := IntWalk.i64_in _ (by omega)
  rcases (by omega : ¬ cap = i + 1 ∨ cap = i + 1) with hc | hc
  · go_enter Try.func57, Try.ntmps57
    go_wp2_with fail
    go_region_law (first
        | (refine step_append_at _ (by rfl) (.const (.slice none 0 0)) (.tmp 10) 37 (by rfl) (b + 1) 92 i0 _ 3 24 Try.underlying37 hi0 hz0 hz1 hz2 rfl (by omega) (.slice none 0 0) 0 [] (by rfl) (World.ownsRow_nil _ _ _ _) ⟨g, 0, none⟩ i cap (cells3 (l.take i)) (by rfl) HL1.out N1.out (cells3_one _) (by unfold maxLen; omega) (by omega) (by simp; omega) ?_; intro v1 w1 own1 gr1 at1; have e1 : w1.cell? ⟨b, 1, none⟩ = some (.slice (some ⟨g, 0, none⟩) l.length cap) := (gr1.cell_far _ bl (by simp [Value.ownBlock])).trans c1; have f1 : w1.frozen? ⟨b, 1, none⟩ = false := (gr1.frozen_far _ bl (by simp [Value.ownBlock])).trans fb; have S1 : Hid (w.heap.size ≤ w1.heap.size) := gr1.size; have NB : Hid (∀ k, v1.ownBlock = some k → w.heap.size ≤ k) := newB at1 rfl; have AT : Hid (v1.ownBlock = none ∨ v1.ownBlock = some w.heap.size) := at1; have GR : Hid (w.drew.grownBy w1 (Value.slice none 0 0).ownBlock) := gr1; have OW : Hid (w1.ownsRow (b + 1) 92 3 v1 (0 + i) ([] ++ cells3 (l.take i))) := own1; clear at1 gr1 own1)
        | (refine step_append_at _ (by rfl) (.tmp 11) (.tmp 18) 37 (by rfl) (b + 1) 92 i0 _ 3 24 Try.underlying37 hi0 hz0 hz1 hz2 rfl (by omega) v1 (0 + i) ([] ++ cells3 (l.take i)) (by rfl) OW.out ⟨g, (i + 1) * 3, none⟩ (l.length - (i + 1)) (cap - (i + 1)) (cells3 (l.drop (i + 1))) (by rfl) HL2.out (fun j u hu => (GR.out.cell_far ((⟨g, (i + 1) * 3, none⟩ : Addr).add j) (by rw [add_at]; exact gl) (by simp [Value.ownBlock])).trans (N2.out j u hu)) (cells3_one _) (by unfold maxLen; omega) (by omega) (by have := S1.out; show b + 1 ≤ w1.heap.size; omega) ?_; intro v2 w2 own2 gr2 at2; obtain ⟨a2, cp2, rfl⟩ := row_slice own2; have e2 : w2.cell? ⟨b, 1, none⟩ = some (.slice (some ⟨g, 0, none⟩) l.length cap) := (gr2.cell_far _ (Nat.lt_of_lt_of_le bl S1.out) (fun e => (by have := NB.out b e.symm; omega))).trans e1; have f2 : w2.frozen? ⟨b, 1, none⟩ = false := (gr2.frozen_far _ (Nat.lt_of_lt_of_le bl S1.out) (fun e => (by have := NB.out b e.symm; omega))).trans f1; have AT2 : Hid ((Value.slice a2 (0 + i + (l.length - (i + 1))) cp2).ownBlock = v1.ownBlock ∨ (Value.slice a2 (0 + i + (l.length - (i + 1))) cp2).ownBlock = some w1.heap.size) := at2; have OW2 : Hid (w2.ownsRow (b + 1) 92 3 (.slice a2 (0 + i + (l.length - (i + 1))) cp2) (0 + i + (l.length - (i + 1))) (([] ++ cells3 (l.take i)) ++ cells3 (l.drop (i + 1)))) := own2; have GR2 : Hid (w1.grownBy w2 v1.ownBlock) := gr2; clear at2 own2 gr2))
    all_goals
      go_wp2
      go_end0
      obtain ⟨r1, r2, r3⟩ := out_end (wc := w2) H0.out hi (by omega) ((Only.refl _ w).drew) GR.out AT.out (Only.refl _ w1) GR2.out OW2.out AT2.out (Only.refl _ w2)
      rw [Nat.zero_add] at r1 r2 r3
      exact ⟨_, rfl, r1, r2, r3⟩
  · subst hc
    have HD : Hid (l.drop (i + 1) = []) := List.drop_eq_nil_of_le hn1
    have HL3 : Hid ((cells3 (l.drop (i + 1))).length = 0 * 3) := by show _ = _; rw [HD.out]; rfl
    clear q6 q3
    have q3 : (i : Int) ≤ (i : Int) + 1 := by omega
    have q8 : (l.length : Int) ≤ (i : Int) + 1 := by omega
    go_enter Try.func57, Try.ntmps57
    go_wp2_with fail
    go_region_law (first
        | (refine step_append_at _ (by rfl) (.const (.slice none 0 0)) (.tmp 10) 37 (by rfl) (b + 1) 92 i0 _ 3 24 Try.underlying37 hi0 hz0 hz1 hz2 rfl (by omega) (.slice none 0 0) 0 [] (by rfl) (World.ownsRow_nil _ _ _ _) ⟨g, 0, none⟩ i (i + 1) (cells3 (l.take i)) (by rfl) HL1.out N1.out (cells3_one _) (by unfold maxLen; omega) (by omega) (by simp; omega) ?_; intro v1 w1 own1 gr1 at1; have e1 : w1.cell? ⟨b, 1, none⟩ = some (.slice (some ⟨g, 0, none⟩) l.length (i + 1)) := (gr1.cell_far _ bl (by simp [Value.ownBlock])).trans c1; have f1 : w1.frozen? ⟨b, 1, none⟩ = false := (gr1.frozen_far _ bl (by simp [Value.ownBlock])).trans fb; have S1 : Hid (w.heap.size ≤ w1.heap.size) := gr1.size; have NB : Hid (∀ k, v1.ownBlock = some k → w.heap.size ≤ k) := newB at1 rfl; have AT : Hid (v1.ownBlock = none ∨ v1.ownBlock = some w.heap.size) := at1; have GR : Hid (w.drew.grownBy w1 (Value.slice none 0 0).ownBlock) := gr1; have OW : Hid (w1.ownsRow (b + 1) 92 3 v1 (0 + i) ([] ++ cells3 (l.take i))) := own1; clear at1 gr1 own1)
        | (refine step_append_at _ (by rfl) (.tmp 11) (.tmp 18) 37 (by rfl) (b + 1) 92 i0 _ 3 24 Try.underlying37 hi0 hz0 hz1 hz2 rfl (by omega) v1 (0 + i) ([] ++ cells3 (l.take i)) (by rfl) OW.out ⟨g, 0, none⟩ 0 0 (cells3 (l.drop (i + 1))) (by rfl) HL3.out (fun j u hu => by rw [HD.out] at hu; simp [cells3] at hu) (cells3_one _) (by unfold maxLen; omega) (by omega) (by have := S1.out; show b + 1 ≤ w1.heap.size; omega) ?_; intro v2 w2 own2 gr2 at2; obtain ⟨a2, cp2, rfl⟩ := row_slice own2; have e2 : w2.cell? ⟨b, 1, none⟩ = some (.slice (some ⟨g, 0, none⟩) l.length (i + 1)) := (gr2.cell_far _ (Nat.lt_of_lt_of_le bl S1.out) (fun e => (by have := NB.out b e.symm; omega))).trans e1; have f2 : w2.frozen? ⟨b, 1, none⟩ = false := (gr2.frozen_far _ (Nat.lt_of_lt_of_le bl S1.out) (fun e => (by have := NB.out b e.symm; omega))).trans f1; have AT2 : Hid ((Value.slice a2 (0 + i + 0) cp2).ownBlock = v1.ownBlock ∨ (Value.slice a2 (0 + i + 0) cp2).ownBlock = some w1.heap.size) := at2; have OW2 : Hid (w2.ownsRow (b + 1) 92 3 (.slice a2 (0 + i + 0) cp2) (0 + i + 0) (([] ++ cells3 (l.take i)) ++ cells3 (l.drop (i + 1)))) := own2; have GR2 : Hid (w1.grownBy w2 v1.ownBlock) := gr2; clear at2 own2 gr2))
    all_goals
      go_wp2
      go_end0
      obtain ⟨r1, r2, r3⟩ := out_end (wc := w2) H0.out hi (by omega) ((Only.refl _ w).drew) GR.out AT.out (Only.refl _ w1) GR2.out OW2.out AT2.out (Only.refl _ w2)
      simp only [Nat.zero_add, Nat.add_zero] at r1 r2 r3
      exact ⟨_, rfl, r1, r2, r3⟩
end Go.Proofs.Ytbfbijfedamgaaa.RH

/- The contract of the heap's Put at hortator/hortatorlaw2.pair. -/
namespace Go.Proofs.Ytbfbijfedamgaaa.HW
open Go.RowKit

/-- A key is laid at a place. -/
theorem Raw.key {w : World} {b g n cap : Nat} {room puts : Int} {es : List (Ent ByteArray)} (h : Raw w b room puts (.slice (some ⟨g, 0, none⟩) n cap) es) {i : Nat} {y : Ent ByteArray} (hy : es[i]? = some y) (a c t : Int) :
    Raw (((w.setCell ⟨g, i * 5 + 2, none⟩ (.int .i64 a)).setCell ⟨g, i * 5 + 3, none⟩ (.int .i64 c)).setCell ⟨g, i * 5 + 4, none⟩ (.int .i64 t)) b room puts (.slice (some ⟨g, 0, none⟩) n cap) (es.set i ⟨y.v, a, c, t⟩) ∧
    Only (foot b (.slice (some ⟨g, 0, none⟩) n cap)) w (((w.setCell ⟨g, i * 5 + 2, none⟩ (.int .i64 a)).setCell ⟨g, i * 5 + 3, none⟩ (.int .i64 c)).setCell ⟨g, i * 5 + 4, none⟩ (.int .i64 t)) := by
  have hg := h.gt g rfl
  have m : g ∈ foot b (.slice (some ⟨g, 0, none⟩) n cap) := mem_foot_slice
  have on : Only (foot b (.slice (some ⟨g, 0, none⟩) n cap)) w (((w.setCell ⟨g, i * 5 + 2, none⟩ (.int .i64 a)).setCell ⟨g, i * 5 + 3, none⟩ (.int .i64 c)).setCell ⟨g, i * 5 + 4, none⟩ (.int .i64 t)) :=
    (((Only.refl _ w).setCell (p := ⟨g, i * 5 + 2, none⟩) m _).setCell (p := ⟨g, i * 5 + 3, none⟩) m _).setCell (p := ⟨g, i * 5 + 4, none⟩) m _
  have hn := h.len
  subst hn
  have o := (((h.own.stored (i * 5 + 2) (.int .i64 a)).1.stored (i * 5 + 3) (.int .i64 c)).1.stored (i * 5 + 4) (.int .i64 t)).1
  have idem : ∀ (k : Nat) (u : Value), (cells5 es)[k]? = some u → (cells5 es).set k u = cells5 es := by
    intro k u hu
    obtain ⟨hl, rfl⟩ := List.getElem?_eq_some_iff.1 hu
    exact List.set_getElem_self hl
  have cs := cells5_set es i ⟨y.v, a, c, t⟩
  simp only at cs
  rw [idem _ _ (cells5_get hy).1, idem _ _ (cells5_get hy).2.1] at cs
  rw [← cs] at o
  refine ⟨⟨?_, by simpa using o, fun z hz => trivial, by simpa using h.few⟩, on⟩
  rw [Below.heap_setCell _ _ _ _ (by show b ≠ g; omega), Below.heap_setCell _ _ _ _ (by show b ≠ g; omega), Below.heap_setCell _ _ _ _ (by show b ≠ g; omega)]
  exact h.blk

/-- A field of the heap's own block is laid. -/
theorem Raw.puts {w : World} {b : Nat} {room puts : Int} {v : Value} {es : List (Ent ByteArray)} (h : Raw w b room puts v es) (p : Int) : Raw (w.setCell ⟨b, 1, none⟩ (.int .i64 p)) b room p v es ∧ Only (foot b v) w (w.setCell ⟨b, 1, none⟩ (.int .i64 p)) := by
  have on : Only (foot b v) w (w.setCell ⟨b, 1, none⟩ (.int .i64 p)) := (Only.refl _ w).setCell (p := ⟨b, 1, none⟩) mem_foot _
  refine ⟨⟨?_, ?_, fun z hz => (h.ok z hz).only on (fun k hk => .inl hk), h.few⟩, on⟩
  · have := heap_setCell_same w b 1 _ _ (.int .i64 p) h.blk
    simpa using this
  · exact ownsRow_setCell_below h.own (show b < b + 1 by omega) _
/-- What an append made is laid into the heap's own block. -/
theorem Raw.grow {w w1 : World} {b : Nat} {room puts : Int} {v v' : Value} {es : List (Ent ByteArray)} (h : Raw w b room puts v es) (x : Ent ByteArray) (hx : okW w (foot b v) x.v) (hl : es.length < 1000)
    (hown : w1.ownsRow (b + 1) 104 5 v' (es.length + 1) (cells5 es ++ cells5 [x])) (hg : w.grownBy w1 v.ownBlock) (hnew : ∀ k, v'.ownBlock = some k → v.ownBlock = some k ∨ w.heap.size ≤ k) :
    Raw (w1.setCell ⟨b, 2, none⟩ v') b room puts v' (es ++ [x]) ∧ Only (foot b v) w (w1.setCell ⟨b, 2, none⟩ v') ∧ ∀ k ∈ foot b v', k ∈ foot b v ∨ w.heap.size ≤ k := by
  have hf : ∀ k ∈ foot b v', k ∈ foot b v ∨ w.heap.size ≤ k := by
    intro k hk
    simp only [foot, List.mem_cons, Option.mem_toList] at hk ⊢
    rcases hk with rfl | hk
    · exact .inl (.inl rfl)
    · rcases hnew k hk with e | e
      · exact .inl (.inr e)
      · exact .inr e
  have on : Only (foot b v) w (w1.setCell ⟨b, 2, none⟩ v') :=
    ((Only.refl _ w).grown hg (fun k hk => .inl (by simp [foot, hk]))).setCell (p := ⟨b, 2, none⟩) mem_foot _
  have hb : some b ≠ v.ownBlock := fun e => by have := (h.gt b e.symm).1; omega
  have blk1 := (hg.block b h.lt hb).trans h.blk
  refine ⟨⟨?_, ?_, fun z hz => ?_, by simp; omega⟩, on, hf⟩
  · have := heap_setCell_same w1 b 2 _ _ v' blk1
    simpa using this
  · have := ownsRow_setCell_below hown (a := ⟨b, 2, none⟩) (show b < b + 1 by omega) v'
    rw [cells5_append]
    simpa using this
  · rcases List.mem_append.1 hz with hz | hz
    · exact (h.ok z hz).only on hf
    · simp at hz; subst hz; exact hx.only on hf

theorem infoE : (Try.prog.info? 104).map (fun i => (i.zero, i.size, i.bytes)) = some (some (.agg #[.string ⟨#[]⟩, .string ⟨#[]⟩, .int .i64 0, .int .i64 0, .int .i64 0]), 5, 56) := by kernel_rfl

set_option maxHeartbeats 400000 in
theorem put_full {b : Nat} {room puts : Int} {v : Value} {l : List (Ent ByteArray)} (x : ByteArray) (a c : Int) (w : World) (h : Heaps w b room puts v l) {F : List Nat} (_ : okW w F x) (hno : ∀ y ∈ l, y.v ≠ x) (hfull : room ≤ l.length) :
    Calls Try.prog 25 #[.pointer (some ⟨b, 0, none⟩), .agg #[.string x, .string txW], .int .i64 a, .int .i64 c] w fun e w' => e = .returned (.bool false) ∧ Below w.heap.size w w' := by
  obtain ⟨es, hr, hh, hp, hi, h0, h1, h2⟩ := h
  have hlen := hp.length_eq
  have hes : ∀ y ∈ es, y.v ≠ x := fun y hy => hno y (hp.mem_iff.1 hy)
  have fa : ∀ w : World, Raw w b room puts v es → okW w F x → Calls Try.prog 62 #[.pointer (some ⟨b, 0, none⟩), .agg #[.string x, .string txW]] w fun e w' => e = .returned (.int .i64 (-1)) ∧ Below w.heap.size w w' := fun w h hx =>
    (find_any x w h hx).mono fun e w' ⟨r, he, hc, hb⟩ => by
      rcases hc with ⟨rfl, _⟩ | ⟨i, y, _, hy, hv⟩
      · exact ⟨he, hb⟩
      · exact absurd hv (hes y (List.mem_of_getElem? hy))
  obtain ⟨ad, cap, hv⟩ := hr.slice
  generalize hn : es.length = n at hv
  subst hv
  have HN : Hid (es.length = n ∧ es.length = l.length) := ⟨hn, hlen⟩
  have hle : room ≤ (n : Int) := by omega
  have hn1 : n ≤ 1000 := by omega
  clear hn hlen hfull h2 hes hno
  have gA : Below w.heap.size w (w.alloc (.cells #[.string x, .string txW] 48)) := (Below.refl _ _).alloc (Nat.le_refl _) _
  have h1' := hr.below gA
  clear hr
  go_enter Try.func25, Try.ntmps25
  go_wp2_with (go_at_call 62; refine (fa _ h1' trivial).mono ?_; rintro e w1 ⟨rfl, g1⟩; have r1 := h1'.below g1; have c2 := r1.c2; have c0 := r1.c0; clear h1')
  go_quiet (fail)
  go_wp2
  go_ret
  exact ⟨rfl, gA.trans ((g1.trans ((below_drewN _ _).mono g1.size)).mono (by simp))⟩

set_option maxHeartbeats 1000000 in
theorem put_there {b : Nat} {room puts : Int} {v : Value} {l : List (Ent ByteArray)} (x : ByteArray) (a c : Int) (w : World) (h : Heaps w b room puts v l) {F : List Nat} (_ : okW w F x) (hin : ∃ y ∈ l, y.v = x) (hp0 : 0 ≤ puts) (hp1 : puts ≤ 1000000000) :
    Calls Try.prog 25 #[.pointer (some ⟨b, 0, none⟩), .agg #[.string x, .string txW], .int .i64 a, .int .i64 c] w fun e w' => e = .returned (.bool true) ∧ Heaps w' b room (puts + 1) v (less l x ++ [⟨x, a, c, puts + 1⟩]) ∧ Only (foot b v) w w' := by
  obtain ⟨es, hr, hh, hp, hi, h0, h1, h2⟩ := h
  have hlen := hp.length_eq
  have fa : ∀ w : World, Raw w b room puts v es → okW w F x → Calls Try.prog 62 #[.pointer (some ⟨b, 0, none⟩), .agg #[.string x, .string txW]] w fun e w' => ∃ (i : Nat) (y : Ent ByteArray), e = .returned (.int .i64 i) ∧ es[i]? = some y ∧ y.v = x ∧ Below w.heap.size w w' := fun w h hx =>
    (find_any x w h hx).mono fun e w' ⟨r, he, hc, hb⟩ => by
      rcases hc with ⟨_, hno⟩ | ⟨i, y, rfl, hy, hv⟩
      · obtain ⟨y, hy, e⟩ := hin; exact absurd e (hno y (hp.mem_iff.2 hy))
      · exact ⟨i, y, he, hy, hv, hb⟩
  have hpos : 0 < es.length := by obtain ⟨y, hy, _⟩ := hin; have := List.length_pos_of_mem hy; omega
  rcases hr.own.2 with ⟨rfl, hz⟩ | ⟨g, cap, cur, hv, -⟩
  · omega
  generalize hn : es.length = n at hv
  subst hv
  have HN : Hid (es.length = n ∧ es.length = l.length ∧ (l.length : Int) ≤ room) := ⟨hn, hlen, h2⟩
  have hn1 : n ≤ 1000 := by omega
  have HI : Hid (Heap es ∧ es.Perm l ∧ Items l puts) := ⟨hh, hp, hi⟩
  clear hn hlen h2 hin hh hp hi hpos
  have gA : Below w.heap.size w (w.alloc (.cells #[.string x, .string txW] 48)) := (Below.refl _ _).alloc (Nat.le_refl _) _
  have h1' := hr.below gA
  clear hr
  go_enter Try.func25, Try.ntmps25
  go_wp2_with (go_at_call 62; refine (fa _ h1' trivial).mono ?_; rintro e w1 ⟨i, y, rfl, hy, hyx, g1⟩; have r1 := h1'.below g1; have c2 := r1.c2; have c1 := r1.c1; have fb := r1.fz 1; have hi : i < n := (by have := lt_of_some hy; have := HN.out; omega); have HX : Hid (y.v = x) := hyx; clear hyx)
  obtain ⟨r2, o2⟩ := r1.puts (puts + 1)
  clear c2 c1 fb r1
  generalize hW : (w1.setCell ⟨b, 1, none⟩ (.int .i64 (puts + 1))) = W at *
  have c2 := r2.c2
  have c1 := r2.c1
  obtain ⟨-, p1, p2, p3⟩ := r2.at hy
  have fz : ∀ o, W.frozen? ⟨g, o, none⟩ = false := by have e := r2.len; subst e; exact r2.own.frozenAt
  have gb := (r2.gt g rfl).1
  have H2 : Hid (Raw W b room (puts + 1) (.slice (some ⟨g, 0, none⟩) n cap) es) := r2
  have HY : Hid (es[i]? = some y) := hy
  clear r2 hy hW
  go_region
  obtain ⟨r3, o3⟩ := H2.out.key HY.out a c (puts + 1)
  have hl : i < (es.set i ⟨y.v, a, c, puts + 1⟩).length := by have := HN.out; simp; omega
  have hnear : Near (es.set i ⟨y.v, a, c, puts + 1⟩) i := near_set HI.out.1 i _
  go_wp2_with (go_at_call 63; refine (settle_any i _ r3.drew hl hnear).mono ?_; rintro e w3 ⟨fs, rfl, hh, hp, hr4, o4⟩)
  go_ret
  obtain ⟨i1, i2, i3⟩ := HI.out
  have pm := perm_set i2 i3 HY.out ⟨y.v, a, c, puts + 1⟩
  have it := i3.put x a c
  rw [HX.out] at pm hp
  have ln := (hp.trans pm).length_eq
  have lf := hp.length_eq
  refine ⟨rfl, ⟨fs, hr4, hh, hp.trans pm, it, h0, h1, ?_⟩, ?_⟩
  · have := HN.out; rw [← ln, lf]; simp; omega
  · exact ((((Below.only gA (foot b (.slice (some ⟨g, 0, none⟩) n cap))).trans (Below.only g1 []) (by simp)).trans o2 (fun k hk => .inl hk)).trans o3 (fun k hk => .inl hk)).drew.trans o4 (fun k hk => .inl hk)

theorem cell_five_new (w : World) (x y z u s : Value) (t : TypeId) : ∀ (j : Nat) (q : Value), [x, y, z, u, s][j]? = some q → (w.alloc (.cells #[x, y, z, u, s] t)).cell? ((⟨w.heap.size, 0, none⟩ : Addr).add j) = some q := by
  intro j q hj
  match j, hj with
  | 0, hj => simp at hj; subst hj; simp [Addr.add]
  | 1, hj => simp at hj; subst hj; simp [Addr.add]
  | 2, hj => simp at hj; subst hj; simp [Addr.add]
  | 3, hj => simp at hj; subst hj; simp [Addr.add]
  | 4, hj => simp at hj; subst hj; simp [Addr.add]

/-- What lies there behind the append of a new thing. -/
theorem put_grow {b n cap : Nat} {ad : Option Addr} {room puts : Int} {es : List (Ent ByteArray)} {x : ByteArray} {W1 w2 : World} {v2 : Value} {o : Obj} (h : Raw W1 b room puts (.slice ad n cap) es) (hx : okW W1 (foot b (.slice ad n cap)) x) (hn : es.length = n) (hn1 : n < 1000)
    (own2 : w2.ownsRow (b + 1) 104 5 v2 (n + 1) (cells5 es ++ [.string x, .string txW, .int .i64 0, .int .i64 0, .int .i64 0])) (grow2 : (W1.alloc o).grownBy w2 (Value.slice ad n cap).ownBlock) (at2 : v2.ownBlock = (Value.slice ad n cap).ownBlock ∨ v2.ownBlock = some (W1.alloc o).heap.size) :
    ∃ g cap2, v2 = .slice (some ⟨g, 0, none⟩) (n + 1) cap2 ∧ Raw (w2.setCell ⟨b, 2, none⟩ v2) b room puts v2 (es ++ [⟨x, 0, 0, 0⟩]) ∧ Only (foot b (.slice ad n cap)) W1 (w2.setCell ⟨b, 2, none⟩ v2) ∧ (∀ k ∈ foot b v2, k ∈ foot b (.slice ad n cap) ∨ W1.heap.size ≤ k) ∧
      w2.cell? ⟨b, 2, none⟩ = some (.slice ad n cap) ∧ w2.cell? ⟨b, 1, none⟩ = some (.int .i64 puts) ∧ ∀ o, w2.frozen? ⟨b, o, none⟩ = false := by
  obtain ⟨g, cap2, hv2⟩ : ∃ g cap2, v2 = .slice (some ⟨g, 0, none⟩) (n + 1) cap2 := by
    rcases own2.2 with ⟨_, hz⟩ | ⟨g, cap2, cur2, hv2, _⟩
    · omega
    · exact ⟨g, cap2, hv2⟩
  subst hn
  have gr := (World.grownBy_alloc W1 o (Value.slice ad es.length cap).ownBlock).trans grow2
  have hb : some b ≠ (Value.slice ad es.length cap).ownBlock := fun e => by have := (h.gt b e.symm).1; omega
  have blk := (gr.block b h.lt hb).trans h.blk
  obtain ⟨r, on, f⟩ := h.grow ⟨x, 0, 0, 0⟩ hx hn1 own2 gr (fun k hk => by
    rcases at2 with e | e
    · exact .inl (e ▸ hk)
    · rw [e] at hk; simp at hk; exact .inr (by omega))
  exact ⟨g, cap2, hv2, r, on, f, by simp [World.cell?, blk], by simp [World.cell?, blk], fun o => by simp [World.frozen?, blk]⟩

set_option maxHeartbeats 1000000 in
set_option maxRecDepth 100000 in
theorem put_new {b : Nat} {room puts : Int} {v : Value} {l : List (Ent ByteArray)} (x : ByteArray) (a c : Int) (w : World) (h : Heaps w b room puts v l) (hx : okW w (foot b v) x) (hno : ∀ y ∈ l, y.v ≠ x) (hroom : (l.length : Int) < room) (hp0 : 0 ≤ puts) (hp1 : puts ≤ 1000000000) :
    Calls Try.prog 25 #[.pointer (some ⟨b, 0, none⟩), .agg #[.string x, .string txW], .int .i64 a, .int .i64 c] w fun e w' => ∃ v', e = .returned (.bool true) ∧ Heaps w' b room (puts + 1) v' (l ++ [⟨x, a, c, puts + 1⟩]) ∧ Only (foot b v) w w' ∧ ∀ k ∈ foot b v', k ∈ foot b v ∨ w.heap.size ≤ k := by
  obtain ⟨es, hr, hh, hp, hi, h0, h1, h2⟩ := h
  have hlen := hp.length_eq
  have hes : ∀ y ∈ es, y.v ≠ x := fun y hy => hno y (hp.mem_iff.1 hy)
  have fa : ∀ w : World, Raw w b room puts v es → okW w (foot b v) x → Calls Try.prog 62 #[.pointer (some ⟨b, 0, none⟩), .agg #[.string x, .string txW]] w fun e w' => e = .returned (.int .i64 (-1)) ∧ Below w.heap.size w w' := fun w h hx =>
    (find_any x w h hx).mono fun e w' ⟨r, he, hc, hb⟩ => by
      rcases hc with ⟨rfl, _⟩ | ⟨i, y, _, hy, hv⟩
      · exact ⟨he, hb⟩
      · exact absurd hv (hes y (List.mem_of_getElem? hy))
  obtain ⟨ad, cap, hv⟩ := hr.slice
  generalize hn : es.length = n at hv
  subst hv
  have HN : Hid (es.length = n ∧ es.length = l.length ∧ (l.length : Int) < room) := ⟨hn, hlen, hroom⟩
  have hle : (n : Int) < room := by omega
  have hn1 : n < 1000 := by omega
  have HI : Hid (Heap es ∧ es.Perm l ∧ Items l puts ∧ (∀ y ∈ l, y.v ≠ x)) := ⟨hh, hp, hi, hno⟩
  obtain ⟨i0, hi0, hz0, hz1, hz2⟩ := info_parts infoE
  clear hn hlen h2 hes hno hroom hh hp hi
  have hle' : ¬ room ≤ (n : Int) := by omega
  have gA : Below w.heap.size w (w.alloc (.cells #[.string x, .string txW] 48)) := (Below.refl _ _).alloc (Nat.le_refl _) _
  have h1' := hr.below gA
  clear hr
  go_enter Try.func25, Try.ntmps25
  go_wp2_with (go_at_call 62; refine (fa _ h1' trivial).mono ?_; rintro e w1 ⟨rfl, g1⟩; have r1 := h1'.below g1; have c2 := r1.c2; have c0 := r1.c0; clear h1')
  go_quiet (fail)
  generalize hW1 : w1.drewN _ = W1
  have gW : Below w1.heap.size w1 W1 := by rw [← hW1]; exact below_drewN _ _
  replace r1 := r1.below gW
  have gB : Below (w.alloc (.cells #[.string x, .string txW] 48)).heap.size (w.alloc (.cells #[.string x, .string txW] 48)) W1 := g1.trans (gW.mono g1.size)
  have bx0 : W1.cell? ⟨w.heap.size, 0, none⟩ = some (.string x) := (gB.cell (p := ⟨w.heap.size, 0, none⟩) (by simp)).trans (by simp)
  have bx1 : W1.cell? ⟨w.heap.size, 1, none⟩ = some (.string txW) := (gB.cell (p := ⟨w.heap.size, 1, none⟩) (by simp)).trans (by simp)
  have zs : w.heap.size < W1.heap.size := by have := gB.size; simp at this; omega
  clear c2 c0 hW1
  have c2 := r1.c2
  have c1 := r1.c1
  have bl := r1.lt
  have fb : ∀ o, W1.frozen? ⟨b, o, none⟩ = false := r1.fz
  have H1 : Hid (Raw W1 b room puts (.slice ad n cap) es) := r1
  have own : W1.ownsRow (b + 1) 104 5 (.slice ad n cap) n (cells5 es) := by have := r1.own; rw [HN.out.1] at this; exact this
  clear r1
  go_wp2
  go_region_law ((refine RH.step_append_at _ (by rfl) (.tmp 36) (.tmp 39) 97 (by rfl) (b + 1) 104 i0 (.agg #[.string ⟨#[]⟩, .string ⟨#[]⟩, .int .i64 0, .int .i64 0, .int .i64 0]) 5 56 Try.underlying97 hi0 hz0 hz1 hz2 rfl (by decide) (.slice ad n cap) n (cells5 es) (by rfl) (own.alloc _).drew ⟨W1.heap.size, 0, none⟩ 1 1 [.string x, .string txW, .int .i64 0, .int .i64 0, .int .i64 0] (by rfl) (by rfl) (cell_five_new W1 _ _ _ _ _ _) (by intro u hu; simp at hu; rcases hu with rfl | rfl | rfl <;> rfl) (by unfold maxLen; omega) (by omega) (by simp; omega) ?_; intro v2 w2 own2 grow2 at2; obtain ⟨g, cap2, rfl, r2, o2, f2, d2, d1, db⟩ := put_grow (o := .cells #[.string x, .string txW, .int .i64 0, .int .i64 0, .int .i64 0] 104) H1.out trivial HN.out.1 hn1 own2 ⟨grow2.os, grow2.tape, grow2.output, grow2.size, grow2.block⟩ at2; have OO : Hid (W1.heap.size ≤ w2.heap.size) := (by have := grow2.size; simp at this; show _ ≤ _; omega); clear own2 grow2 at2 c2 c1 fb))
  all_goals
    go_wp2
    obtain ⟨r3, o3'⟩ := r2.puts (puts + 1)
    obtain ⟨y, hy, hyx⟩ : ∃ y, (es ++ [⟨x, 0, 0, 0⟩])[n]? = some y ∧ y.v = x := ⟨⟨x, 0, 0, 0⟩, by rw [List.getElem?_append_right (by have := HN.out; omega)]; simp [HN.out.1], rfl⟩
    have HX : Hid (y.v = x) := hyx
    clear hyx
    clear r2 d2 d1 db
    replace r2 := r3
    clear r3
    generalize hW : ((w2.setCell ⟨b, 2, none⟩ (.slice (some ⟨g, 0, none⟩) (n + 1) cap2)).setCell ⟨b, 1, none⟩ (.int .i64 (puts + 1))) = W at *
    have c2 := r2.c2
    have c1 := r2.c1
    obtain ⟨-, p1, p2, p3⟩ := r2.at hy
    have fz : ∀ o, W.frozen? ⟨g, o, none⟩ = false := by have e := r2.len; have q := r2.own; rw [← e] at q; exact q.frozenAt
    have gb := (r2.gt g rfl).1
    have H2 : Hid (Raw W b room (puts + 1) (.slice (some ⟨g, 0, none⟩) (n + 1) cap2) (es ++ [⟨x, 0, 0, 0⟩])) := r2
    have HY : Hid ((es ++ [⟨x, 0, 0, 0⟩])[n]? = some y) := hy
    clear r2 hy hW
    go_region
    obtain ⟨r3, o3⟩ := H2.out.key HY.out a c (puts + 1)
    have hl : n < ((es ++ [(⟨x, 0, 0, 0⟩ : Ent ByteArray)]).set n ⟨y.v, a, c, puts + 1⟩).length := by have := HN.out; simp; omega
    have hset : (es ++ [(⟨x, 0, 0, 0⟩ : Ent ByteArray)]).set n ⟨y.v, a, c, puts + 1⟩ = es ++ [(⟨x, a, c, puts + 1⟩ : Ent ByteArray)] := by
      rw [HX.out, List.set_append_right _ _ (by have := HN.out; omega), HN.out.1]; simp
    have hnear : Near ((es ++ [(⟨x, 0, 0, 0⟩ : Ent ByteArray)]).set n ⟨y.v, a, c, puts + 1⟩) n := by rw [hset]; have := near_snoc HI.out.1 (⟨x, a, c, puts + 1⟩ : Ent ByteArray); rwa [HN.out.1] at this
    have HS : Hid ((es ++ [(⟨x, 0, 0, 0⟩ : Ent ByteArray)]).set n ⟨y.v, a, c, puts + 1⟩ = es ++ [(⟨x, a, c, puts + 1⟩ : Ent ByteArray)]) := hset
    clear hset
    go_wp2_with (go_at_call 63; refine (settle_any n _ r3.drew hl hnear).mono ?_; rintro e w3 ⟨fs, rfl, hh, hp, hr4, o4⟩)
    go_ret
    obtain ⟨i1, i2, i3, i4⟩ := HI.out
    rw [HS.out] at hp
    have pm := perm_snoc i2 i4 ⟨x, a, c, puts + 1⟩
    have it := i3.put x a c
    rw [less_none i4] at pm it
    have ln := (hp.trans pm).length_eq
    have lf := hp.length_eq
    have ow : Only (foot b (.slice ad n cap)) w W1 := (Below.only gA _).trans (Below.only gB []) (by simp)
    refine ⟨_, rfl, ⟨fs, hr4, hh, hp.trans pm, it, h0, h1, ?_⟩, ?_, ?_⟩
    · have := HN.out; simp; omega
    · have fw : ∀ k ∈ foot b (.slice (some ⟨g, 0, none⟩) (n + 1) cap2), k ∈ foot b (.slice ad n cap) ∨ w.heap.size ≤ k := fun k hk => by
        rcases f2 k hk with q | q
        · exact .inl q
        · exact .inr (Nat.le_trans ow.size q)
      exact (((ow.trans o2 (fun k hk => .inl hk)).trans o3' fw).trans o3 fw).drew.trans o4 fw
    · intro k hk
      rcases f2 k hk with q | q
      · exact .inl q
      · exact .inr (Nat.le_trans ow.size q)
end Go.Proofs.Ytbfbijfedamgaaa.HW

/- The contracts of the heap's remove, Drop and Key at hortator/hortatorlaw2.pair. -/
namespace Go.Proofs.Ytbfbijfedamgaaa.HW
open Go.RowKit

/-- The last place is let go, whatever was laid into it. -/
theorem Raw.shrink {w : World} {b g m cap : Nat} {room puts : Int} {es : List (Ent ByteArray)} (h : Raw w b room puts (.slice (some ⟨g, 0, none⟩) (m + 1) cap) es) (u0 u9 u1 u2 u3 : Value) :
    Raw ((((((w.setCell ⟨g, m * 5, none⟩ u0).setCell ⟨g, m * 5 + 1, none⟩ u9).setCell ⟨g, m * 5 + 2, none⟩ u1).setCell ⟨g, m * 5 + 3, none⟩ u2).setCell ⟨g, m * 5 + 4, none⟩ u3).setCell ⟨b, 2, none⟩ (.slice (some ⟨g, 0, none⟩) m cap)) b room puts (.slice (some ⟨g, 0, none⟩) m cap) (es.take m) ∧
    Only (foot b (.slice (some ⟨g, 0, none⟩) (m + 1) cap)) w ((((((w.setCell ⟨g, m * 5, none⟩ u0).setCell ⟨g, m * 5 + 1, none⟩ u9).setCell ⟨g, m * 5 + 2, none⟩ u1).setCell ⟨g, m * 5 + 3, none⟩ u2).setCell ⟨g, m * 5 + 4, none⟩ u3).setCell ⟨b, 2, none⟩ (.slice (some ⟨g, 0, none⟩) m cap)) := by
  have hg := h.gt g rfl
  have mg : g ∈ foot b (.slice (some ⟨g, 0, none⟩) (m + 1) cap) := mem_foot_slice
  have mb : b ∈ foot b (.slice (some ⟨g, 0, none⟩) (m + 1) cap) := mem_foot
  have on : Only (foot b (.slice (some ⟨g, 0, none⟩) (m + 1) cap)) w ((((((w.setCell ⟨g, m * 5, none⟩ u0).setCell ⟨g, m * 5 + 1, none⟩ u9).setCell ⟨g, m * 5 + 2, none⟩ u1).setCell ⟨g, m * 5 + 3, none⟩ u2).setCell ⟨g, m * 5 + 4, none⟩ u3).setCell ⟨b, 2, none⟩ (.slice (some ⟨g, 0, none⟩) m cap)) :=
    ((((((Only.refl _ w).setCell (p := ⟨g, m * 5, none⟩) mg _).setCell (p := ⟨g, m * 5 + 1, none⟩) mg _).setCell (p := ⟨g, m * 5 + 2, none⟩) mg _).setCell (p := ⟨g, m * 5 + 3, none⟩) mg _).setCell (p := ⟨g, m * 5 + 4, none⟩) mg _).setCell (p := ⟨b, 2, none⟩) mb _
  have hn := h.len
  have o0 := h.own
  rw [← hn] at o0
  have o := (((((o0.stored (m * 5) u0).1.stored (m * 5 + 1) u9).1.stored (m * 5 + 2) u1).1.stored (m * 5 + 3) u2).1.stored (m * 5 + 4) u3).1
  refine ⟨⟨?_, ?_, fun z hz => ?_, by have := h.few; simp; omega⟩, on⟩
  · have e : (((((w.setCell ⟨g, m * 5, none⟩ u0).setCell ⟨g, m * 5 + 1, none⟩ u9).setCell ⟨g, m * 5 + 2, none⟩ u1).setCell ⟨g, m * 5 + 3, none⟩ u2).setCell ⟨g, m * 5 + 4, none⟩ u3).heap[b]? = some (.cells #[.int .i64 room, .int .i64 puts, .slice (some ⟨g, 0, none⟩) (m + 1) cap] 99 (0, 0)) := by
      rw [Below.heap_setCell _ _ _ _ (by show b ≠ g; omega), Below.heap_setCell _ _ _ _ (by show b ≠ g; omega), Below.heap_setCell _ _ _ _ (by show b ≠ g; omega), Below.heap_setCell _ _ _ _ (by show b ≠ g; omega), Below.heap_setCell _ _ _ _ (by show b ≠ g; omega)]
      exact h.blk
    have := heap_setCell_same _ b 2 _ _ (.slice (some ⟨g, 0, none⟩) m cap) e
    simpa using this
  · have q := ownsRow_setCell_below o (a := ⟨b, 2, none⟩) (show b < b + 1 by omega) (.slice (some ⟨g, 0, none⟩) m cap)
    have ht : (es.take m).length = m := by simp; omega
    rw [ht, cells5_take]
    rcases q.2 with ⟨e, _⟩ | ⟨g', cap', cur, e, hb, hh, hnc, hcm, hcs, htk⟩
    · simp at e
    · simp only [Value.slice.injEq, Option.some.injEq, Addr.mk.injEq, and_true, true_and] at e
      obtain ⟨rfl, rfl⟩ := e
      refine ⟨by simp [cells5_length]; omega, .inr ⟨g, cap, cur, rfl, hb, hh, by omega, hcm, hcs, ?_⟩⟩
      have k := congrArg (List.take (m * 5)) htk
      rw [List.take_take, show min (m * 5) ((m + 1) * 5) = m * 5 by omega] at k
      rw [k]
      simp [List.take_set_of_le]
  · exact (h.ok z (List.mem_of_mem_take hz)).only on (fun k hk => .inl (by simpa [foot, Value.ownBlock] using hk))

set_option maxHeartbeats 2000000 in
set_option maxRecDepth 100000 in
theorem remove_any {b : Nat} {room puts : Int} {v : Value} {es : List (Ent ByteArray)} (i : Nat) (w : World) (h : Raw w b room puts v es) (hh : Heap es) (hi : i < es.length) :
    Calls Try.prog 66 #[.pointer (some ⟨b, 0, none⟩), .int .i64 i] w fun e w' => ∃ (fs : List (Ent ByteArray)) (v' : Value), e = .returned (.tuple #[]) ∧ Heap fs ∧ fs.Perm (es.eraseIdx i) ∧ Raw w' b room puts v' fs ∧ foot b v' = foot b v ∧ Only (foot b v) w w' := by
  rcases h.own.2 with ⟨rfl, hz⟩ | ⟨g, cap, cur, hv, -⟩
  · omega
  obtain ⟨m, hm⟩ : ∃ m, es.length = m + 1 := ⟨es.length - 1, by omega⟩
  rw [hm] at hv
  subst hv
  obtain ⟨z, hz⟩ : ∃ z, es[m]? = some z := ⟨_, List.getElem?_eq_getElem (by omega)⟩
  obtain ⟨x, hx⟩ : ∃ x, es[i]? = some x := ⟨_, List.getElem?_eq_getElem hi⟩
  have hl := h.few
  have c2 := h.c2
  obtain ⟨⟨z0, z9⟩, z1, z2, z3⟩ := h.at hz
  obtain ⟨⟨x0, x9⟩, x1, x2, x3⟩ := h.at hx
  have own := h.own
  rw [hm] at own
  have fz := own.frozenAt
  have hcap : m + 1 ≤ cap := by
    rcases own.2 with ⟨e, _⟩ | ⟨g', cap', cur', e, _, _, hc, _⟩
    · simp at e
    · simp at e; omega
  have hcap' : (m : Int) ≤ (cap : Int) := by omega
  have hcap0 : ¬ cap = 0 := by omega
  have gb := (h.gt g rfl).1
  have bg : ¬ b = g := by omega
  have bg' : ¬ g = b := by omega
  have em : ((m + 1 : Nat) : Int) - 1 = (m : Int) := by omega
  have fb := h.fz 2
  have him : i < m + 1 := by omega
  have hm1 : m < 1000 := by omega
  have H1 : Hid (Raw w b room puts (.slice (some ⟨g, 0, none⟩) (m + 1) cap) es) := h
  have HE : Hid (es.length = m + 1 ∧ es[m]? = some z ∧ es[i]? = some x ∧ Heap es) := ⟨hm, hz, hx, hh⟩
  clear h own hm hz hx hh hi
  go_enter Try.func66, Try.ntmps66
  go_wp2
  go_region
  obtain ⟨r1, o1⟩ := H1.out.put4 i z (H1.out.ok z (List.mem_of_getElem? HE.out.2.1))
  replace r1 := r1.drew
  replace o1 := o1.drew
  generalize hW : World.drew _ = W1 at r1 o1 ⊢
  clear hW c2 z0 z9 z1 z2 z3 x0 x9 x1 x2 x3 fz fb
  have c2 := r1.c2
  obtain ⟨q, hq⟩ : ∃ q, (es.set i z)[m]? = some q := ⟨_, List.getElem?_eq_getElem (by have := HE.out.1; simp; omega)⟩
  obtain ⟨⟨z0, z9⟩, z1, z2, z3⟩ := r1.at hq
  have fz : ∀ o, W1.frozen? ⟨g, o, none⟩ = false := by have e := r1.len; have q := r1.own; rw [← e] at q; exact q.frozenAt
  have fb := r1.fz 2
  have R1 : Hid (Raw W1 b room puts (.slice (some ⟨g, 0, none⟩) (m + 1) cap) (es.set i z)) := r1
  clear r1 hq
  obtain ⟨r2, o2⟩ := R1.out.shrink (.string ⟨#[]⟩) (.string ⟨#[]⟩) (.int .i64 0) (.int .i64 0) (.int .i64 0)
  have e1 : (es.set i z).take m = fill es i z := by
    unfold fill; rw [HE.out.1, Nat.add_sub_cancel, List.take_set]
  rw [e1] at r2
  have R2 : Hid (Raw ((((((W1.setCell ⟨g, m * 5, none⟩ (.string ⟨#[]⟩)).setCell ⟨g, m * 5 + 1, none⟩ (.string ⟨#[]⟩)).setCell ⟨g, m * 5 + 2, none⟩ (.int .i64 0)).setCell ⟨g, m * 5 + 3, none⟩ (.int .i64 0)).setCell ⟨g, m * 5 + 4, none⟩ (.int .i64 0)).setCell ⟨b, 2, none⟩ (.slice (some ⟨g, 0, none⟩) m cap)) b room puts (.slice (some ⟨g, 0, none⟩) m cap) (fill es i z)) := r2
  clear r2 e1
  have hf : foot b (.slice (some ⟨g, 0, none⟩) m cap) = foot b (.slice (some ⟨g, 0, none⟩) (m + 1) cap) := rfl
  have HF : Hid (foot b (.slice (some ⟨g, 0, none⟩) m cap) = foot b (.slice (some ⟨g, 0, none⟩) (m + 1) cap)) := hf
  clear hf
  have hlen : m = (fill es i z).length := by rw [fill_length, HE.out.1]; omega
  have HL : Hid (m = (fill es i z).length) := hlen
  clear hlen
  have hper : Hid ((fill es i z).Perm (es.eraseIdx i)) := fill_perm (by rw [HE.out.1]; exact him) (by rw [HE.out.1]; exact HE.out.2.1)
  by_cases hlt : i < m
  · have hnear : Hid (Near (fill es i z) i) := fill_near HE.out.2.2.2 i z
    go_wp2_with (go_at_call 63; refine (settle_any i _ R2.out (by rw [← HL.out]; exact hlt) hnear.out).mono ?_; rintro e w3 ⟨fs, rfl, hh, hp, hr4, o4⟩)
    go_end0
    exact ⟨fs, _, rfl, hh, hp.trans hper.out, hr4, HF.out, (o1.trans o2 (fun k hk => .inl hk)).trans o4 (fun k hk => .inl (HF.out ▸ hk))⟩
  · have hi : i = m := by omega
    have hfin : Heap (fill es i z) := by rw [hi]; have := fill_last HE.out.2.2.2 z; rwa [HE.out.1, Nat.add_sub_cancel] at this
    have HFin : Hid (Heap (fill es i z)) := hfin
    clear hfin hi
    go_wp2
    go_end0
    exact ⟨_, _, rfl, HFin.out, hper.out, R2.out, HF.out, o1.trans o2 (fun k hk => .inl hk)⟩

end Go.Proofs.Ytbfbijfedamgaaa.HW

/- The contract of the heap's Take at hortator/hortatorlaw2.pair. -/
namespace Go.Proofs.Ytbfbijfedamgaaa.HW
open Go.RowKit

set_option maxHeartbeats 400000 in
theorem take_none {b : Nat} {room puts : Int} {v : Value} (w : World) (h : Heaps w b room puts v []) :
    Calls Try.prog 27 #[.pointer (some ⟨b, 0, none⟩)] w fun e w' => e = .returned (.tuple #[.agg #[.string ⟨#[]⟩, .string ⟨#[]⟩], .bool false]) ∧ Below w.heap.size w w' := by
  have gA : Below w.heap.size w (w.alloc (.cells #[.string ⟨#[]⟩, .string ⟨#[]⟩] 48)) := (Below.refl _ _).alloc (Nat.le_refl _) _
  have h1 := h.below gA
  clear h
  go_enter Try.func27, Try.ntmps27
  go_wp2_with (go_at_call 65; refine (first_none _ h1).mono ?_; rintro e w1 ⟨rfl, g1⟩; have zs : w.heap.size < w1.heap.size := (by have := g1.size; simp at this; omega); have e0 := (g1.cell (p := ⟨w.heap.size, 0, none⟩) (by simp)); have e1 := (g1.cell (p := ⟨w.heap.size, 1, none⟩) (by simp)); have e2 := (g1.frozen (p := ⟨w.heap.size, 0, none⟩) (by simp)); have e3 := (g1.frozen (p := ⟨w.heap.size, 1, none⟩) (by simp)); simp at e0 e1 e2 e3)
  refine bodyPost_ret (v := .tuple #[.agg #[.string ⟨#[]⟩, .string ⟨#[]⟩], .bool false]) (by simp [results, Try.results27, go_sem, e0, e1, zs]) rfl ⟨rfl, ?_⟩
  have gB : Below w.heap.size w w1 := gA.trans (g1.mono (by simp))
  exact Below.alloc (Below.setCell (Below.setCell gB (p := ⟨w.heap.size, 0, none⟩) (Nat.le_refl _) _) (p := ⟨w.heap.size, 1, none⟩) (Nat.le_refl _) _) (by simpa using gB.size) _

set_option maxHeartbeats 1000000 in
theorem take_some {b : Nat} {room puts : Int} {v : Value} {l : List (Ent ByteArray)} (w : World) (h : Heaps w b room puts v l) (hl : l ≠ []) :
    Calls Try.prog 27 #[.pointer (some ⟨b, 0, none⟩)] w fun e w' => ∃ x v', IsFirst l x ∧ e = .returned (.tuple #[.agg #[.string x.v, .string txW], .bool true]) ∧ Heaps w' b room puts v' (less l x.v) ∧ foot b v' = foot b v ∧ Only (foot b v) w w' := by
  obtain ⟨es, x, hr, hh, hp, hi, h0, h1, h2, hx, hf⟩ := h.top hl
  have il := lt_of_some hx
  have fl := hr.foot_lt
  have HI : Hid (Heap es ∧ es.Perm l ∧ Items l puts ∧ (l.length : Int) ≤ room ∧ es[0]? = some x ∧ IsFirst l x) := ⟨hh, hp, hi, h2, hx, hf⟩
  have gA : Below w.heap.size w (w.alloc (.cells #[.string ⟨#[]⟩, .string ⟨#[]⟩] 48)) := (Below.refl _ _).alloc (Nat.le_refl _) _
  have r0 := hr.below gA
  have CT := first_raw _ r0 hx
  have R0 : Hid (Raw (w.alloc (.cells #[.string ⟨#[]⟩, .string ⟨#[]⟩] 48)) b room puts v es) := r0
  clear h hl hh hp hi h2 hx hf hr r0
  go_enter Try.func27, Try.ntmps27
  go_wp2_with fail
  refine CT.mono ?_
  rintro e w1 ⟨rfl, g1⟩
  clear CT
  have gB : Below w1.heap.size w1 (w1.alloc (.cells #[.string x.v, .string txW] 48)) := (Below.refl _ _).alloc (Nat.le_refl _) _
  have zs : w.heap.size < w1.heap.size := by have := g1.size; simp at this; omega
  have rB := (R0.out.below g1).below gB
  go_wp2_with fail
  refine (remove_any 0 _ rB HI.out.1 il).mono ?_
  rintro e w2 ⟨fs, v2, rfl, hh2, hp2, hr2, hf2, ho2⟩
  have n1 : w1.heap.size ∉ foot b v := fun m => by have := fl _ m; omega
  have n2 : w.heap.size ∉ foot b v := fun m => by have := fl _ m; omega
  have bq : w2.heap[w1.heap.size]? = some (.cells #[.string x.v, .string txW] 48 (0, 0)) := by rw [ho2.block _ (by simp) n1]; exact heap_alloc_new _ _
  have bz : w2.heap[w.heap.size]? = some (.cells #[.string ⟨#[]⟩, .string ⟨#[]⟩] 48 (0, 0)) := by
    rw [ho2.block _ (by simp; omega) n2, Below.heap_alloc _ _ _ zs, g1.block _ (by simp)]
    exact heap_alloc_new _ _
  have d0 : w2.cell? ⟨w1.heap.size, 0, none⟩ = some (.string x.v) := by simp [World.cell?, bq]
  have d1 : w2.cell? ⟨w1.heap.size, 1, none⟩ = some (.string txW) := by simp [World.cell?, bq]
  have c0 : w2.cell? ⟨w.heap.size, 0, none⟩ = some (.string ⟨#[]⟩) := by simp [World.cell?, bz]
  have c1 : w2.cell? ⟨w.heap.size, 1, none⟩ = some (.string ⟨#[]⟩) := by simp [World.cell?, bz]
  have f0 : w2.frozen? ⟨w.heap.size, 0, none⟩ = false := by simp [World.frozen?, bz]
  have f1 : w2.frozen? ⟨w.heap.size, 1, none⟩ = false := by simp [World.frozen?, bz]
  have ow : Only (foot b v) w w2 := (((Below.only gA (foot b v)).trans (Below.only g1 []) (by simp)).trans (Below.only gB []) (by simp)).trans ho2 (fun k hk => .inl hk)
  have HR : Hid (Raw w2 b room puts v2 fs ∧ foot b v2 = foot b v ∧ Heap fs ∧ fs.Perm (es.eraseIdx 0) ∧ Only (foot b v) w w2) := ⟨hr2, hf2, hh2, hp2, ow⟩
  clear hr2 hf2 hh2 hp2 ho2 bq bz rB ow
  go_wp2
  have fin : Only [w.heap.size] w2 ((w2.setCell ⟨w.heap.size, 0, none⟩ (.string x.v)).setCell ⟨w.heap.size, 1, none⟩ (.string txW)) := ((Only.refl _ w2).setCell (p := ⟨w.heap.size, 0, none⟩) (by simp) _).setCell (p := ⟨w.heap.size, 1, none⟩) (by simp) _
  obtain ⟨k1, k2, k3, k4, k5⟩ := HR.out
  refine bodyPost_ret (v := .tuple #[.agg #[.string x.v, .string txW], .bool true]) (by simp [results, Try.results27, go_sem, c0, c1]) rfl ⟨x, v2, HI.out.2.2.2.2.2, rfl, ?_, k2, ?_⟩
  · obtain ⟨i1, i2, i3, i4, i5, i6⟩ := HI.out
    have pm := perm_erase i2 i3 i5
    refine ⟨fs, k1.only fin (fun k hk m => ?_) (fun _ _ => trivial), k3, k4.trans pm, i3.less x.v, h0, h1, ?_⟩
    · simp at m; subst m; rw [k2] at hk; exact n2 hk
    · have : (less l x.v).length ≤ l.length := List.length_filter_le _ _
      omega
  · exact k5.trans fin (fun k hk => .inr (by simp at hk; omega))
end Go.Proofs.Ytbfbijfedamgaaa.HW

/- A heap of hortator/hortatorlaw2.pair among a few things; the order in which things come. -/
namespace Go.Proofs.Ytbfbijfedamgaaa.HW
open Go.RowKit
theorem keeps {b : Nat} {room puts : Int} {v : Value} {l : List (Ent ByteArray)} : Stays (foot b v) (fun u => Heaps u b room puts v l) := by
  intro w w' S h g hS
  obtain ⟨es, r, x⟩ := h
  exact ⟨es, r.only g hS (fun _ _ => trivial), x⟩
theorem few_put {W w w' : World} {b : Nat} {room puts puts' : Int} {v v' : Value} {l l' : List (Ent ByteArray)} {fs : List Thing} (m : Few W fs w) (i : Nat) (hi : fs[i]? = some (foot b v, fun u => Heaps u b room puts v l)) (h : Heaps w' b room puts' v' l') (o : Only (foot b v) w w') (f : ∀ k ∈ foot b v', k ∈ foot b v ∨ w.heap.size ≤ k) : Few W (fs.set i (foot b v', fun u => Heaps u b room puts' v' l')) w' := by
  have e : (fs.getD i nothing).1 = foot b v := by simp [List.getD, hi]
  exact m.turn i (List.getElem?_eq_some_iff.1 hi).1 (by rw [e]; exact o) h h.foot_lt (by rw [e]; exact f) keeps
theorem few_set {W w w' : World} {b : Nat} {room puts puts' : Int} {v v' : Value} {l l' : List (Ent ByteArray)} {fs : List Thing} (m : Few W fs w) (i : Nat) (hi : fs[i]? = some (foot b v, fun u => Heaps u b room puts v l)) (h : Heaps w' b room puts' v' l') (o : Only (foot b v) w w') (f : foot b v' = foot b v) : Few W (fs.set i (foot b v', fun u => Heaps u b room puts' v' l')) w' :=
  few_put m i hi h o (fun _ hk => .inl (f ▸ hk))
theorem Heaps.items {w : World} {b : Nat} {room puts : Int} {v : Value} {l : List (Ent ByteArray)} (h : Heaps w b room puts v l) : Items l puts := by
  obtain ⟨es, _, _, _, hi, _⟩ := h
  exact hi
end Go.Proofs.Ytbfbijfedamgaaa.HW

/- The contracts of the heap's remove, Drop and Key at string. -/
namespace Go.Proofs.Ytbfbijfedamgaaa.HS
open Go.RowKit

/-- The last place is let go, whatever was laid into it. -/
theorem Raw.shrink {w : World} {b g m cap : Nat} {room puts : Int} {es : List (Ent ByteArray)} (h : Raw w b room puts (.slice (some ⟨g, 0, none⟩) (m + 1) cap) es) (u0 u1 u2 u3 : Value) :
    Raw (((((w.setCell ⟨g, m * 4, none⟩ u0).setCell ⟨g, m * 4 + 1, none⟩ u1).setCell ⟨g, m * 4 + 2, none⟩ u2).setCell ⟨g, m * 4 + 3, none⟩ u3).setCell ⟨b, 2, none⟩ (.slice (some ⟨g, 0, none⟩) m cap)) b room puts (.slice (some ⟨g, 0, none⟩) m cap) (es.take m) ∧
    Only (foot b (.slice (some ⟨g, 0, none⟩) (m + 1) cap)) w (((((w.setCell ⟨g, m * 4, none⟩ u0).setCell ⟨g, m * 4 + 1, none⟩ u1).setCell ⟨g, m * 4 + 2, none⟩ u2).setCell ⟨g, m * 4 + 3, none⟩ u3).setCell ⟨b, 2, none⟩ (.slice (some ⟨g, 0, none⟩) m cap)) := by
  have hg := h.gt g rfl
  have mg : g ∈ foot b (.slice (some ⟨g, 0, none⟩) (m + 1) cap) := mem_foot_slice
  have mb : b ∈ foot b (.slice (some ⟨g, 0, none⟩) (m + 1) cap) := mem_foot
  have on : Only (foot b (.slice (some ⟨g, 0, none⟩) (m + 1) cap)) w (((((w.setCell ⟨g, m * 4, none⟩ u0).setCell ⟨g, m * 4 + 1, none⟩ u1).setCell ⟨g, m * 4 + 2, none⟩ u2).setCell ⟨g, m * 4 + 3, none⟩ u3).setCell ⟨b, 2, none⟩ (.slice (some ⟨g, 0, none⟩) m cap)) :=
    (((((Only.refl _ w).setCell (p := ⟨g, m * 4, none⟩) mg _).setCell (p := ⟨g, m * 4 + 1, none⟩) mg _).setCell (p := ⟨g, m * 4 + 2, none⟩) mg _).setCell (p := ⟨g, m * 4 + 3, none⟩) mg _).setCell (p := ⟨b, 2, none⟩) mb _
  have hn := h.len
  have o0 := h.own
  rw [← hn] at o0
  have o := ((((o0.stored (m * 4) u0).1.stored (m * 4 + 1) u1).1.stored (m * 4 + 2) u2).1.stored (m * 4 + 3) u3).1
  refine ⟨⟨?_, ?_, fun z hz => ?_, by have := h.few; simp; omega⟩, on⟩
  · have e : ((((w.setCell ⟨g, m * 4, none⟩ u0).setCell ⟨g, m * 4 + 1, none⟩ u1).setCell ⟨g, m * 4 + 2, none⟩ u2).setCell ⟨g, m * 4 + 3, none⟩ u3).heap[b]? = some (.cells #[.int .i64 room, .int .i64 puts, .slice (some ⟨g, 0, none⟩) (m + 1) cap] 96 (0, 0)) := by
      rw [Below.heap_setCell _ _ _ _ (by show b ≠ g; omega), Below.heap_setCell _ _ _ _ (by show b ≠ g; omega), Below.heap_setCell _ _ _ _ (by show b ≠ g; omega), Below.heap_setCell _ _ _ _ (by show b ≠ g; omega)]
      exact h.blk
    have := heap_setCell_same _ b 2 _ _ (.slice (some ⟨g, 0, none⟩) m cap) e
    simpa using this
  · have q := ownsRow_setCell_below o (a := ⟨b, 2, none⟩) (show b < b + 1 by omega) (.slice (some ⟨g, 0, none⟩) m cap)
    have ht : (es.take m).length = m := by simp; omega
    rw [ht, cellsOf_take]
    rcases q.2 with ⟨e, _⟩ | ⟨g', cap', cur, e, hb, hh, hnc, hcm, hcs, htk⟩
    · simp at e
    · simp only [Value.slice.injEq, Option.some.injEq, Addr.mk.injEq, and_true, true_and] at e
      obtain ⟨rfl, rfl⟩ := e
      refine ⟨by simp [cellsOf_length]; omega, .inr ⟨g, cap, cur, rfl, hb, hh, by omega, hcm, hcs, ?_⟩⟩
      have k := congrArg (List.take (m * 4)) htk
      rw [List.take_take, show min (m * 4) ((m + 1) * 4) = m * 4 by omega] at k
      rw [k]
      simp [List.take_set_of_le]
  · exact (h.ok z (List.mem_of_mem_take hz)).only on (fun k hk => .inl (by simpa [foot, Value.ownBlock] using hk))

set_option maxHeartbeats 2000000 in
set_option maxRecDepth 100000 in
theorem remove_any {b : Nat} {room puts : Int} {v : Value} {es : List (Ent ByteArray)} (i : Nat) (w : World) (h : Raw w b room puts v es) (hh : Heap es) (hi : i < es.length) :
    Calls Try.prog 64 #[.pointer (some ⟨b, 0, none⟩), .int .i64 i] w fun e w' => ∃ (fs : List (Ent ByteArray)) (v' : Value), e = .returned (.tuple #[]) ∧ Heap fs ∧ fs.Perm (es.eraseIdx i) ∧ Raw w' b room puts v' fs ∧ foot b v' = foot b v ∧ Only (foot b v) w w' := by
  rcases h.own.2 with ⟨rfl, hz⟩ | ⟨g, cap, cur, hv, -⟩
  · omega
  obtain ⟨m, hm⟩ : ∃ m, es.length = m + 1 := ⟨es.length - 1, by omega⟩
  rw [hm] at hv
  subst hv
  obtain ⟨z, hz⟩ : ∃ z, es[m]? = some z := ⟨_, List.getElem?_eq_getElem (by omega)⟩
  obtain ⟨x, hx⟩ : ∃ x, es[i]? = some x := ⟨_, List.getElem?_eq_getElem hi⟩
  have hl := h.few
  have c2 := h.c2
  obtain ⟨z0, z1, z2, z3⟩ := h.at hz
  obtain ⟨x0, x1, x2, x3⟩ := h.at hx
  have own := h.own
  rw [hm] at own
  have fz := own.frozenAt
  have hcap : m + 1 ≤ cap := by
    rcases own.2 with ⟨e, _⟩ | ⟨g', cap', cur', e, _, _, hc, _⟩
    · simp at e
    · simp at e; omega
  have hcap' : (m : Int) ≤ (cap : Int) := by omega
  have hcap0 : ¬ cap = 0 := by omega
  have gb := (h.gt g rfl).1
  have bg : ¬ b = g := by omega
  have bg' : ¬ g = b := by omega
  have em : ((m + 1 : Nat) : Int) - 1 = (m : Int) := by omega
  have fb := h.fz 2
  have him : i < m + 1 := by omega
  have hm1 : m < 1000 := by omega
  have H1 : Hid (Raw w b room puts (.slice (some ⟨g, 0, none⟩) (m + 1) cap) es) := h
  have HE : Hid (es.length = m + 1 ∧ es[m]? = some z ∧ es[i]? = some x ∧ Heap es) := ⟨hm, hz, hx, hh⟩
  clear h own hm hz hx hh hi
  unfold mkS at z0 x0
  go_enter Try.func64, Try.ntmps64
  go_wp2
  go_region
  obtain ⟨r1, o1⟩ := H1.out.put4 i z (H1.out.ok z (List.mem_of_getElem? HE.out.2.1))
  replace r1 := r1.drew
  replace o1 := o1.drew
  unfold mkS at r1 o1
  generalize hW : World.drew _ = W1 at r1 o1 ⊢
  clear hW c2 z0 z1 z2 z3 x0 x1 x2 x3 fz fb
  have c2 := r1.c2
  obtain ⟨q, hq⟩ : ∃ q, (es.set i z)[m]? = some q := ⟨_, List.getElem?_eq_getElem (by have := HE.out.1; simp; omega)⟩
  obtain ⟨z0, z1, z2, z3⟩ := r1.at hq
  have fz : ∀ o, W1.frozen? ⟨g, o, none⟩ = false := by have e := r1.len; have q := r1.own; rw [← e] at q; exact q.frozenAt
  have fb := r1.fz 2
  have R1 : Hid (Raw W1 b room puts (.slice (some ⟨g, 0, none⟩) (m + 1) cap) (es.set i z)) := r1
  clear r1 hq
  unfold mkS at z0
  obtain ⟨r2, o2⟩ := R1.out.shrink (.string ⟨#[]⟩) (.int .i64 0) (.int .i64 0) (.int .i64 0)
  have e1 : (es.set i z).take m = fill es i z := by
    unfold fill; rw [HE.out.1, Nat.add_sub_cancel, List.take_set]
  rw [e1] at r2
  have R2 : Hid (Raw (((((W1.setCell ⟨g, m * 4, none⟩ (.string ⟨#[]⟩)).setCell ⟨g, m * 4 + 1, none⟩ (.int .i64 0)).setCell ⟨g, m * 4 + 2, none⟩ (.int .i64 0)).setCell ⟨g, m * 4 + 3, none⟩ (.int .i64 0)).setCell ⟨b, 2, none⟩ (.slice (some ⟨g, 0, none⟩) m cap)) b room puts (.slice (some ⟨g, 0, none⟩) m cap) (fill es i z)) := r2
  clear r2 e1
  have hf : foot b (.slice (some ⟨g, 0, none⟩) m cap) = foot b (.slice (some ⟨g, 0, none⟩) (m + 1) cap) := rfl
  have HF : Hid (foot b (.slice (some ⟨g, 0, none⟩) m cap) = foot b (.slice (some ⟨g, 0, none⟩) (m + 1) cap)) := hf
  clear hf
  have hlen : m = (fill es i z).length := by rw [fill_length, HE.out.1]; omega
  have HL : Hid (m = (fill es i z).length) := hlen
  clear hlen
  have hper : Hid ((fill es i z).Perm (es.eraseIdx i)) := fill_perm (by rw [HE.out.1]; exact him) (by rw [HE.out.1]; exact HE.out.2.1)
  by_cases hlt : i < m
  · have hnear : Hid (Near (fill es i z) i) := fill_near HE.out.2.2.2 i z
    go_wp2_with (go_at_call 61; refine (settle_any i _ R2.out (by rw [← HL.out]; exact hlt) hnear.out).mono ?_; rintro e w3 ⟨fs, rfl, hh, hp, hr4, o4⟩)
    go_end0
    exact ⟨fs, _, rfl, hh, hp.trans hper.out, hr4, HF.out, (o1.trans o2 (fun k hk => .inl hk)).trans o4 (fun k hk => .inl (HF.out ▸ hk))⟩
  · have hi : i = m := by omega
    have hfin : Heap (fill es i z) := by rw [hi]; have := fill_last HE.out.2.2.2 z; rwa [HE.out.1, Nat.add_sub_cancel] at this
    have HFin : Hid (Heap (fill es i z)) := hfin
    clear hfin hi
    go_wp2
    go_end0
    exact ⟨_, _, rfl, HFin.out, hper.out, R2.out, HF.out, o1.trans o2 (fun k hk => .inl hk)⟩

end Go.Proofs.Ytbfbijfedamgaaa.HS

/- The contract of the heap's Take at string. -/
namespace Go.Proofs.Ytbfbijfedamgaaa.HS
open Go.RowKit

set_option maxHeartbeats 400000 in
theorem take_none {b : Nat} {room puts : Int} {v : Value} (w : World) (h : Heaps w b room puts v []) :
    Calls Try.prog 26 #[.pointer (some ⟨b, 0, none⟩)] w fun e w' => e = .returned (.tuple #[.string ⟨#[]⟩, .bool false]) ∧ Below w.heap.size w w' := by
  go_enter Try.func26, Try.ntmps26
  go_wp2_with (go_at_call 47; refine (first_none _ h).mono ?_; rintro e w1 ⟨rfl, g1⟩)
  go_ret2
  exact ⟨rfl, g1⟩

set_option maxHeartbeats 400000 in
theorem take_some {b : Nat} {room puts : Int} {v : Value} {l : List (Ent ByteArray)} (w : World) (h : Heaps w b room puts v l) (hl : l ≠ []) :
    Calls Try.prog 26 #[.pointer (some ⟨b, 0, none⟩)] w fun e w' => ∃ x v', IsFirst l x ∧ e = .returned (.tuple #[mkS x.v, .bool true]) ∧ Heaps w' b room puts v' (less l x.v) ∧ foot b v' = foot b v ∧ Only (foot b v) w w' := by
  obtain ⟨es, x, hr, hh, hp, hi, h0, h1, h2, hx, hf⟩ := h.top hl
  have il := lt_of_some hx
  have HI : Hid (Heap es ∧ es.Perm l ∧ Items l puts ∧ (l.length : Int) ≤ room ∧ es[0]? = some x ∧ IsFirst l x) := ⟨hh, hp, hi, h2, hx, hf⟩
  have fr := fun w h => first_raw (b := b) (room := room) (puts := puts) (v := v) w h hx
  clear hh hp hi h2 hx hf hl
  go_enter Try.func26, Try.ntmps26
  go_wp2_with (first | (go_at_call 47; refine (fr _ hr).mono ?_; rintro e w1 ⟨rfl, hw⟩; subst w1) | (go_at_call 64; refine (remove_any 0 _ hr HI.out.1 il).mono ?_; rintro e w2 ⟨fs, v2, rfl, hh2, hp2, hr2, hf2, ho2⟩))
  go_ret2
  obtain ⟨i1, i2, i3, i4, i5, i6⟩ := HI.out
  have pm := perm_erase i2 i3 i5
  refine ⟨x, v2, i6, rfl, ⟨fs, hr2, hh2, hp2.trans pm, i3.less x.v, h0, h1, ?_⟩, hf2, ho2⟩
  have : (less l x.v).length ≤ l.length := List.length_filter_le _ _
  omega
end Go.Proofs.Ytbfbijfedamgaaa.HS

/- A heap of string among a few things; the order in which things come. -/
namespace Go.Proofs.Ytbfbijfedamgaaa.HS
open Go.RowKit
theorem keeps {b : Nat} {room puts : Int} {v : Value} {l : List (Ent ByteArray)} : Stays (foot b v) (fun u => Heaps u b room puts v l) := by
  intro w w' S h g hS
  obtain ⟨es, r, x⟩ := h
  exact ⟨es, r.only g hS (fun _ _ => trivial), x⟩
theorem few_put {W w w' : World} {b : Nat} {room puts puts' : Int} {v v' : Value} {l l' : List (Ent ByteArray)} {fs : List Thing} (m : Few W fs w) (i : Nat) (hi : fs[i]? = some (foot b v, fun u => Heaps u b room puts v l)) (h : Heaps w' b room puts' v' l') (o : Only (foot b v) w w') (f : ∀ k ∈ foot b v', k ∈ foot b v ∨ w.heap.size ≤ k) : Few W (fs.set i (foot b v', fun u => Heaps u b room puts' v' l')) w' := by
  have e : (fs.getD i nothing).1 = foot b v := by simp [List.getD, hi]
  exact m.turn i (List.getElem?_eq_some_iff.1 hi).1 (by rw [e]; exact o) h h.foot_lt (by rw [e]; exact f) keeps
theorem few_set {W w w' : World} {b : Nat} {room puts puts' : Int} {v v' : Value} {l l' : List (Ent ByteArray)} {fs : List Thing} (m : Few W fs w) (i : Nat) (hi : fs[i]? = some (foot b v, fun u => Heaps u b room puts v l)) (h : Heaps w' b room puts' v' l') (o : Only (foot b v) w w') (f : foot b v' = foot b v) : Few W (fs.set i (foot b v', fun u => Heaps u b room puts' v' l')) w' :=
  few_put m i hi h o (fun _ hk => .inl (f ▸ hk))
theorem Heaps.items {w : World} {b : Nat} {room puts : Int} {v : Value} {l : List (Ent ByteArray)} (h : Heaps w b room puts v l) : Items l puts := by
  obtain ⟨es, _, _, _, hi, _⟩ := h
  exact hi
end Go.Proofs.Ytbfbijfedamgaaa.HS

/- What comes in: slices of texts. -/
namespace Go.Proofs.Ytbfbijfedamgaaa
open Go.ChangeShapes Go.WideShapes Go.ChangeAt Go.RowKit
/-- The slice holds these texts. -/
def IsStrs (w : World) (a : Option Addr) (len : Nat) (zs : List ByteArray) : Prop :=
  zs.length = len ∧ len ≤ 9223372036854775807 ∧ ∀ i s, zs[i]? = some s → ∃ x, a = some x ∧ x.block < w.heap.size ∧ w.cell? (x.add i) = some (.string s)
set_option maxRecDepth 100000 in
theorem open_strs {H : Type} {enc : TypeId × Value → H} {w : World} {base fuel : Nat} {spare : Nat → Bool} {held : Bool} {x : DataW H × List MemPlace} {a : Option Addr} {len cap : Nat}
    (h : DataW.trod enc Try.prog w base spare held fuel 41 [.slice a len cap] = some x) : ∃ zs, IsStrs w a len zs := by
  rcases Go.Deep.open_slice Try.underlying41 h with ⟨hcs, _⟩ | ⟨y, l, c, m, n, D, Pl, hcs, _, hl, hm, hmm, _, hx⟩
  · simp at hcs
    obtain ⟨rfl, rfl, rfl⟩ := hcs
    exact ⟨[], rfl, by omega, fun i o hi => by simp at hi⟩
  · simp at hcs
    obtain ⟨rfl, rfl, rfl⟩ := hcs
    have hlm : len ≤ m := by rw [hmm]; split <;> omega
    have ce : Try.prog.cellsOf 9 = 1 := by kernel_rfl
    have each : ∀ i, i < len → ∃ o : ByteArray, y.block < w.heap.size ∧ w.cell? (y.add i) = some (.string o) := by
      intro i hi
      obtain ⟨cs', h1, h2⟩ := hx i (by omega)
      rw [ce] at h1
      have hblk := World.cells?_block h1 (by omega)
      rw [add_block] at hblk
      obtain ⟨_, hlen, hcell⟩ := World.cells?_some h1
      match cs', hlen with
      | [v0], _ =>
        obtain ⟨s, e0, _⟩ := DataW.trod_string Try.underlying9 h2
        simp only [List.cons.injEq, and_true] at e0
        subst e0
        have d0 := hcell 0 (by omega)
        rw [Go.Deep.add_add] at d0
        exact ⟨s, hblk, by simpa using d0⟩
    obtain ⟨f, hf⟩ := Go.Deep.choose_lt each
    refine ⟨(List.range len).map f, by simp, by unfold maxLen at hm; omega, fun i o hi => ?_⟩
    obtain ⟨hi1, hi2⟩ := List.getElem?_eq_some_iff.1 hi
    simp at hi1 hi2
    subst hi2
    exact ⟨y, rfl, hf i hi1⟩
end Go.Proofs.Ytbfbijfedamgaaa

/- What comes in: slices of numbers. -/
namespace Go.Proofs.Ytbfbijfedamgaaa
open Go.ChangeShapes Go.WideShapes Go.ChangeAt Go.RowKit
/-- The slice holds these numbers. -/
def IsLongs (w : World) (a : Option Addr) (len : Nat) (zs : List Int) : Prop :=
  zs.length = len ∧ len ≤ 9223372036854775807 ∧ ∀ i s, zs[i]? = some s → ∃ x, a = some x ∧ x.block < w.heap.size ∧ w.cell? (x.add i) = some (.int .i64 s)
set_option maxRecDepth 100000 in
theorem open_longs {H : Type} {enc : TypeId × Value → H} {w : World} {base fuel : Nat} {spare : Nat → Bool} {held : Bool} {x : DataW H × List MemPlace} {a : Option Addr} {len cap : Nat}
    (h : DataW.trod enc Try.prog w base spare held fuel 42 [.slice a len cap] = some x) : ∃ zs, IsLongs w a len zs := by
  rcases Go.Deep.open_slice Try.underlying42 h with ⟨hcs, _⟩ | ⟨y, l, c, m, n, D, Pl, hcs, _, hl, hm, hmm, _, hx⟩
  · simp at hcs
    obtain ⟨rfl, rfl, rfl⟩ := hcs
    exact ⟨[], rfl, by omega, fun i o hi => by simp at hi⟩
  · simp at hcs
    obtain ⟨rfl, rfl, rfl⟩ := hcs
    have hlm : len ≤ m := by rw [hmm]; split <;> omega
    have ce : Try.prog.cellsOf 2 = 1 := by kernel_rfl
    have each : ∀ i, i < len → ∃ o : Int, y.block < w.heap.size ∧ w.cell? (y.add i) = some (.int .i64 o) := by
      intro i hi
      obtain ⟨cs', h1, h2⟩ := hx i (by omega)
      rw [ce] at h1
      have hblk := World.cells?_block h1 (by omega)
      rw [add_block] at hblk
      obtain ⟨_, hlen, hcell⟩ := World.cells?_some h1
      match cs', hlen with
      | [v0], _ =>
        obtain ⟨s, e0, _⟩ := DataW.trod_int Try.underlying2 h2
        simp only [List.cons.injEq, and_true] at e0
        subst e0
        have d0 := hcell 0 (by omega)
        rw [Go.Deep.add_add] at d0
        exact ⟨s, hblk, by simpa using d0⟩
    obtain ⟨f, hf⟩ := Go.Deep.choose_lt each
    refine ⟨(List.range len).map f, by simp, by unfold maxLen at hm; omega, fun i o hi => ?_⟩
    obtain ⟨hi1, hi2⟩ := List.getElem?_eq_some_iff.1 hi
    simp at hi1 hi2
    subst hi2
    exact ⟨y, rfl, hf i hi1⟩
end Go.Proofs.Ytbfbijfedamgaaa

/- Small facts for two heaps of texts. -/
namespace Go.Proofs.Ytbfbijfedamgaaa
theorem isInS (l : List (Ent ByteArray)) (x : ByteArray) : (∃ y ∈ l, y.v = x) ∨ ∀ y ∈ l, y.v ≠ x := by
  by_cases h : ∃ y ∈ l, y.v = x
  · exact .inl h
  · exact .inr fun y hy e => h ⟨y, hy, e⟩
theorem lessS_length {l : List (Ent ByteArray)} {x : Ent ByteArray} (h : x ∈ l) : (less l x.v).length + 1 ≤ l.length := by
  unfold less
  induction l with
  | nil => simp at h
  | cons y l ih =>
    by_cases e : y.v = x.v
    · have := List.length_filter_le (fun z : Ent ByteArray => decide (z.v ≠ x.v)) l
      rw [List.filter_cons_of_neg (by simpa using e)]
      simp only [List.length_cons]
      omega
    · simp only [List.mem_cons] at h
      rcases h with rfl | h
      · exact absurd rfl e
      · have := ih h
        rw [List.filter_cons_of_pos (by simpa using e)]
        simp only [List.length_cons]
        omega
end Go.Proofs.Ytbfbijfedamgaaa


namespace Go.Proofs.Ytbfbijfedamgaaa.heapTexts
open Go.ChangeShapes Go.WideShapes Go.ChangeAt Go.RowKit
open Go.ChangeMaps (open_string shut_string)
set_option linter.unusedVariables false

theorem own : ownKnob Try.prog.godebug = none := by kernel_rfl
theorem laidOut : laidOutB Try.prog = true := by kernel_rfl

set_option maxHeartbeats 8000000 in
set_option maxRecDepth 100000 in
theorem walk (a0 : Option Addr) (len0 cap0 : Nat) (z0 : List ByteArray) (a1 : Option Addr) (len1 cap1 : Nat) (z1 : List Int) (w : World) (w0 : IsStrs w a0 len0 z0) (w1 : IsLongs w a1 len1 z1) :
    Calls Try.prog 4 #[.slice a0 len0 cap0, .slice a1 len1 cap1] w fun e w' => e = .returned (.bool true) ∧ Below w.heap.size w w' := by
  obtain ⟨hzl, hlen0, hstr⟩ := w0
  have HO : Hid (∀ i s, z0[i]? = some s → ∃ x, a0 = some x ∧ x.block < w.heap.size ∧ w.cell? (x.add i) = some (.string s)) := hstr
  have HZ : Hid (z0.length = len0) := hzl
  clear hstr hzl
  obtain ⟨hzl, hlen1, hstr⟩ := w1
  have HP : Hid (∀ i s, z1[i]? = some s → ∃ x, a1 = some x ∧ x.block < w.heap.size ∧ w.cell? (x.add i) = some (.int .i64 s)) := hstr
  have HQ : Hid (z1.length = len1) := hzl
  clear hstr hzl
  have HR : Hid (HS.roomV 50 = 50) := by show _ = _; unfold HS.roomV; omega
  have HR2 : Hid (HW.roomV 50 = 50) := by show _ = _; unfold HW.roomV; omega
  go_enter Try.func4, Try.ntmps4
  go_wp2_with fail
  refine (begun2_any _).mono ?_
  rintro e W ⟨rfl, g0⟩
  have M0 : Hid (Few w [] W) := (Few.start w).below g0
  clear g0
  go_wp2_with fail
  refine (HS.new_any 50 W (by omega) (by omega)).mono ?_
  rintro e w1 ⟨rfl, h1, g1⟩
  rw [HR.out] at h1
  have M1 : Hid (Few w [(foot W.heap.size (.slice none 0 0), fun u => HS.Heaps u W.heap.size 50 0 (.slice none 0 0) [])] w1) := M0.out.add g1 h1 h1.foot_lt h1.foot_ge HS.keeps
  clear M0 g1 h1
  obtain ⟨B, hB⟩ : ∃ B, B = W.heap.size := ⟨_, rfl⟩
  rw [← hB]
  rw [← hB] at M1
  clear hB
  go_wp2_with fail
  refine (HW.new_any 50 w1 (by omega) (by omega)).mono ?_
  rintro e w2 ⟨rfl, h2, g2⟩
  rw [HR2.out] at h2
  have M2 : Hid (Few w [(foot B (.slice none 0 0), fun u => HS.Heaps u B 50 0 (.slice none 0 0) []), (foot w1.heap.size (.slice none 0 0), fun u => HW.Heaps u w1.heap.size 50 0 (.slice none 0 0) [])] w2) := M1.out.add g2 h2 h2.foot_lt h2.foot_ge HW.keeps
  clear M1 g2 h2
  obtain ⟨C, hC⟩ : ∃ C, C = w1.heap.size := ⟨_, rfl⟩
  rw [← hC]
  rw [← hC] at M2
  clear hC
  go_wp2
  go_loopg [8] 30 (fun gk s8 wr => ∃ (k : Nat) (l : List (Ent ByteArray)) (v v2 : Value), k ≤ len0 ∧ k ≤ len1 ∧ gk + k = 30 ∧ s8 = .int .i64 k ∧ l.length ≤ k ∧ Few w [(foot B v, fun u => HS.Heaps u B 50 (k : Int) v l), (foot C v2, fun u => HW.Heaps u C 50 (k : Int) v2 l)] wr)
  case atStart => exact ⟨0, [], _, _, by omega, by omega, by omega, rfl, by simp, M2.out⟩
  case round =>
    clear M2
    skip
    obtain ⟨k, l, v, v2, hk0, hk1, hgk, rfl, hlk, M2⟩ := hrel
    have HM : Hid (Few w [(foot B v, fun u => HS.Heaps u B 50 (k : Int) v l), (foot C v2, fun u => HW.Heaps u C 50 (k : Int) v2 l)] wr) := M2
    clear M2
    by_cases hkl : k < len0
    · have hkl' : (k : Int) < (len0 : Int) := by omega
      by_cases hkm : k < len1
      · have hkm' : (k : Int) < (len1 : Int) := by omega
        by_cases hk30 : k < 30
        · have hk30' : (k : Int) < 30 := by omega
          obtain ⟨s, hs⟩ : ∃ s, z0[k]? = some s := ⟨_, List.getElem?_eq_getElem (by rw [HZ.out]; exact hkl)⟩
          obtain ⟨x, rfl, hxb, hcs⟩ := HO.out k s hs
          obtain ⟨d, hd⟩ : ∃ d, z1[k]? = some d := ⟨_, List.getElem?_eq_getElem (by rw [HQ.out]; exact hkm)⟩
          obtain ⟨y, rfl, hyb, hcd⟩ := HP.out k d hd
          have HX : Hid (x.block < w.heap.size ∧ w.cell? (x.add k) = some (.string s)) := ⟨hxb, hcs⟩
          have HYY : Hid (y.block < w.heap.size ∧ w.cell? (y.add k) = some (.int .i64 d)) := ⟨hyb, hcd⟩
          have cx : wr.cell? (x.add k) = some (.string s) := (HM.out.bel.cell (by rw [add_block]; exact hxb)).trans hcs
          have cy : wr.cell? (y.add k) = some (.int .i64 d) := (HM.out.bel.cell (by rw [add_block]; exact hyb)).trans hcd
          clear hs hd hxb hyb hcs hcd
          rcases isInS l s with hin | hin
          · have HN : Hid (∃ y ∈ l, y.v = s) := hin
            clear hin
            have C1 : Hid (∀ u, HS.Heaps u B 50 k v l → Calls Try.prog 24 #[.pointer (some ⟨B, 0, none⟩), .string s, .int .i64 d, .int .i64 1] u fun e w' => e = .returned (.bool true) ∧ HS.Heaps w' B 50 ((k : Int) + 1) v (less l s ++ [⟨s, d, 1, (k : Int) + 1⟩]) ∧ Only (foot B v) u w') := fun u h => HS.put_there (F := []) s d 1 u h trivial HN.out (by omega) (by omega)
            have C2 : Hid (∀ u, HW.Heaps u C 50 k v2 l → Calls Try.prog 25 #[.pointer (some ⟨C, 0, none⟩), .agg #[.string s, .string ⟨#[120]⟩], .int .i64 d, .int .i64 1] u fun e w' => e = .returned (.bool true) ∧ HW.Heaps w' C 50 ((k : Int) + 1) v2 (less l s ++ [⟨s, d, 1, (k : Int) + 1⟩]) ∧ Only (foot C v2) u w') := fun u h => HW.put_there (F := []) s d 1 u h trivial HN.out (by omega) (by omega)
            go_wp2_with fail
            go_region_held3 (fun w' => w'.cell? (x.add k) = some (.string s) ∧ w'.cell? (y.add k) = some (.int .i64 d)) (first | exact ⟨cx, cy⟩ | go_keep | exact ⟨e1, e2⟩ | exact ⟨f1, f2⟩)
              (first
                | (go_at_call 24; refine (C1.out _ ((HM.out.below ((Below.refl _ _).drew)).holds 0)).mono ?_; rintro e w2 ⟨rfl, h2, o2⟩; have M2 : Hid (Few w [(foot B v, fun u => HS.Heaps u B 50 ((k : Int) + 1) v (less l s ++ [⟨s, d, 1, (k : Int) + 1⟩])), (foot C v2, fun u => HW.Heaps u C 50 (k : Int) v2 l)] w2) := HS.few_set (HM.out.below ((Below.refl _ _).drew)) 0 rfl h2 o2 rfl; have e1 : w2.cell? (x.add k) = some (.string s) := (M2.out.bel.cell (by rw [add_block]; exact HX.out.1)).trans HX.out.2; have e2 : w2.cell? (y.add k) = some (.int .i64 d) := (M2.out.bel.cell (by rw [add_block]; exact HYY.out.1)).trans HYY.out.2; clear h2 o2)
                | (go_at_call 25; refine (C2.out _ (M2.out.holds 1)).mono ?_; rintro e w3 ⟨rfl, h3, o3⟩; have M3 : Hid (Few w [(foot B v, fun u => HS.Heaps u B 50 ((k : Int) + 1) v (less l s ++ [⟨s, d, 1, (k : Int) + 1⟩])), (foot C v2, fun u => HW.Heaps u C 50 ((k : Int) + 1) v2 (less l s ++ [⟨s, d, 1, (k : Int) + 1⟩]))] w3) := HW.few_set M2.out 1 rfl h3 o3 rfl; have f1 : w3.cell? (x.add k) = some (.string s) := (M3.out.bel.cell (by rw [add_block]; exact HX.out.1)).trans HX.out.2; have f2 : w3.cell? (y.add k) = some (.int .i64 d) := (M3.out.bel.cell (by rw [add_block]; exact HYY.out.1)).trans HYY.out.2; clear h3 o3))
            go_wp2
            go_roundg (gk - 1)
            case measure => omega
            case rel =>
              have ek : ((k + 1 : Nat) : Int) = (k : Int) + 1 := by omega
              refine ⟨k + 1, (less l s ++ [⟨s, d, 1, (k : Int) + 1⟩]), v, v2, by omega, by omega, by omega, by go_num, by have : (less l s).length ≤ l.length := List.length_filter_le _ _; simp; omega, ?_⟩
              rw [ek]
              exact M3.out
          · have HN : Hid (∀ y ∈ l, y.v ≠ s) := hin
            clear hin
            have C1 : Hid (∀ u, HS.Heaps u B 50 k v l → Calls Try.prog 24 #[.pointer (some ⟨B, 0, none⟩), .string s, .int .i64 d, .int .i64 1] u fun e w' => ∃ v', e = .returned (.bool true) ∧ HS.Heaps w' B 50 ((k : Int) + 1) v' (l ++ [⟨s, d, 1, (k : Int) + 1⟩]) ∧ Only (foot B v) u w' ∧ ∀ j ∈ foot B v', j ∈ foot B v ∨ u.heap.size ≤ j) := fun u h => HS.put_new s d 1 u h trivial HN.out (by omega) (by omega) (by omega)
            have C2 : Hid (∀ u, HW.Heaps u C 50 k v2 l → Calls Try.prog 25 #[.pointer (some ⟨C, 0, none⟩), .agg #[.string s, .string ⟨#[120]⟩], .int .i64 d, .int .i64 1] u fun e w' => ∃ v', e = .returned (.bool true) ∧ HW.Heaps w' C 50 ((k : Int) + 1) v' (l ++ [⟨s, d, 1, (k : Int) + 1⟩]) ∧ Only (foot C v2) u w' ∧ ∀ j ∈ foot C v', j ∈ foot C v2 ∨ u.heap.size ≤ j) := fun u h => HW.put_new s d 1 u h trivial HN.out (by omega) (by omega) (by omega)
            go_wp2_with fail
            go_region_held3 (fun w' => w'.cell? (x.add k) = some (.string s) ∧ w'.cell? (y.add k) = some (.int .i64 d)) (first | exact ⟨cx, cy⟩ | go_keep | exact ⟨e1, e2⟩ | exact ⟨f1, f2⟩)
              (first
                | (go_at_call 24; refine (C1.out _ ((HM.out.below ((Below.refl _ _).drew)).holds 0)).mono ?_; rintro e w2 ⟨v3, rfl, h2, o2, q2⟩; have M2 : Hid (Few w [(foot B v3, fun u => HS.Heaps u B 50 ((k : Int) + 1) v3 (l ++ [⟨s, d, 1, (k : Int) + 1⟩])), (foot C v2, fun u => HW.Heaps u C 50 (k : Int) v2 l)] w2) := HS.few_put (HM.out.below ((Below.refl _ _).drew)) 0 rfl h2 o2 q2; have e1 : w2.cell? (x.add k) = some (.string s) := (M2.out.bel.cell (by rw [add_block]; exact HX.out.1)).trans HX.out.2; have e2 : w2.cell? (y.add k) = some (.int .i64 d) := (M2.out.bel.cell (by rw [add_block]; exact HYY.out.1)).trans HYY.out.2; clear h2 o2 q2)
                | (go_at_call 25; refine (C2.out _ (M2.out.holds 1)).mono ?_; rintro e w3 ⟨v4, rfl, h3, o3, q3⟩; have M3 : Hid (Few w [(foot B v3, fun u => HS.Heaps u B 50 ((k : Int) + 1) v3 (l ++ [⟨s, d, 1, (k : Int) + 1⟩])), (foot C v4, fun u => HW.Heaps u C 50 ((k : Int) + 1) v4 (l ++ [⟨s, d, 1, (k : Int) + 1⟩]))] w3) := HW.few_put M2.out 1 rfl h3 o3 q3; have f1 : w3.cell? (x.add k) = some (.string s) := (M3.out.bel.cell (by rw [add_block]; exact HX.out.1)).trans HX.out.2; have f2 : w3.cell? (y.add k) = some (.int .i64 d) := (M3.out.bel.cell (by rw [add_block]; exact HYY.out.1)).trans HYY.out.2; clear h3 o3 q3))
            go_wp2
            go_roundg (gk - 1)
            case measure => omega
            case rel =>
              have ek : ((k + 1 : Nat) : Int) = (k : Int) + 1 := by omega
              refine ⟨k + 1, (l ++ [⟨s, d, 1, (k : Int) + 1⟩]), v3, v4, by omega, by omega, by omega, by go_num, by simp; omega, ?_⟩
              rw [ek]
              exact M3.out
        · have hk30' : ¬ (k : Int) < 30 := by omega
          go_wp2
          go_loopg [9] (l.length + 1) (fun gk s9 wr => ∃ (l : List (Ent ByteArray)) (v v2 : Value), l.length + 1 ≤ gk ∧ l.length ≤ 30 ∧ Few w [(foot B v, fun u => HS.Heaps u B 50 (k : Int) v l), (foot C v2, fun u => HW.Heaps u C 50 (k : Int) v2 l)] wr)
          case atStart => exact ⟨l, v, v2, by omega, by omega, HM.out⟩
          case round =>
            clear HM
            obtain ⟨l, v, v2, hg, hl30, M2⟩ := hrel
            have HM : Hid (Few w [(foot B v, fun u => HS.Heaps u B 50 (k : Int) v l), (foot C v2, fun u => HW.Heaps u C 50 (k : Int) v2 l)] wr) := M2
            clear M2
            cases l with
            | nil =>
              go_wp2_with fail
              refine (HS.take_none wr (HM.out.holds 0)).mono ?_
              rintro e w2 ⟨rfl, g2⟩
              have M2 : Hid (Few w [(foot B v, fun u => HS.Heaps u B 50 (k : Int) v []), (foot C v2, fun u => HW.Heaps u C 50 (k : Int) v2 [])] w2) := HM.out.below g2
              clear HM g2
              go_wp2_with fail
              refine (HW.take_none w2 (M2.out.holds 1)).mono ?_
              rintro e w3 ⟨rfl, g3⟩
              have M3 : Hid (Few w [(foot B v, fun u => HS.Heaps u B 50 (k : Int) v []), (foot C v2, fun u => HW.Heaps u C 50 (k : Int) v2 [])] w3) := M2.out.below g3
              clear M2 g3
              have M4 : Hid (Few w [(foot B v, fun u => HS.Heaps u B 50 (k : Int) v []), (foot C v2, fun u => HW.Heaps u C 50 (k : Int) v2 [])] (w3.alloc (.cells #[.string ⟨#[]⟩, .string ⟨#[]⟩] 48))) := M3.out.below ((Below.refl _ _).alloc (Nat.le_refl _) _)
              clear M3
              have CL : Hid (∀ u, HS.Heaps u B 50 k v [] → Calls Try.prog 28 #[.pointer (some ⟨B, 0, none⟩)] u fun e w' => e = .returned (.int .i64 (0 : Nat)) ∧ w' = u) := fun u h => HS.heap_len u h
              go_wp2_with fail
              refine (CL.out _ (M4.out.holds 0)).mono ?_
              rintro e w' ⟨rfl, hw⟩
              subst w'
              go_wp2
              go_ret
              exact ⟨rfl, M4.out.bel⟩
            | cons z l =>
              have HIT : Hid (Items (z :: l) k) := HS.Heaps.items (HM.out.holds 0)
              have CT : Hid (Calls Try.prog 26 #[.pointer (some ⟨B, 0, none⟩)] wr fun e w' => ∃ x v', IsFirst (z :: l) x ∧ e = .returned (.tuple #[.string x.v, .bool true]) ∧ HS.Heaps w' B 50 k v' (less (z :: l) x.v) ∧ foot B v' = foot B v ∧ Only (foot B v) wr w') := HS.take_some wr (HM.out.holds 0) (by simp)
              go_wp2_with fail
              refine CT.out.mono ?_
              rintro e w2 ⟨x, v3, hx, rfl, h2, q2, o2⟩
              have HX : Hid (IsFirst (z :: l) x) := hx
              have M2 : Hid (Few w [(foot B v3, fun u => HS.Heaps u B 50 (k : Int) v3 (less (z :: l) x.v)), (foot C v2, fun u => HW.Heaps u C 50 (k : Int) v2 (z :: l))] w2) := HS.few_set HM.out 0 rfl h2 o2 q2
              clear HM CT hx h2 q2 o2
              have CT2 : Hid (Calls Try.prog 27 #[.pointer (some ⟨C, 0, none⟩)] w2 fun e w' => ∃ v', e = .returned (.tuple #[.agg #[.string x.v, .string txW], .bool true]) ∧ HW.Heaps w' C 50 k v' (less (z :: l) x.v) ∧ foot C v' = foot C v2 ∧ Only (foot C v2) w2 w') := (HW.take_some w2 (M2.out.holds 1) (by simp)).mono fun e w' ⟨y, v', hy, he, h⟩ => by
                have := IsFirst.uniq HIT.out HX.out hy
                subst this
                exact ⟨v', he, h⟩
              go_wp2_with fail
              refine CT2.out.mono ?_
              rintro e w3 ⟨v4, rfl, h3, q3, o3⟩
              have M3 : Hid (Few w [(foot B v3, fun u => HS.Heaps u B 50 (k : Int) v3 (less (z :: l) x.v)), (foot C v4, fun u => HW.Heaps u C 50 (k : Int) v4 (less (z :: l) x.v))] w3) := HW.few_set M2.out 1 rfl h3 o3 q3
              clear M2 CT2 h3 q3 o3
              have HLL : Hid ((less (z :: l) x.v).length + 1 ≤ (z :: l).length) := lessS_length HX.out.1
              go_wp2
              go_roundg (gk - 1)
              case measure => omega
              case rel => exact ⟨less (z :: l) x.v, v3, v4, by have := HLL.out; omega, by have := HLL.out; omega, M3.out.below ((Below.refl _ _).alloc (Nat.le_refl _) _)⟩
      · have hkm' : ¬ (k : Int) < (len1 : Int) := by omega
        go_wp2
        go_loopg [9] (l.length + 1) (fun gk s9 wr => ∃ (l : List (Ent ByteArray)) (v v2 : Value), l.length + 1 ≤ gk ∧ l.length ≤ 30 ∧ Few w [(foot B v, fun u => HS.Heaps u B 50 (k : Int) v l), (foot C v2, fun u => HW.Heaps u C 50 (k : Int) v2 l)] wr)
        case atStart => exact ⟨l, v, v2, by omega, by omega, HM.out⟩
        case round =>
          clear HM
          obtain ⟨l, v, v2, hg, hl30, M2⟩ := hrel
          have HM : Hid (Few w [(foot B v, fun u => HS.Heaps u B 50 (k : Int) v l), (foot C v2, fun u => HW.Heaps u C 50 (k : Int) v2 l)] wr) := M2
          clear M2
          cases l with
          | nil =>
            go_wp2_with fail
            refine (HS.take_none wr (HM.out.holds 0)).mono ?_
            rintro e w2 ⟨rfl, g2⟩
            have M2 : Hid (Few w [(foot B v, fun u => HS.Heaps u B 50 (k : Int) v []), (foot C v2, fun u => HW.Heaps u C 50 (k : Int) v2 [])] w2) := HM.out.below g2
            clear HM g2
            go_wp2_with fail
            refine (HW.take_none w2 (M2.out.holds 1)).mono ?_
            rintro e w3 ⟨rfl, g3⟩
            have M3 : Hid (Few w [(foot B v, fun u => HS.Heaps u B 50 (k : Int) v []), (foot C v2, fun u => HW.Heaps u C 50 (k : Int) v2 [])] w3) := M2.out.below g3
            clear M2 g3
            have M4 : Hid (Few w [(foot B v, fun u => HS.Heaps u B 50 (k : Int) v []), (foot C v2, fun u => HW.Heaps u C 50 (k : Int) v2 [])] (w3.alloc (.cells #[.string ⟨#[]⟩, .string ⟨#[]⟩] 48))) := M3.out.below ((Below.refl _ _).alloc (Nat.le_refl _) _)
            clear M3
            have CL : Hid (∀ u, HS.Heaps u B 50 k v [] → Calls Try.prog 28 #[.pointer (some ⟨B, 0, none⟩)] u fun e w' => e = .returned (.int .i64 (0 : Nat)) ∧ w' = u) := fun u h => HS.heap_len u h
            go_wp2_with fail
            refine (CL.out _ (M4.out.holds 0)).mono ?_
            rintro e w' ⟨rfl, hw⟩
            subst w'
            go_wp2
            go_ret
            exact ⟨rfl, M4.out.bel⟩
          | cons z l =>
            have HIT : Hid (Items (z :: l) k) := HS.Heaps.items (HM.out.holds 0)
            have CT : Hid (Calls Try.prog 26 #[.pointer (some ⟨B, 0, none⟩)] wr fun e w' => ∃ x v', IsFirst (z :: l) x ∧ e = .returned (.tuple #[.string x.v, .bool true]) ∧ HS.Heaps w' B 50 k v' (less (z :: l) x.v) ∧ foot B v' = foot B v ∧ Only (foot B v) wr w') := HS.take_some wr (HM.out.holds 0) (by simp)
            go_wp2_with fail
            refine CT.out.mono ?_
            rintro e w2 ⟨x, v3, hx, rfl, h2, q2, o2⟩
            have HX : Hid (IsFirst (z :: l) x) := hx
            have M2 : Hid (Few w [(foot B v3, fun u => HS.Heaps u B 50 (k : Int) v3 (less (z :: l) x.v)), (foot C v2, fun u => HW.Heaps u C 50 (k : Int) v2 (z :: l))] w2) := HS.few_set HM.out 0 rfl h2 o2 q2
            clear HM CT hx h2 q2 o2
            have CT2 : Hid (Calls Try.prog 27 #[.pointer (some ⟨C, 0, none⟩)] w2 fun e w' => ∃ v', e = .returned (.tuple #[.agg #[.string x.v, .string txW], .bool true]) ∧ HW.Heaps w' C 50 k v' (less (z :: l) x.v) ∧ foot C v' = foot C v2 ∧ Only (foot C v2) w2 w') := (HW.take_some w2 (M2.out.holds 1) (by simp)).mono fun e w' ⟨y, v', hy, he, h⟩ => by
              have := IsFirst.uniq HIT.out HX.out hy
              subst this
              exact ⟨v', he, h⟩
            go_wp2_with fail
            refine CT2.out.mono ?_
            rintro e w3 ⟨v4, rfl, h3, q3, o3⟩
            have M3 : Hid (Few w [(foot B v3, fun u => HS.Heaps u B 50 (k : Int) v3 (less (z :: l) x.v)), (foot C v4, fun u => HW.Heaps u C 50 (k : Int) v4 (less (z :: l) x.v))] w3) := HW.few_set M2.out 1 rfl h3 o3 q3
            clear M2 CT2 h3 q3 o3
            have HLL : Hid ((less (z :: l) x.v).length + 1 ≤ (z :: l).length) := lessS_length HX.out.1
            go_wp2
            go_roundg (gk - 1)
            case measure => omega
            case rel => exact ⟨less (z :: l) x.v, v3, v4, by have := HLL.out; omega, by have := HLL.out; omega, M3.out.below ((Below.refl _ _).alloc (Nat.le_refl _) _)⟩
    · have hkl' : ¬ (k : Int) < (len0 : Int) := by omega
      go_wp2
      go_loopg [9] (l.length + 1) (fun gk s9 wr => ∃ (l : List (Ent ByteArray)) (v v2 : Value), l.length + 1 ≤ gk ∧ l.length ≤ 30 ∧ Few w [(foot B v, fun u => HS.Heaps u B 50 (k : Int) v l), (foot C v2, fun u => HW.Heaps u C 50 (k : Int) v2 l)] wr)
      case atStart => exact ⟨l, v, v2, by omega, by omega, HM.out⟩
      case round =>
        clear HM
        obtain ⟨l, v, v2, hg, hl30, M2⟩ := hrel
        have HM : Hid (Few w [(foot B v, fun u => HS.Heaps u B 50 (k : Int) v l), (foot C v2, fun u => HW.Heaps u C 50 (k : Int) v2 l)] wr) := M2
        clear M2
        cases l with
        | nil =>
          go_wp2_with fail
          refine (HS.take_none wr (HM.out.holds 0)).mono ?_
          rintro e w2 ⟨rfl, g2⟩
          have M2 : Hid (Few w [(foot B v, fun u => HS.Heaps u B 50 (k : Int) v []), (foot C v2, fun u => HW.Heaps u C 50 (k : Int) v2 [])] w2) := HM.out.below g2
          clear HM g2
          go_wp2_with fail
          refine (HW.take_none w2 (M2.out.holds 1)).mono ?_
          rintro e w3 ⟨rfl, g3⟩
          have M3 : Hid (Few w [(foot B v, fun u => HS.Heaps u B 50 (k : Int) v []), (foot C v2, fun u => HW.Heaps u C 50 (k : Int) v2 [])] w3) := M2.out.below g3
          clear M2 g3
          have M4 : Hid (Few w [(foot B v, fun u => HS.Heaps u B 50 (k : Int) v []), (foot C v2, fun u => HW.Heaps u C 50 (k : Int) v2 [])] (w3.alloc (.cells #[.string ⟨#[]⟩, .string ⟨#[]⟩] 48))) := M3.out.below ((Below.refl _ _).alloc (Nat.le_refl _) _)
          clear M3
          have CL : Hid (∀ u, HS.Heaps u B 50 k v [] → Calls Try.prog 28 #[.pointer (some ⟨B, 0, none⟩)] u fun e w' => e = .returned (.int .i64 (0 : Nat)) ∧ w' = u) := fun u h => HS.heap_len u h
          go_wp2_with fail
          refine (CL.out _ (M4.out.holds 0)).mono ?_
          rintro e w' ⟨rfl, hw⟩
          subst w'
          go_wp2
          go_ret
          exact ⟨rfl, M4.out.bel⟩
        | cons z l =>
          have HIT : Hid (Items (z :: l) k) := HS.Heaps.items (HM.out.holds 0)
          have CT : Hid (Calls Try.prog 26 #[.pointer (some ⟨B, 0, none⟩)] wr fun e w' => ∃ x v', IsFirst (z :: l) x ∧ e = .returned (.tuple #[.string x.v, .bool true]) ∧ HS.Heaps w' B 50 k v' (less (z :: l) x.v) ∧ foot B v' = foot B v ∧ Only (foot B v) wr w') := HS.take_some wr (HM.out.holds 0) (by simp)
          go_wp2_with fail
          refine CT.out.mono ?_
          rintro e w2 ⟨x, v3, hx, rfl, h2, q2, o2⟩
          have HX : Hid (IsFirst (z :: l) x) := hx
          have M2 : Hid (Few w [(foot B v3, fun u => HS.Heaps u B 50 (k : Int) v3 (less (z :: l) x.v)), (foot C v2, fun u => HW.Heaps u C 50 (k : Int) v2 (z :: l))] w2) := HS.few_set HM.out 0 rfl h2 o2 q2
          clear HM CT hx h2 q2 o2
          have CT2 : Hid (Calls Try.prog 27 #[.pointer (some ⟨C, 0, none⟩)] w2 fun e w' => ∃ v', e = .returned (.tuple #[.agg #[.string x.v, .string txW], .bool true]) ∧ HW.Heaps w' C 50 k v' (less (z :: l) x.v) ∧ foot C v' = foot C v2 ∧ Only (foot C v2) w2 w') := (HW.take_some w2 (M2.out.holds 1) (by simp)).mono fun e w' ⟨y, v', hy, he, h⟩ => by
            have := IsFirst.uniq HIT.out HX.out hy
            subst this
            exact ⟨v', he, h⟩
          go_wp2_with fail
          refine CT2.out.mono ?_
          rintro e w3 ⟨v4, rfl, h3, q3, o3⟩
          have M3 : Hid (Few w [(foot B v3, fun u => HS.Heaps u B 50 (k : Int) v3 (less (z :: l) x.v)), (foot C v4, fun u => HW.Heaps u C 50 (k : Int) v4 (less (z :: l) x.v))] w3) := HW.few_set M2.out 1 rfl h3 o3 q3
          clear M2 CT2 h3 q3 o3
          have HLL : Hid ((less (z :: l) x.v).length + 1 ≤ (z :: l).length) := lessS_length HX.out.1
          go_wp2
          go_roundg (gk - 1)
          case measure => omega
          case rel => exact ⟨less (z :: l) x.v, v3, v4, by have := HLL.out; omega, by have := HLL.out; omega, M3.out.below ((Below.refl _ _).alloc (Nat.le_refl _) _)⟩

set_option maxRecDepth 100000 in
theorem lifted (os : Os) (started : os.Started) (H : Type) (enc : TypeId × Value → H) :
    ReturnsInHanded {} Try.checked os 4 .any (Rows.heapTextsSpec.pre6 enc Try.prog Try.f4 Rows.heapTextsRow.domain false) (Rows.heapTextsSpec.post enc Try.prog Try.f4 false true false false) := by
  refine returnsInHanded_of_change (C := Try.checked) own started (by kernel_rfl) Try.func4
    (ChangeSpec.witness6 (enc := enc) (C := Try.checked) false ⟨#[], #[.slice none 0 0, .slice none 0 0], []⟩ 8 (by kernel_rfl) (by kernel_rfl) (by kernel_rfl) (by kernel_rfl)) ?_
  intro W base args ds gs before hval0 hW hcnd _
  have hval : ∀ (j : Nat) t v, Try.f4.params[j]? = some t → args[j]? = some v → Value.okWide Try.prog W .any base t v := hval0
  have hW' := hW
  obtain ⟨p, q, hA0, hV, rfl, hfz, hnd⟩ := hW
  have hA : DataW.TrodAll enc Try.prog W 0 (fun _ => true) true Try.f4.params.toList args.toList ds p := hA0
  rw [Try.params4] at hA hval
  obtain ⟨v0, vs0, d0, ds0, p0, q0, hargs, rfl, rfl, h0, r0⟩ := trodAll_cons hA
  obtain ⟨v1, vs1, d1, ds1, p1, q1, rfl, rfl, rfl, h1, r1⟩ := trodAll_cons r0
  obtain ⟨rfl, rfl, rfl⟩ := trodAll_nil r1
  obtain rfl : args = #[v0, v1] := by cases args; simp_all
  obtain ⟨rfl, rfl⟩ := trodVars_none hV
  obtain ⟨a0, len0, cap0, rfl⟩ := okWide_slice Try.underlying41 (hval 0 41 v0 rfl rfl)
  have k0 := h0
  have lt0 : ∀ x ∈ p0, x.block < W.heap.size := by obtain ⟨m, hm⟩ := k0; exact DataW.trod_lt m _ _ _ hm
  obtain ⟨z0, w0⟩ := (by obtain ⟨fuel, hf⟩ := h0; exact open_strs hf : ∃ zs, IsStrs W a0 len0 zs)
  obtain ⟨a1, len1, cap1, rfl⟩ := okWide_slice Try.underlying42 (hval 1 42 v1 rfl rfl)
  have k1 := h1
  have lt1 : ∀ x ∈ p1, x.block < W.heap.size := by obtain ⟨m, hm⟩ := k1; exact DataW.trod_lt m _ _ _ hm
  obtain ⟨z1, w1⟩ := (by obtain ⟨fuel, hf⟩ := h1; exact open_longs hf : ∃ zs, IsLongs W a1 len1 zs)
  clear hA0 hval0
  refine (walk a0 len0 cap0 z0 a1 len1 cap1 z1 W w0 w1).mono fun e W' ⟨he, bel⟩ => ?_
  subst he
  exact ⟨_, rfl, _, _, _, [], _, [], hW', trodAll_mk1 (shut_bool Try.underlying4 _), (trodAll_cons_mk (Below.trod laidOut (by kernel_rfl) (of_decide_eq_true (by kernel_rfl)) k0 bel lt0) (trodAll_cons_mk (Below.trod laidOut (by kernel_rfl) (of_decide_eq_true (by kernel_rfl)) k1 bel lt1) trodAll_mk0)), rfl, bel.frame _, fun h => by cases h⟩

theorem over : Rows.heapTextsRow.holds Try.pinned (OpenSpec.ofChange Rows.heapTextsSpec) :=
  OpenClaim.holds_of_wide 4 Try.f4 rfl rfl rfl rfl rfl rfl rfl ⟨rfl, rfl, rfl, rfl, rfl⟩ rfl rfl rfl rfl rfl (by kernel_rfl) Try.func4 (by kernel_rfl)
    (of_decide_eq_true (by kernel_rfl)) (by unfold Func.isWrapper; first | (rw [if_pos (by decide +kernel)]; kernel_rfl) | (rw [if_neg (by decide +kernel)]; exact ⟨rfl, rfl⟩))
    (fun os started H enc _ => lifted os started H enc)

theorem proved : Rows.HeapTextsSaid := over
end Go.Proofs.Ytbfbijfedamgaaa.heapTexts
