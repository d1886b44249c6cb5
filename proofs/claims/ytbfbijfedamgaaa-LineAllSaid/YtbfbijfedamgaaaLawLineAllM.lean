/-
PROVED: the statement hortatorlaw2.LineAll answers true over the landed packages: what is due comes by its time, of one time as it was put; put again it is due then.
  CONDITIONS: none beside the row's own.
-/
import Derived.Test.YtbfbijfedamgaaaHeapTake2I
import Derived.Test.YtbfbijfedamgaaaLists
import Derived.BigQuiet
import Derived.Deep.RegionLaw
import Derived.Deep.AppendLies
import Derived.Deep.DrawnRows
import Derived.OwnWalk
import Derived.Test.YtbfbijfedamgaaaLineMoreI
import Derived.Test.YtbfbijfedamgaaaArgs
import Derived.Test.YtbfbijfedamgaaaTail
import Derived.Deep.CutBlock
import Derived.Test.YtbfbijfedamgaaaRows
import Derived.WalkKit
import Derived.ProofKit
import Derived.OpenShut
import Derived.ShutString
import Derived.ChangeOld
import Derived.Below
import Derived.Test.YtbfbijfedamgaaaBegun
/- A heap of int among a few things; the order in which things come. -/
namespace Go.Proofs.Ytbfbijfedamgaaa.HI
open Go.RowKit
theorem keeps {b : Nat} {room puts : Int} {v : Value} {l : List (Ent Int)} : Stays (foot b v) (fun u => Heaps u b room puts v l) := by
  intro w w' S h g hS
  obtain ⟨es, r, x⟩ := h
  exact ⟨es, r.only g hS (fun _ _ => trivial), x⟩
theorem few_put {W w w' : World} {b : Nat} {room puts puts' : Int} {v v' : Value} {l l' : List (Ent Int)} {fs : List Thing} (m : Few W fs w) (i : Nat) (hi : fs[i]? = some (foot b v, fun u => Heaps u b room puts v l)) (h : Heaps w' b room puts' v' l') (o : Only (foot b v) w w') (f : ∀ k ∈ foot b v', k ∈ foot b v ∨ w.heap.size ≤ k) : Few W (fs.set i (foot b v', fun u => Heaps u b room puts' v' l')) w' := by
  have e : (fs.getD i nothing).1 = foot b v := by simp [List.getD, hi]
  exact m.turn i (List.getElem?_eq_some_iff.1 hi).1 (by rw [e]; exact o) h h.foot_lt (by rw [e]; exact f) keeps
theorem few_set {W w w' : World} {b : Nat} {room puts puts' : Int} {v v' : Value} {l l' : List (Ent Int)} {fs : List Thing} (m : Few W fs w) (i : Nat) (hi : fs[i]? = some (foot b v, fun u => Heaps u b room puts v l)) (h : Heaps w' b room puts' v' l') (o : Only (foot b v) w w') (f : foot b v' = foot b v) : Few W (fs.set i (foot b v', fun u => Heaps u b room puts' v' l')) w' :=
  few_put m i hi h o (fun _ hk => .inl (f ▸ hk))
theorem Heaps.items {w : World} {b : Nat} {room puts : Int} {v : Value} {l : List (Ent Int)} (h : Heaps w b room puts v l) : Items l puts := by
  obtain ⟨es, _, _, _, hi, _⟩ := h
  exact hi
end Go.Proofs.Ytbfbijfedamgaaa.HI

/- The document's own heap (a plain list) in memory; the contracts of NewHeap, at, first, First, Key. -/
namespace Go.Proofs.Ytbfbijfedamgaaa.RH
open Go.RowKit
def cells3 (l : List (Ent Int)) : List Value := l.flatMap fun e => [.int .i64 e.v, .int .i64 e.a, .int .i64 e.b]
theorem cells3_length (l : List (Ent Int)) : (cells3 l).length = l.length * 3 := by
  induction l with
  | nil => rfl
  | cons e l ih => simp only [cells3, List.flatMap_cons, List.length_append] at *; rw [ih]; simp; omega
theorem cells3_append (l m : List (Ent Int)) : cells3 (l ++ m) = cells3 l ++ cells3 m := by simp [cells3]
theorem cells3_get {l : List (Ent Int)} {i : Nat} {x : Ent Int} (h : l[i]? = some x) :
    (cells3 l)[i * 3]? = some (.int .i64 x.v) ∧ (cells3 l)[i * 3 + 1]? = some (.int .i64 x.a) ∧ (cells3 l)[i * 3 + 2]? = some (.int .i64 x.b) := by
  induction l generalizing i with
  | nil => simp at h
  | cons e l ih =>
    cases i with
    | zero => simp at h; subst h; simp [cells3]
    | succ i =>
      simp at h
      have := ih h
      rw [show (i + 1) * 3 = i * 3 + 3 by omega]
      simpa [cells3, Nat.add_right_comm _ 3] using this
/-- The heap's own block and its list. -/
structure Refs (w : World) (b : Nat) (room : Int) (v : Value) (l : List (Ent Int)) : Prop where
  blk : w.heap[b]? = some (.cells #[.int .i64 room, v] 39 (0, 0))
  own : w.ownsRow (b + 1) 92 3 v l.length (cells3 l)
  few : l.length ≤ 1000
variable {w w' : World} {b : Nat} {room : Int} {v : Value} {l : List (Ent Int)}
theorem Refs.c0 (h : Refs w b room v l) : w.cell? ⟨b, 0, none⟩ = some (.int .i64 room) := by simp [World.cell?, h.blk]
theorem Refs.c1 (h : Refs w b room v l) : w.cell? ⟨b, 1, none⟩ = some v := by simp [World.cell?, h.blk]
theorem Refs.fz (h : Refs w b room v l) (o : Nat) : w.frozen? ⟨b, o, none⟩ = false := by simp [World.frozen?, h.blk]
theorem Refs.lt (h : Refs w b room v l) : b < w.heap.size := (Array.getElem?_eq_some_iff.1 h.blk).1
theorem Refs.slice (h : Refs w b room v l) : ∃ a cap, v = .slice a l.length cap := by
  rcases h.own.2 with ⟨rfl, hn⟩ | ⟨g, cap, cur, rfl, _⟩
  · exact ⟨none, 0, by rw [hn]⟩
  · exact ⟨_, _, rfl⟩
theorem Refs.only (h : Refs w b room v l) {S : List Nat} (g : Only S w w') (hS : ∀ k ∈ foot b v, k ∉ S) : Refs w' b room v l := by
  refine ⟨by rw [g.block b h.lt (hS b mem_foot)]; exact h.blk, ?_, h.few⟩
  obtain ⟨h1, h2⟩ := h.own
  refine ⟨h1, ?_⟩
  rcases h2 with h2 | ⟨gb, cap, cur, rfl, hb, hh, r⟩
  · exact .inl h2
  · exact .inr ⟨gb, cap, cur, rfl, hb, by rw [g.block gb (Array.getElem?_eq_some_iff.1 hh).1 (hS gb mem_foot_slice)]; exact hh, r⟩
theorem Refs.below (h : Refs w b room v l) (g : Below w.heap.size w w') : Refs w' b room v l := h.only (Below.only g []) (by simp)
theorem Refs.foot_lt (h : Refs w b room v l) : ∀ k ∈ foot b v, k < w.heap.size := by
  intro k hk
  simp only [foot, List.mem_cons, Option.mem_toList] at hk
  rcases hk with rfl | hk
  · exact h.lt
  · exact (h.own.lt k hk).2
theorem Refs.foot_ge (h : Refs w b room v l) : ∀ k ∈ foot b v, b ≤ k := by
  intro k hk
  simp only [foot, List.mem_cons, Option.mem_toList] at hk
  rcases hk with rfl | hk
  · exact Nat.le_refl _
  · exact Nat.le_of_lt (h.own.lt k hk).1
theorem keeps : Stays (foot b v) (fun u => Refs u b room v l) := fun _ _ _ h g hS => h.only g hS
theorem Refs.at (h : Refs w b room v l) {i : Nat} {x : Ent Int} (hx : l[i]? = some x) : ∃ g cap, v = .slice (some ⟨g, 0, none⟩) l.length cap ∧ l.length ≤ cap ∧ cap ≤ maxLen ∧ w.cell? ⟨g, i * 3, none⟩ = some (.int .i64 x.v) ∧ w.cell? ⟨g, i * 3 + 1, none⟩ = some (.int .i64 x.a) ∧ w.cell? ⟨g, i * 3 + 2, none⟩ = some (.int .i64 x.b) := by
  have hl := (List.getElem?_eq_some_iff.1 hx).1
  have own := h.own
  rcases own.2 with ⟨_, hn⟩ | ⟨g, cap, cur, rfl, _, _, h1, h2, _⟩
  · omega
  · obtain ⟨e0, e1, e2⟩ := cells3_get hx
    exact ⟨g, cap, rfl, h1, h2, by rw [own.cellAt _ (by omega), e0], by rw [own.cellAt _ (by omega), e1], by rw [own.cellAt _ (by omega), e2]⟩

set_option maxHeartbeats 1000000 in
theorem at_any (x : Int) (w : World) (h : Refs w b room v l) :
    Calls Try.prog 56 #[.pointer (some ⟨b, 0, none⟩), .int .i64 x] w fun e w' => ∃ r : Int, e = .returned (.int .i64 r) ∧ ((r = -1 ∧ ∀ y ∈ l, y.v ≠ x) ∨ ∃ (i : Nat) (y : Ent Int), r = i ∧ l[i]? = some y ∧ y.v = x) ∧ Below w.heap.size w w' := by
  have c1 := h.c1
  have hf := h.few
  obtain ⟨a, cap, rfl⟩ := h.slice
  have H0 : Hid (Refs w b room (.slice a l.length cap) l) := h
  clear h
  go_enter Try.func56, Try.ntmps56
  go_wp2
  go_loopg [5] l.length (fun gk s5 wr => ∃ k : Nat, gk + k = l.length ∧ s5 = .int .i64 k ∧ (∀ (j : Nat) (y : Ent Int), j < k → l[j]? = some y → y.v ≠ x) ∧ wr = w)
  case atStart => exact ⟨0, by omega, rfl, fun j y hj => absurd hj (by omega), rfl⟩
  case round =>
    obtain ⟨k, hk, rfl, hno, rfl⟩ := hrel
    have HN : Hid (∀ (j : Nat) (y : Ent Int), j < k → l[j]? = some y → y.v ≠ x) := hno
    clear hno
    by_cases hkl : k < l.length
    · have hkl' : (k : Int) < (l.length : Int) := by omega
      obtain ⟨y, hy⟩ : ∃ y, l[k]? = some y := ⟨_, List.getElem?_eq_getElem hkl⟩
      obtain ⟨g, cap', hv, h1, h2, d0, d1, d2⟩ := H0.out.at hy
      simp only [Value.slice.injEq] at hv
      obtain ⟨rfl, _, rfl⟩ := hv
      have HY : Hid (l[k]? = some y) := hy
      unfold maxLen at h2
      clear hy d1 d2
      obtain ⟨yv, hyv⟩ : ∃ z, y.v = z := ⟨_, rfl⟩
      have HV : Hid (y.v = yv) := hyv
      rw [hyv] at d0
      clear hyv
      by_cases e : yv = x
      · subst e
        go_wp2
        go_ret
        exact ⟨k, rfl, .inr ⟨k, y, rfl, HY.out, HV.out⟩, Below.refl _ _⟩
      · go_wp2
        go_roundg (gk - 1)
        case measure => omega
        case rel =>
          refine ⟨k + 1, by omega, by go_num, fun j z hj hz => ?_, rfl⟩
          by_cases e2 : j = k
          · subst e2; rw [HY.out] at hz; cases hz; rw [HV.out]; exact e
          · exact HN.out j z (by omega) hz
    · have hkl' : ¬ (k : Int) < (l.length : Int) := by omega
      go_wp2
      go_ret
      exact ⟨-1, rfl, .inl ⟨rfl, fun y hy => by obtain ⟨j, hj⟩ := List.getElem?_of_mem hy; exact HN.out j y (by have := (List.getElem?_eq_some_iff.1 hj).1; omega) hj⟩, Below.refl _ _⟩
theorem at_no (x : Int) (w : World) (h : Refs w b room v l) (hno : ∀ y ∈ l, y.v ≠ x) :
    Calls Try.prog 56 #[.pointer (some ⟨b, 0, none⟩), .int .i64 x] w fun e w' => e = .returned (.int .i64 (-1)) ∧ Below w.heap.size w w' :=
  (at_any x w h).mono fun e w' ⟨r, he, hr, g⟩ => by
    rcases hr with ⟨rfl, _⟩ | ⟨i, y, _, hy, hv⟩
    · exact ⟨he, g⟩
    · exact absurd hv (hno y (List.mem_of_getElem? hy))
theorem at_yes {puts : Int} (x : Ent Int) (w : World) (h : Refs w b room v l) (it : Items l puts) (hin : x ∈ l) :
    Calls Try.prog 56 #[.pointer (some ⟨b, 0, none⟩), .int .i64 x.v] w fun e w' => ∃ i : Nat, e = .returned (.int .i64 i) ∧ l[i]? = some x ∧ Below w.heap.size w w' :=
  (at_any x.v w h).mono fun e w' ⟨r, he, hr, g⟩ => by
    rcases hr with ⟨rfl, hno⟩ | ⟨i, y, rfl, hy, hv⟩
    · exact absurd rfl (hno x hin)
    · refine ⟨i, he, ?_, g⟩
      obtain ⟨j, hj⟩ := List.getElem?_of_mem hin
      obtain ⟨hi1, rfl⟩ := List.getElem?_eq_some_iff.1 hy
      obtain ⟨hj1, rfl⟩ := List.getElem?_eq_some_iff.1 hj
      have key := List.pairwise_iff_getElem.1 it.dis
      rcases Nat.lt_trichotomy i j with h | h | h
      · exact absurd hv (key i j hi1 hj1 h)
      · subst h; exact hy
      · exact absurd hv.symm (key j i hj1 hi1 h)
end Go.Proofs.Ytbfbijfedamgaaa.RH

/- The contract of the document's own heap: its first, First, Key. -/
namespace Go.Proofs.Ytbfbijfedamgaaa.RH
open Go.RowKit
variable {w w' : World} {b : Nat} {room puts : Int} {v : Value} {l : List (Ent Int)}
theorem later {i f : Nat} {x y : Ent Int} (it : Items l puts) (hf : l[f]? = some x) (hi : l[i]? = some y) (h : f < i) : x.t < y.t := by
  obtain ⟨h1, rfl⟩ := List.getElem?_eq_some_iff.1 hf
  obtain ⟨h2, rfl⟩ := List.getElem?_eq_some_iff.1 hi
  exact List.pairwise_iff_getElem.1 it.inc f i h1 h2 h
/-- The first among the first i. -/
def Best (l : List (Ent Int)) (i : Nat) (s : Value) : Prop := (i = 0 ∧ s = .int .i64 (-1)) ∨ ∃ (f : Nat) (x : Ent Int), f < i ∧ s = .int .i64 f ∧ l[f]? = some x ∧ ∀ (j : Nat) (y : Ent Int), j < i → l[j]? = some y → Le x y
theorem Best.new {i : Nat} {x y : Ent Int} (hy : l[i]? = some y) (hb : ∀ (j : Nat) (z : Ent Int), j < i → l[j]? = some z → Le x z) (lt : y.a < x.a ∨ (y.a = x.a ∧ y.b < x.b)) : Best l (i + 1) (.int .i64 i) := by
  refine .inr ⟨i, y, by omega, rfl, hy, fun j z hj hz => ?_⟩
  by_cases e : j = i
  · subst e; rw [hy] at hz; cases hz; exact Le.refl _
  · have h1 := hb j z (by omega) hz
    have h2 : Le y x := by unfold Le Lt; omega
    exact h2.trans h1
theorem Best.old {i f : Nat} {x y : Ent Int} (it : Items l puts) (hy : l[i]? = some y) (hb : ∀ (j : Nat) (z : Ent Int), j < i → l[j]? = some z → Le x z) (hx : l[f]? = some x) (hf : f < i) (nlt : ¬ (y.a < x.a ∨ (y.a = x.a ∧ y.b < x.b))) : Best l (i + 1) (.int .i64 f) := by
  have ht := later it hx hy hf
  refine .inr ⟨f, x, by omega, rfl, hx, fun j z hj hz => ?_⟩
  by_cases e : j = i
  · subst e; rw [hy] at hz; cases hz; unfold Le Lt; omega
  · exact hb j z (by omega) hz
theorem Best.one {y : Ent Int} (hy : l[0]? = some y) : Best l 1 (.int .i64 (0 : Nat)) := by
  refine .inr ⟨0, y, by omega, rfl, hy, fun j z hj hz => ?_⟩
  obtain rfl : j = 0 := by omega
  rw [hy] at hz; cases hz; exact Le.refl _

set_option maxHeartbeats 4000000 in
set_option maxRecDepth 100000 in
theorem first_best (w : World) (h : Refs w b room v l) (it : Items l puts) :
    Calls Try.prog 59 #[.pointer (some ⟨b, 0, none⟩)] w fun e w' => ∃ s, e = .returned s ∧ Best l l.length s ∧ Below w.heap.size w w' := by
  have hf := h.few
  obtain ⟨a, cap, rfl⟩ := h.slice
  have H0 : Hid (Refs w b room (.slice a l.length cap) l) := h
  have HI : Hid (Items l puts) := it
  clear h it
  go_enter Try.func59, Try.ntmps59
  go_wp2
  go_loopg [3, 4] l.length (fun gk s3 s4 wr => ∃ k : Nat, gk + k = l.length ∧ s4 = .int .i64 k ∧ Best l k s3 ∧ Below w.heap.size w wr)
  case atStart => exact ⟨0, by omega, rfl, .inl ⟨rfl, rfl⟩, Below.refl _ _⟩
  case round =>
    obtain ⟨k, hk, rfl, hb, g⟩ := hrel
    have HG : Hid (Below w.heap.size w wr) := g
    have HR : Hid (Refs wr b room (.slice a l.length cap) l) := H0.out.below g
    have c1 := HR.out.c1
    clear g
    by_cases hkl : k < l.length
    · have hkl' : (k : Int) < (l.length : Int) := by omega
      obtain ⟨y, hy⟩ : ∃ y, l[k]? = some y := ⟨_, List.getElem?_eq_getElem hkl⟩
      have HY : Hid (l[k]? = some y) := hy
      rcases hb with ⟨rfl, rfl⟩ | ⟨f, x, hfk, rfl, hx, hbe⟩
      · have HN : Hid (Best l 1 (.int .i64 (0 : Nat))) := Best.one hy
        clear hy
        go_wp2
        go_big_quiet (fail)
        go_wp2
        go_roundg (gk - 1)
        case measure => omega
        case rel => exact ⟨1, by omega, rfl, HN.out, HG.out.trans ((below_drewN _ _).mono HG.out.size)⟩
      · obtain ⟨g, cap', hv, h1, h2, _, d1, d2⟩ := HR.out.at hy
        simp only [Value.slice.injEq] at hv
        obtain ⟨rfl, _, rfl⟩ := hv
        obtain ⟨g', cap', hv, _, _, _, e1, e2⟩ := HR.out.at hx
        simp only [Value.slice.injEq, Option.some.injEq, Addr.mk.injEq, and_true] at hv
        obtain ⟨rfl, _, rfl⟩ := hv
        unfold maxLen at h2
        have hfl : (f : Int) < (l.length : Int) := by omega
        have HN : Hid ((y.a < x.a ∨ (y.a = x.a ∧ y.b < x.b)) → Best l (k + 1) (.int .i64 k)) := fun h => Best.new hy hbe h
        have HO : Hid (¬ (y.a < x.a ∨ (y.a = x.a ∧ y.b < x.b)) → Best l (k + 1) (.int .i64 f)) := fun h => Best.old HI.out hy hbe hx hfk h
        clear hy hx hbe
        obtain ⟨ya, hya⟩ : ∃ z, y.a = z := ⟨_, rfl⟩
        obtain ⟨yb, hyb⟩ : ∃ z, y.b = z := ⟨_, rfl⟩
        obtain ⟨xa, hxa⟩ : ∃ z, x.a = z := ⟨_, rfl⟩
        obtain ⟨xb, hxb⟩ : ∃ z, x.b = z := ⟨_, rfl⟩
        rw [hya] at d1
        rw [hyb] at d2
        rw [hxa] at e1
        rw [hxb] at e2
        rw [hya, hyb, hxa, hxb] at HN HO
        clear hya hyb hxa hxb
        have q0 : decide ((f : Int) < 0) = false := by simp
        rcases (by omega : ya < xa ∨ (ya = xa ∧ yb < xb) ∨ (ya = xa ∧ ¬ yb < xb) ∨ (¬ ya < xa ∧ ¬ ya = xa)) with t1 | ⟨rfl, t1⟩ | ⟨rfl, t1⟩ | ⟨t1, t2⟩
        · have q1 : decide (ya < xa) = true := decide_eq_true t1
          go_wp2
          go_big_quiet (fail)
          go_wp2
          go_roundg (gk - 1)
          case measure => omega
          case rel => exact ⟨k + 1, by omega, by go_num, HN.out (.inl t1), HG.out.trans ((below_drewN _ _).mono HG.out.size)⟩
        · have q1 : decide (ya < ya) = false := by simp
          have q2 : decide (yb < xb) = true := decide_eq_true t1
          go_wp2
          go_big_quiet (fail)
          go_wp2
          go_roundg (gk - 1)
          case measure => omega
          case rel => exact ⟨k + 1, by omega, by go_num, HN.out (by first | omega | exact .inr ⟨trivial, t1⟩), HG.out.trans ((below_drewN _ _).mono HG.out.size)⟩
        · have q1 : decide (ya < ya) = false := by simp
          have q2 : decide (yb < xb) = false := decide_eq_false t1
          go_wp2
          go_big_quiet (fail)
          go_wp2
          go_roundg (gk - 1)
          case measure => omega
          case rel => exact ⟨k + 1, by omega, by go_num, HO.out (by omega), HG.out.trans ((below_drewN _ _).mono HG.out.size)⟩
        · have q1 : decide (ya < xa) = false := decide_eq_false t1
          have q2 : (ya == xa) = false := by simp; omega
          have q3 : decide (ya = xa) = false := decide_eq_false t2
          go_wp2
          go_big_quiet (fail)
          go_wp2
          go_roundg (gk - 1)
          case measure => omega
          case rel => exact ⟨k + 1, by omega, by go_num, HO.out (by omega), HG.out.trans ((below_drewN _ _).mono HG.out.size)⟩
    · obtain rfl : k = l.length := by omega
      have HB : Hid (Best l l.length u3) := hb
      clear hb
      go_wp2
      go_ret
      exact ⟨u3, rfl, HB.out, HG.out⟩
/-- What First answers: of an empty list nothing; else the first one, and where it is. -/
theorem best_none {s : Value} (h : Best ([] : List (Ent Int)) 0 s) : s = .int .i64 (-1) := by
  rcases h with ⟨_, h⟩ | ⟨f, x, h, _⟩
  · exact h
  · omega
theorem best_some {s : Value} (hl : l ≠ []) (h : Best l l.length s) : ∃ (f : Nat) (x : Ent Int), s = .int .i64 f ∧ l[f]? = some x ∧ IsFirst l x := by
  have := List.length_pos_iff.2 hl
  rcases h with ⟨h, _⟩ | ⟨f, x, _, hs, hx, hb⟩
  · omega
  · refine ⟨f, x, hs, hx, List.mem_of_getElem? hx, fun y hy => ?_⟩
    obtain ⟨j, hj⟩ := List.getElem?_of_mem hy
    exact hb j y (List.getElem?_eq_some_iff.1 hj).1 hj
theorem first_at (w : World) (h : Refs w b room v l) (it : Items l puts) (hl : l ≠ []) :
    Calls Try.prog 59 #[.pointer (some ⟨b, 0, none⟩)] w fun e w' => ∃ (f : Nat) (x : Ent Int), e = .returned (.int .i64 f) ∧ l[f]? = some x ∧ IsFirst l x ∧ Below w.heap.size w w' :=
  (first_best w h it).mono fun e w' ⟨s, he, hb, g⟩ => by
    obtain ⟨f, x, rfl, h1, h2⟩ := best_some hl hb
    exact ⟨f, x, he, h1, h2, g⟩
theorem first_no (w : World) (h : Refs w b room v []) :
    Calls Try.prog 59 #[.pointer (some ⟨b, 0, none⟩)] w fun e w' => e = .returned (.int .i64 (-1)) ∧ Below w.heap.size w w' :=
  (first_best w h (Items.nil 0)).mono fun e w' ⟨s, he, hb, g⟩ => by
    rw [best_none hb] at he
    exact ⟨he, g⟩
set_option maxHeartbeats 1000000 in
theorem top_none (w : World) (h : Refs w b room v []) :
    Calls Try.prog 20 #[.pointer (some ⟨b, 0, none⟩)] w fun e w' => e = .returned (.tuple #[.int .i64 0, .bool false]) ∧ Below w.heap.size w w' := by
  have ct := first_no w h
  go_enter Try.func20, Try.ntmps20
  go_wp2_with (go_at_call 59; refine ct.mono ?_; rintro e w1 ⟨rfl, g1⟩)
  go_ret2
  exact ⟨rfl, g1⟩
set_option maxHeartbeats 1000000 in
theorem top_some (w : World) (h : Refs w b room v l) (it : Items l puts) (hl : l ≠ []) :
    Calls Try.prog 20 #[.pointer (some ⟨b, 0, none⟩)] w fun e w' => ∃ x, IsFirst l x ∧ e = .returned (.tuple #[.int .i64 x.v, .bool true]) ∧ Below w.heap.size w w' := by
  have ct := first_at w h it hl
  have hf := h.few
  have H0 : Hid (Refs w b room v l) := h
  clear h it hl
  go_enter Try.func20, Try.ntmps20
  go_wp2_with fail
  refine ct.mono ?_
  rintro e w1 ⟨f, x, rfl, hx, hfi, g1⟩
  have r1 := H0.out.below g1
  have c1 := r1.c1
  obtain ⟨g, cap, rfl, h1, h2, d0, _, _⟩ := r1.at hx
  have hfl := (List.getElem?_eq_some_iff.1 hx).1
  have hfl' : (f : Int) < (l.length : Int) := by omega
  have HF : Hid (IsFirst l x) := hfi
  unfold maxLen at h2
  clear r1 hx hfi
  go_wp2
  go_ret2
  exact ⟨x, HF.out, rfl, g1⟩
set_option maxHeartbeats 1000000 in
theorem key_none (x : Int) (w : World) (h : Refs w b room v l) (hno : ∀ y ∈ l, y.v ≠ x) :
    Calls Try.prog 18 #[.pointer (some ⟨b, 0, none⟩), .int .i64 x] w fun e w' => e = .returned (.tuple #[.int .i64 0, .int .i64 0, .bool false]) ∧ Below w.heap.size w w' := by
  have ct := at_no x w h hno
  go_enter Try.func18, Try.ntmps18
  go_wp2_with (go_at_call 56; refine ct.mono ?_; rintro e w1 ⟨rfl, g1⟩)
  go_ret3
  exact ⟨rfl, g1⟩
set_option maxHeartbeats 1000000 in
theorem key_some (x : Ent Int) (w : World) (h : Refs w b room v l) (it : Items l puts) (hin : x ∈ l) :
    Calls Try.prog 18 #[.pointer (some ⟨b, 0, none⟩), .int .i64 x.v] w fun e w' => e = .returned (.tuple #[.int .i64 x.a, .int .i64 x.b, .bool true]) ∧ Below w.heap.size w w' := by
  have ct := at_yes x w h it hin
  have hf := h.few
  have H0 : Hid (Refs w b room v l) := h
  clear h it hin
  go_enter Try.func18, Try.ntmps18
  go_wp2_with fail
  refine ct.mono ?_
  rintro e w1 ⟨f, rfl, hx, g1⟩
  have r1 := H0.out.below g1
  have c1 := r1.c1
  obtain ⟨g, cap, rfl, h1, h2, _, d1, d2⟩ := r1.at hx
  have hfl := (List.getElem?_eq_some_iff.1 hx).1
  have hfl' : (f : Int) < (l.length : Int) := by omega
  unfold maxLen at h2
  clear r1 hx
  go_wp2
  go_big_quiet (fail)
  go_wp2
  go_ret3
  exact ⟨rfl, g1.trans ((below_drewN _ _).mono g1.size)⟩
/-- From nought to a thousand. -/
def roomV (n : Int) : Int := max 0 (min n 1000)
set_option maxHeartbeats 1000000 in
theorem new_any (n : Int) (w : World) (h1 : -9223372036854775808 ≤ n) (h2 : n ≤ 9223372036854775807) :
    Calls Try.prog 10 #[.int .i64 n] w fun e w' => e = .returned (.pointer (some ⟨w.heap.size, 0, none⟩)) ∧ Refs w' w.heap.size (roomV n) (.slice none 0 0) [] ∧ Below w.heap.size w w' := by
  have fin : ∀ r : Int, r = roomV n → Refs (w.alloc (.cells #[.int .i64 r, .slice none 0 0] 39)) w.heap.size (roomV n) (.slice none 0 0) [] := by
    intro r hr
    subst hr
    exact ⟨heap_alloc_new _ _, World.ownsRow_nil _ _ _ _, by simp⟩
  rcases (by omega : n ≤ 0 ∨ (0 < n ∧ n ≤ 1000) ∨ 1000 < n) with h | h | h
  · have K : Hid (0 = roomV n) := by show _ = _; unfold roomV; omega
    go_enter Try.func10, Try.ntmps10
    go_wp2
    go_ret
    exact ⟨rfl, fin _ K.out, (Below.refl _ _).alloc (Nat.le_refl _) _⟩
  · have K : Hid (n = roomV n) := by show _ = _; unfold roomV; omega
    go_enter Try.func10, Try.ntmps10
    go_wp2
    go_ret
    exact ⟨rfl, fin _ K.out, (Below.refl _ _).alloc (Nat.le_refl _) _⟩
  · have K : Hid (1000 = roomV n) := by show _ = _; unfold roomV; omega
    go_enter Try.func10, Try.ntmps10
    go_wp2
    go_ret
    exact ⟨rfl, fin _ K.out, (Below.refl _ _).alloc (Nat.le_refl _) _⟩
end Go.Proofs.Ytbfbijfedamgaaa.RH

/- The contracts of the document's own heap: out, Put, Take, Drop. -/
namespace Go.Proofs.Ytbfbijfedamgaaa.RH
open Go.RowKit
/-- append at a step of a region that draws; it may append nothing. -/
theorem step_append_at {P : Program} (w : World) {ops : Array Oper} {o : Oper} {a : Act} {K : Act → World → Prop} {Q : Exit → Act → World → Prop} {E : Prop} (hgd : o.guard = none) (s x : Operand) (t : TypeId)
    (ho : o.op = .call { callee := .builtin .append, args := #[s, x], argTypes := #[t, t] })
    (base : Nat) (e : TypeId) (i : TypeInfo) (z : Value) (size bytes : Nat) (ht : P.underlying t = some (.slice e)) (hi : P.info? e = some i) (hz : i.zero = some z)
    (hsize : i.size = size) (hby : i.bytes = bytes) (hzs : z.cells.size = size) (hsz : 0 < size)
    (v : Value) (n : Nat) (xs : List Value) (hs : a.eval s = v) (hown : w.ownsRow base e size v n xs)
    (ad : Addr) (m c : Nat) (news : List Value) (hx : a.eval x = .slice (some ad) m c) (hl : news.length = m * size) (hnews : ∀ j u, news[j]? = some u → w.cell? (ad.add j) = some u) (h1 : ∀ u ∈ news, u.oneCell' = true)
    (h63 : n + m ≤ maxLen) (hbytes : (n + m) * bytes ≤ 140737488355328) (hbase : base ≤ w.heap.size)
    (h : ∀ v' w', w'.ownsRow base e size v' (n + m) (xs ++ news) → w.grownBy w' v.ownBlock → (v'.ownBlock = v.ownBlock ∨ v'.ownBlock = some w.heap.size) → K (a.put o.dst v') w') :
    if Region.wanted o (yielded ops a.tmps) = true then Oper.wp P o a w K Q else E := by
  have hw : Region.wanted o (yielded ops a.tmps) = true := by simp [Region.wanted, hgd]
  rw [if_pos hw]
  obtain ⟨v', w', hr, h2, h3, _, h5⟩ := run_append_own_at (P := P) w base t o.type e i z size bytes ht hi hz hsize hby hzs hsz v n xs hown ad m c news hl hnews h1 h63 hbytes hbase
  unfold Oper.wp execOp
  simp only [ho, resolve, invoke, builtin, Sem.run_bind, Sem.run_pure, Result.andThen_ok, List.map_toArray, List.map_cons, List.map_nil, hs, hx, hr]
  exact h v' w' h2 h3 h5
variable {w w' : World} {b : Nat} {room puts : Int} {v : Value} {l : List (Ent Int)}
theorem infoItem : (Try.prog.info? 92).map (fun i => (i.zero, i.size, i.bytes)) = some (some (.agg #[.int .i64 0, .int .i64 0, .int .i64 0]), 3, 24) := by kernel_rfl
theorem cells3_one (l : List (Ent Int)) : ∀ u ∈ cells3 l, u.oneCell' = true := by
  intro u hu
  simp only [cells3, List.mem_flatMap] at hu
  obtain ⟨e, _, hu⟩ := hu
  simp at hu
  rcases hu with rfl | rfl | rfl <;> rfl
theorem cells3_take (l : List (Ent Int)) (n : Nat) : cells3 (l.take n) = (cells3 l).take (n * 3) := by
  induction l generalizing n with
  | nil => simp [cells3]
  | cons e l ih =>
    cases n with
    | zero => simp [cells3]
    | succ n =>
      have := ih n
      simp only [cells3] at this ⊢
      rw [List.take_succ_cons, List.flatMap_cons, List.flatMap_cons, this, show (n + 1) * 3 = n * 3 + 3 by omega]
      simp
theorem cells3_drop (l : List (Ent Int)) (n : Nat) : cells3 (l.drop n) = (cells3 l).drop (n * 3) := by
  induction l generalizing n with
  | nil => simp [cells3]
  | cons e l ih =>
    cases n with
    | zero => simp [cells3]
    | succ n =>
      have := ih n
      simp only [cells3] at this ⊢
      rw [List.drop_succ_cons, List.flatMap_cons, this, show (n + 1) * 3 = n * 3 + 3 by omega]
      simp
theorem add_at (g o j : Nat) : (⟨g, o, none⟩ : Addr).add j = ⟨g, o + j, none⟩ := by unfold Addr.add; split <;> simp_all
theorem Refs.cell {g n cap : Nat} (h : Refs w b room (.slice (some ⟨g, 0, none⟩) n cap) l) {j : Nat} {u : Value} (hu : (cells3 l)[j]? = some u) : w.cell? ⟨g, j, none⟩ = some u := by
  have hj := (List.getElem?_eq_some_iff.1 hu).1
  rw [cells3_length] at hj
  have hn : l.length = n := by obtain ⟨a, c, e⟩ := h.slice; simp at e; exact e.2.1.symm
  have own := h.own
  rw [hn] at own hj
  rw [own.cellAt _ (by omega), hu]
theorem Refs.news1 {g n cap : Nat} (h : Refs w b room (.slice (some ⟨g, 0, none⟩) n cap) l) (i : Nat) : ∀ j u, (cells3 (l.take i))[j]? = some u → w.cell? ((⟨g, 0, none⟩ : Addr).add j) = some u := by
  intro j u hu
  rw [cells3_take, List.getElem?_take] at hu
  rw [add_at, Nat.zero_add]
  split at hu
  · exact h.cell hu
  · cases hu
theorem Refs.news2 {g n cap : Nat} (h : Refs w b room (.slice (some ⟨g, 0, none⟩) n cap) l) (i : Nat) : ∀ j u, (cells3 (l.drop i))[j]? = some u → w.cell? ((⟨g, i * 3, none⟩ : Addr).add j) = some u := by
  intro j u hu
  rw [cells3_drop, List.getElem?_drop] at hu
  rw [add_at]
  exact h.cell hu
theorem row_only {base n size : Nat} {e : TypeId} {xs : List Value} {S : List Nat} (h : w.ownsRow base e size v n xs) (g : Only S w w') (hS : ∀ k ∈ v.ownBlock.toList, k ∉ S) : w'.ownsRow base e size v n xs := by
  obtain ⟨h1, h2⟩ := h
  refine ⟨h1, ?_⟩
  rcases h2 with h2 | ⟨gb, cap, cur, rfl, hb, hh, r⟩
  · exact .inl h2
  · exact .inr ⟨gb, cap, cur, rfl, hb, by rw [g.block gb (Array.getElem?_eq_some_iff.1 hh).1 (hS gb (by simp [Value.ownBlock]))]; exact hh, r⟩
theorem erase_cells (l : List (Ent Int)) (i : Nat) : cells3 (l.eraseIdx i) = ([] ++ cells3 (l.take i)) ++ cells3 (l.drop (i + 1)) := by
  rw [List.eraseIdx_eq_take_drop_succ, cells3_append, List.nil_append]
/-- What lies there behind out. -/
theorem out_end {wa w1 wb w2 wc : World} {v1 v2 : Value} {i n : Nat} (h : Refs w b room v l) (hi : i < l.length) (hn : n = l.length - 1) (ga : Only [] w wa) (gr1 : wa.grownBy w1 none) (at1 : v1.ownBlock = none ∨ v1.ownBlock = some wa.heap.size) (gb : Only [] w1 wb) (gr2 : wb.grownBy w2 v1.ownBlock)
    (own2 : w2.ownsRow (b + 1) 92 3 v2 n (([] ++ cells3 (l.take i)) ++ cells3 (l.drop (i + 1)))) (at2 : v2.ownBlock = v1.ownBlock ∨ v2.ownBlock = some wb.heap.size) (gc : Only [] w2 wc) :
    Refs (wc.setCell ⟨b, 1, none⟩ v2) b room v2 (l.eraseIdx i) ∧ Only (foot b v) w (wc.setCell ⟨b, 1, none⟩ v2) ∧ ∀ k ∈ foot b v2, k ∈ foot b v ∨ w.heap.size ≤ k := by
  have hl := h.lt
  have s1 := gr1.size
  have n1 : ∀ k, v1.ownBlock = some k → w.heap.size ≤ k := by
    intro k hk
    rcases at1 with e | e
    · rw [e] at hk; cases hk
    · rw [e] at hk; simp at hk; have := ga.size; omega
  have n2 : ∀ k, v2.ownBlock = some k → w.heap.size ≤ k := by
    intro k hk
    rcases at2 with e | e
    · exact n1 k (e ▸ hk)
    · rw [e] at hk; simp at hk; have := ga.size; have := gb.size; omega
  have o1 : Only [] w w1 := ga.grown gr1 (fun k hk => by cases hk)
  have o2 : Only [] w w2 := (o1.trans gb (by simp)).grown gr2 (fun k hk => .inr (n1 k hk))
  have o3 : Only [] w wc := o2.trans gc (by simp)
  have blk : wc.heap[b]? = some (.cells #[.int .i64 room, v] 39 (0, 0)) := by rw [o3.block b hl (by simp)]; exact h.blk
  refine ⟨⟨?_, ?_, ?_⟩, ?_, ?_⟩
  · have := heap_setCell_same wc b 1 _ _ v2 blk
    simpa using this
  · have := ownsRow_setCell_below (row_only own2 gc (by simp)) (a := ⟨b, 1, none⟩) (show b < b + 1 by omega) v2
    rw [erase_cells, List.length_eraseIdx, if_pos hi, ← hn]
    exact this
  · rw [List.length_eraseIdx, if_pos hi]; have := h.few; omega
  · exact (o3.mono (by simp)).setCell (p := ⟨b, 1, none⟩) mem_foot _
  · intro k hk
    simp only [foot, List.mem_cons, Option.mem_toList] at hk
    rcases hk with rfl | hk
    · exact .inl mem_foot
    · exact .inr (n2 k hk)
theorem row_slice {base n size : Nat} {e : TypeId} {xs : List Value} (h : w.ownsRow base e size v n xs) : ∃ a cap, v = .slice a n cap := by
  rcases h.2 with ⟨rfl, hn⟩ | ⟨g, cap, cur, rfl, _⟩
  · exact ⟨none, 0, by rw [hn]⟩
  · exact ⟨_, _, rfl⟩
theorem newB {wa : World} {v1 : Value} (at1 : v1.ownBlock = none ∨ v1.ownBlock = some wa.heap.size) (hs : wa.heap.size = w.heap.size) : ∀ k, v1.ownBlock = some k → w.heap.size ≤ k := by
  intro k hk
  rcases at1 with e | e
  · rw [e] at hk; cases hk
  · rw [e] at hk; simp at hk; omega
attribute [local go_sem ↓] Go.wp_at_zero Go.wp_at_succ
set_option maxHeartbeats 4000000 in
set_option maxRecDepth 100000 in
theorem out_any (i : Nat) (w : World) (h : Refs w b room v l) (hi : i < l.length) :
    Calls Try.prog 57 #[.pointer (some ⟨b, 0, none⟩), .int .i64 i] w fun e w' => ∃ v', e = .returned (.tuple #[]) ∧ Refs w' b room v' (l.eraseIdx i) ∧ Only (foot b v) w w' ∧ ∀ k ∈ foot b v', k ∈ foot b v ∨ w.heap.size ≤ k := by
  have hf := h.few
  have c1 := h.c1
  have bl := h.lt
  have fb := h.fz 1
  obtain ⟨x, hx⟩ : ∃ x, l[i]? = some x := ⟨_, List.getElem?_eq_getElem hi⟩
  obtain ⟨g, cap, rfl, hn1, hn2, -, -, -⟩ := h.at hx
  have gl := (h.own.lt g rfl).2
  have gb : b < g := (h.own.lt g rfl).1
  unfold maxLen at hn2
  obtain ⟨i0, hi0, hz0, hz1, hz2⟩ := info_parts infoItem
  have N1 : Hid (∀ j u, (cells3 (l.take i))[j]? = some u → w.cell? ((⟨g, 0, none⟩ : Addr).add j) = some u) := h.news1 i
  have N2 : Hid (∀ j u, (cells3 (l.drop (i + 1)))[j]? = some u → w.cell? ((⟨g, (i + 1) * 3, none⟩ : Addr).add j) = some u) := h.news2 (i + 1)
  have H0 : Hid (Refs w b room (.slice (some ⟨g, 0, none⟩) l.length cap) l) := h
  have L1 : (cells3 (l.take i)).length = i * 3 := by rw [cells3_length]; simp; omega
  have L2 : (cells3 (l.drop (i + 1))).length = (l.length - (i + 1)) * 3 := by rw [cells3_length]; simp
  have HL1 : Hid ((cells3 (l.take i)).length = i * 3) := L1
  have HL2 : Hid ((cells3 (l.drop (i + 1))).length = (l.length - (i + 1)) * 3) := L2
  clear h hx L1 L2
  have q0 : (0 : Int) ≤ (i : Int) := by omega
  have q1 : (i : Int) < (l.length : Int) := by omega
  have q2 : (l.length : Int) ≤ (cap : Int) := by omega
  have q3 : (i : Int) ≤ (cap : Int) := by omega
  have q4 : (i : Int) + 1 ≤ (l.length : Int) := by omega
  have q5 : (0 : Int) ≤ (i : Int) + 1 := by omega
  have q6 : (i : Int) + 1 ≤ (cap : Int) := by omega
  have q7 : IntKind.i64.wrap ((i : Int) + 1) = (i : Int) + 1 := IntWalk.i64_in _ (by omega)
  rcases (by omega : ¬ cap = i + 1 ∨ cap = i + 1) with hc | hc
  · go_enter Try.func57, Try.ntmps57
    go_wp2_with fail
    go_region_law (first
        | (refine step_append_at _ (by rfl) (.const (.slice none 0 0)) (.tmp 10) 37 (by rfl) (b + 1) 92 i0 _ 3 24 Try.underlying37 hi0 hz0 hz1 hz2 rfl (by omega) (.slice none 0 0) 0 [] (by rfl) (World.ownsRow_nil _ _ _ _) ⟨g, 0, none⟩ i cap (cells3 (l.take i)) (by rfl) HL1.out N1.out (cells3_one _) (by unfold maxLen; omega) (by omega) (by simp; omega) ?_; intro v1 w1 own1 gr1 at1; have e1 : w1.cell? ⟨b, 1, none⟩ = some (.slice (some ⟨g, 0, none⟩) l.length cap) := (gr1.cell_far _ bl (by simp [Value.ownBlock])).trans c1; have f1 : w1.frozen? ⟨b, 1, none⟩ = false := (gr1.frozen_far _ bl (by simp [Value.ownBlock])).trans fb; have S1 : Hid (w.heap.size ≤ w1.heap.size) := gr1.size; have NB : Hid (∀ k, v1.ownBlock = some k → w.heap.size ≤ k) := newB at1 rfl; have AT : Hid (v1.ownBlock = none ∨ v1.ownBlock = some w.heap.size) := at1; have GR : Hid (w.drew.grownBy w1 (Value.slice none 0 0).ownBlock) := gr1; have OW : Hid (w1.ownsRow (b + 1) 92 3 v1 (0 + i) ([] ++ cells3 (l.take i))) := own1; clear at1 gr1 own1)
        | (refine step_append_at _ (by rfl) (.tmp 11) (.tmp 18) 37 (by rfl) (b + 1) 92 i0 _ 3 24 Try.underlying37 hi0 hz0 hz1 hz2 rfl (by omega) v1 (0 + i) ([] ++ cells3 (l.take i)) (by rfl) OW.out ⟨g, (i + 1) * 3, none⟩ (l.length - (i + 1)) (cap - (i + 1)) (cells3 (l.drop (i + 1))) (by rfl) HL2.out (fun j u hu => (GR.out.cell_far ((⟨g, (i + 1) * 3, none⟩ : Addr).add j) (by rw [add_at]; exact gl) (by simp [Value.ownBlock])).trans (N2.out j u hu)) (cells3_one _) (by unfold maxLen; omega) (by omega) (by have := S1.out; show b + 1 ≤ w1.heap.size; omega) ?_; intro v2 w2 own2 gr2 at2; obtain ⟨a2, cp2, rfl⟩ := row_slice own2; have e2 : w2.cell? ⟨b, 1, none⟩ = some (.slice (some ⟨g, 0, none⟩) l.length cap) := (gr2.cell_far _ (Nat.lt_of_lt_of_le bl S1.out) (fun e => (by have := NB.out b e.symm; omega))).trans e1; have f2 : w2.frozen? ⟨b, 1, none⟩ = false := (gr2.frozen_far _ (Nat.lt_of_lt_of_le bl S1.out) (fun e => (by have := NB.out b e.symm; omega))).trans f1; have AT2 : Hid ((Value.slice a2 (0 + i + (l.length - (i + 1))) cp2).ownBlock = v1.ownBlock ∨ (Value.slice a2 (0 + i + (l.length - (i + 1))) cp2).ownBlock = some w1.heap.size) := at2; have OW2 : Hid (w2.ownsRow (b + 1) 92 3 (.slice a2 (0 + i + (l.length - (i + 1))) cp2) (0 + i + (l.length - (i + 1))) (([] ++ cells3 (l.take i)) ++ cells3 (l.drop (i + 1)))) := own2; have GR2 : Hid (w1.grownBy w2 v1.ownBlock) := gr2; clear at2 own2 gr2))
    all_goals
      go_wp2
      go_end0
      obtain ⟨r1, r2, r3⟩ := out_end (wc := w2) H0.out hi (by omega) ((Only.refl _ w).drew) GR.out AT.out (Only.refl _ w1) GR2.out OW2.out AT2.out (Only.refl _ w2)
      rw [Nat.zero_add] at r1 r2 r3
      exact ⟨_, rfl, r1, r2, r3⟩
  · subst hc
    have HD : Hid (l.drop (i + 1) = []) := List.drop_eq_nil_of_le hn1
    have HL3 : Hid ((cells3 (l.drop (i + 1))).length = 0 * 3) := by show _ = _; rw [HD.out]; rfl
    clear q6 q3
    have q3 : (i : Int) ≤ (i : Int) + 1 := by omega
    have q8 : (l.length : Int) ≤ (i : Int) + 1 := by omega
    go_enter Try.func57, Try.ntmps57
    go_wp2_with fail
    go_region_law (first
        | (refine step_append_at _ (by rfl) (.const (.slice none 0 0)) (.tmp 10) 37 (by rfl) (b + 1) 92 i0 _ 3 24 Try.underlying37 hi0 hz0 hz1 hz2 rfl (by omega) (.slice none 0 0) 0 [] (by rfl) (World.ownsRow_nil _ _ _ _) ⟨g, 0, none⟩ i (i + 1) (cells3 (l.take i)) (by rfl) HL1.out N1.out (cells3_one _) (by unfold maxLen; omega) (by omega) (by simp; omega) ?_; intro v1 w1 own1 gr1 at1; have e1 : w1.cell? ⟨b, 1, none⟩ = some (.slice (some ⟨g, 0, none⟩) l.length (i + 1)) := (gr1.cell_far _ bl (by simp [Value.ownBlock])).trans c1; have f1 : w1.frozen? ⟨b, 1, none⟩ = false := (gr1.frozen_far _ bl (by simp [Value.ownBlock])).trans fb; have S1 : Hid (w.heap.size ≤ w1.heap.size) := gr1.size; have NB : Hid (∀ k, v1.ownBlock = some k → w.heap.size ≤ k) := newB at1 rfl; have AT : Hid (v1.ownBlock = none ∨ v1.ownBlock = some w.heap.size) := at1; have GR : Hid (w.drew.grownBy w1 (Value.slice none 0 0).ownBlock) := gr1; have OW : Hid (w1.ownsRow (b + 1) 92 3 v1 (0 + i) ([] ++ cells3 (l.take i))) := own1; clear at1 gr1 own1)
        | (refine step_append_at _ (by rfl) (.tmp 11) (.tmp 18) 37 (by rfl) (b + 1) 92 i0 _ 3 24 Try.underlying37 hi0 hz0 hz1 hz2 rfl (by omega) v1 (0 + i) ([] ++ cells3 (l.take i)) (by rfl) OW.out ⟨g, 0, none⟩ 0 0 (cells3 (l.drop (i + 1))) (by rfl) HL3.out (fun j u hu => by rw [HD.out] at hu; simp [cells3] at hu) (cells3_one _) (by unfold maxLen; omega) (by omega) (by have := S1.out; show b + 1 ≤ w1.heap.size; omega) ?_; intro v2 w2 own2 gr2 at2; obtain ⟨a2, cp2, rfl⟩ := row_slice own2; have e2 : w2.cell? ⟨b, 1, none⟩ = some (.slice (some ⟨g, 0, none⟩) l.length (i + 1)) := (gr2.cell_far _ (Nat.lt_of_lt_of_le bl S1.out) (fun e => (by have := NB.out b e.symm; omega))).trans e1; have f2 : w2.frozen? ⟨b, 1, none⟩ = false := (gr2.frozen_far _ (Nat.lt_of_lt_of_le bl S1.out) (fun e => (by have := NB.out b e.symm; omega))).trans f1; have AT2 : Hid ((Value.slice a2 (0 + i + 0) cp2).ownBlock = v1.ownBlock ∨ (Value.slice a2 (0 + i + 0) cp2).ownBlock = some w1.heap.size) := at2; have OW2 : Hid (w2.ownsRow (b + 1) 92 3 (.slice a2 (0 + i + 0) cp2) (0 + i + 0) (([] ++ cells3 (l.take i)) ++ cells3 (l.drop (i + 1)))) := own2; have GR2 : Hid (w1.grownBy w2 v1.ownBlock) := gr2; clear at2 own2 gr2))
    all_goals
      go_wp2
      go_end0
      obtain ⟨r1, r2, r3⟩ := out_end (wc := w2) H0.out hi (by omega) ((Only.refl _ w).drew) GR.out AT.out (Only.refl _ w1) GR2.out OW2.out AT2.out (Only.refl _ w2)
      simp only [Nat.zero_add, Nat.add_zero] at r1 r2 r3
      exact ⟨_, rfl, r1, r2, r3⟩
end Go.Proofs.Ytbfbijfedamgaaa.RH

/- Things that were put one behind another, with keys of their numbers. -/
namespace Go.Proofs.Ytbfbijfedamgaaa
open Go.RowKit
/-- The first so many: number i with the key (A i, B i). -/
def ents (A B : Nat → Int) (n : Nat) : List (Ent Int) := (List.range n).map (fun i : Nat => (⟨i, A i, B i, (i : Int) + 1⟩ : Ent Int))
theorem ents_length (A B : Nat → Int) (n : Nat) : (ents A B n).length = n := by simp [ents]
theorem ents_succ (A B : Nat → Int) (n : Nat) : ents A B (n + 1) = ents A B n ++ [⟨n, A n, B n, (n : Int) + 1⟩] := by simp [ents, List.range_succ]
theorem mem_ents {A B : Nat → Int} {n : Nat} {x : Ent Int} : x ∈ ents A B n ↔ ∃ i, i < n ∧ x = ⟨i, A i, B i, (i : Int) + 1⟩ := by
  simp only [ents, List.mem_map, List.mem_range]
  constructor
  · rintro ⟨i, hi, rfl⟩; exact ⟨i, hi, rfl⟩
  · rintro ⟨i, hi, rfl⟩; exact ⟨i, hi, rfl⟩
theorem ents_not {A B : Nat → Int} {n k : Nat} (h : n ≤ k) : ∀ y ∈ ents A B n, y.v ≠ (k : Int) := by
  intro y hy
  obtain ⟨i, hi, rfl⟩ := mem_ents.1 hy
  show (i : Int) ≠ k
  omega
theorem ents_in {A B : Nat → Int} {n k : Nat} (h : k < n) : ∃ y ∈ ents A B n, y.v = (k : Int) := ⟨_, mem_ents.2 ⟨k, h, rfl⟩, rfl⟩
theorem ents_one {A B : Nat → Int} {n : Nat} {x y : Ent Int} (hx : x ∈ ents A B n) (hy : y ∈ ents A B n) (e : x.v = y.v) : x = y := by
  obtain ⟨i, _, rfl⟩ := mem_ents.1 hx
  obtain ⟨j, _, rfl⟩ := mem_ents.1 hy
  have : i = j := by simp only at e; omega
  rw [this]
theorem less_length {l : List (Ent Int)} {puts : Int} (h : Items l puts) {x : Int} (hx : ∃ y ∈ l, y.v = x) : (less l x).length + 1 = l.length := by
  obtain ⟨y, hy, rfl⟩ := hx
  obtain ⟨i, hi⟩ := List.getElem?_of_mem hy
  have p := perm_erase (List.Perm.refl l) h hi
  have := p.length_eq
  have il := (List.getElem?_eq_some_iff.1 hi).1
  rw [List.length_eraseIdx_of_lt il] at this
  omega
theorem less_sub {l m : List (Ent Int)} {x : Int} (h : ∀ y ∈ l, y ∈ m) : ∀ y ∈ less l x, y ∈ m := fun y hy => h y (mem_less.1 hy).1
/-- Number i as it was put. -/
def ent (A B : Nat → Int) (i : Nat) : Ent Int := ⟨i, A i, B i, (i : Int) + 1⟩
theorem ent_mem {A B : Nat → Int} {n : Nat} {x : Ent Int} (h : x ∈ ents A B n) : ∃ i, i < n ∧ x = ent A B i := mem_ents.1 h
theorem ent_le {A B : Nat → Int} {z i : Nat} (h : Le (ent A B z) (ent A B i)) : A z < A i ∨ (A z = A i ∧ (B z < B i ∨ (B z = B i ∧ z ≤ i))) := by
  unfold Le Lt ent at h
  simp only at h
  omega
/-- The first of some of them is taken. -/
theorem HI.take_ent {w : World} {b : Nat} {room puts : Int} {v : Value} {A B : Nat → Int} {n : Nat} {l : List (Ent Int)} (h : HI.Heaps w b room puts v l) (hl : l ≠ []) (hs : ∀ y ∈ l, y ∈ ents A B n) :
    Calls Try.prog 13 #[.pointer (some ⟨b, 0, none⟩)] w fun e w' => ∃ (i : Nat) (v' : Value), i < n ∧ e = .returned (.tuple #[.int .i64 i, .bool true]) ∧ HI.Heaps w' b room puts v' (less l i) ∧ foot b v' = foot b v ∧ Only (foot b v) w w' ∧ ent A B i ∈ l ∧ (∀ y ∈ l, Le (ent A B i) y) ∧ (less l i).length + 1 = l.length :=
  (HI.take_some w h hl).mono fun e w' ⟨x, v', hx, he, h', f, o⟩ => by
    obtain ⟨i, hi, rfl⟩ := ent_mem (hs x hx.1)
    exact ⟨i, v', hi, he, h', f, o, hx.1, hx.2, less_length h.items ⟨_, hx.1, rfl⟩⟩
end Go.Proofs.Ytbfbijfedamgaaa

/- The contracts of the document's own heap: Put, Take, Drop. -/
namespace Go.Proofs.Ytbfbijfedamgaaa.RH
open Go.RowKit
variable {w w' : World} {b : Nat} {room puts : Int} {v : Value} {l : List (Ent Int)}
theorem erase_less' {l : List (Ent Int)} (h : l.Pairwise (fun x y => x.v ≠ y.v)) {i : Nat} {x : Ent Int} (hx : l[i]? = some x) : l.eraseIdx i = less l x.v := by
  induction l generalizing i with
  | nil => simp at hx
  | cons e l ih =>
    rw [List.pairwise_cons] at h
    cases i with
    | zero =>
      simp at hx
      subst hx
      have := less_none (l := l) (v := e.v) (fun y hy => Ne.symm (h.1 y hy))
      unfold less at this ⊢
      rw [List.eraseIdx_cons_zero, List.filter_cons_of_neg (by simp)]
      exact this.symm
    | succ i =>
      simp at hx
      have hm := List.mem_of_getElem? hx
      have h1 := h.1 x hm
      have := ih h.2 hx
      unfold less at this ⊢
      simp [this, h1]
theorem erase_less (it : Items l puts) {i : Nat} {x : Ent Int} (hx : l[i]? = some x) : l.eraseIdx i = less l x.v := erase_less' it.dis hx
theorem out_less (i : Nat) {x : Ent Int} (w : World) (h : Refs w b room v l) (it : Items l puts) (hx : l[i]? = some x) :
    Calls Try.prog 57 #[.pointer (some ⟨b, 0, none⟩), .int .i64 i] w fun e w' => ∃ v', e = .returned (.tuple #[]) ∧ Refs w' b room v' (less l x.v) ∧ Only (foot b v) w w' ∧ ∀ k ∈ foot b v', k ∈ foot b v ∨ w.heap.size ≤ k := by
  have := out_any i w h (List.getElem?_eq_some_iff.1 hx).1
  rw [erase_less it hx] at this
  exact this
set_option maxHeartbeats 1000000 in
theorem drop_none (x : Int) (w : World) (h : Refs w b room v l) (hno : ∀ y ∈ l, y.v ≠ x) :
    Calls Try.prog 16 #[.pointer (some ⟨b, 0, none⟩), .int .i64 x] w fun e w' => e = .returned (.bool false) ∧ Below w.heap.size w w' := by
  have ct := at_no x w h hno
  go_enter Try.func16, Try.ntmps16
  go_wp2_with (go_at_call 56; refine ct.mono ?_; rintro e w1 ⟨rfl, g1⟩)
  go_ret
  exact ⟨rfl, g1⟩
set_option maxHeartbeats 1000000 in
theorem drop_some (x : Ent Int) (w : World) (h : Refs w b room v l) (it : Items l puts) (hin : x ∈ l) :
    Calls Try.prog 16 #[.pointer (some ⟨b, 0, none⟩), .int .i64 x.v] w fun e w' => ∃ v', e = .returned (.bool true) ∧ Refs w' b room v' (less l x.v) ∧ Only (foot b v) w w' ∧ ∀ k ∈ foot b v', k ∈ foot b v ∨ w.heap.size ≤ k := by
  have ct := at_yes x w h it hin
  have H0 : Hid (Refs w b room v l) := h
  have HI : Hid (Items l puts) := it
  clear h it hin
  go_enter Try.func16, Try.ntmps16
  go_wp2_with fail
  refine ct.mono ?_
  rintro e w1 ⟨i, rfl, hx, g1⟩
  clear ct
  go_wp2_with fail
  refine (out_less i w1 (H0.out.below g1) HI.out hx).mono ?_
  rintro e w2 ⟨v2, rfl, r2, o2, f2⟩
  go_wp2
  go_ret
  exact ⟨v2, rfl, r2, (Below.only g1 _).trans o2 (fun k hk => .inl hk), fun k hk => (f2 k hk).imp id (fun h => Nat.le_trans g1.size h)⟩
set_option maxHeartbeats 1000000 in
theorem take_none (w : World) (h : Refs w b room v []) :
    Calls Try.prog 14 #[.pointer (some ⟨b, 0, none⟩)] w fun e w' => e = .returned (.tuple #[.int .i64 0, .bool false]) ∧ Below w.heap.size w w' := by
  have ct := first_no w h
  go_enter Try.func14, Try.ntmps14
  go_wp2_with (go_at_call 59; refine ct.mono ?_; rintro e w1 ⟨rfl, g1⟩)
  go_ret2
  exact ⟨rfl, g1⟩
set_option maxHeartbeats 1000000 in
theorem take_some (w : World) (h : Refs w b room v l) (it : Items l puts) (hl : l ≠ []) :
    Calls Try.prog 14 #[.pointer (some ⟨b, 0, none⟩)] w fun e w' => ∃ x v', IsFirst l x ∧ e = .returned (.tuple #[.int .i64 x.v, .bool true]) ∧ Refs w' b room v' (less l x.v) ∧ Only (foot b v) w w' ∧ ∀ k ∈ foot b v', k ∈ foot b v ∨ w.heap.size ≤ k := by
  have ct := first_at w h it hl
  have hf := h.few
  have H0 : Hid (Refs w b room v l) := h
  have HI : Hid (Items l puts) := it
  clear h it hl
  go_enter Try.func14, Try.ntmps14
  go_wp2_with fail
  refine ct.mono ?_
  rintro e w1 ⟨f, x, rfl, hx, hfi, g1⟩
  have r1 := H0.out.below g1
  have R1 : Hid (Refs w1 b room v l) := r1
  have c1 := r1.c1
  have HX : Hid (l[f]? = some x) := hx
  obtain ⟨g, cap, rfl, h1, h2, d0, _, _⟩ := r1.at hx
  have hfl := (List.getElem?_eq_some_iff.1 hx).1
  have hfl' : (f : Int) < (l.length : Int) := by omega
  have HF : Hid (IsFirst l x) := hfi
  unfold maxLen at h2
  clear r1 hx hfi ct
  go_wp2_with fail
  refine (out_less f w1 R1.out HI.out HX.out).mono ?_
  rintro e w2 ⟨v2, rfl, r2, o2, f2⟩
  go_wp2
  go_ret2
  exact ⟨x, v2, HF.out, rfl, r2, (Below.only g1 _).trans o2 (fun k hk => .inl hk), fun k hk => (f2 k hk).imp id (fun h => Nat.le_trans g1.size h)⟩
set_option maxHeartbeats 1000000 in
theorem put_full (x a c : Int) (w : World) (h : Refs w b room v l) (hno : ∀ y ∈ l, y.v ≠ x) (hfull : room ≤ l.length) :
    Calls Try.prog 12 #[.pointer (some ⟨b, 0, none⟩), .int .i64 x, .int .i64 a, .int .i64 c] w fun e w' => e = .returned (.bool false) ∧ Below w.heap.size w w' := by
  have ct := at_no x w h hno
  have hf := h.few
  have H0 : Hid (Refs w b room v l) := h
  clear h hno
  have q1 : decide (room ≤ (l.length : Int)) = true := decide_eq_true hfull
  go_enter Try.func12, Try.ntmps12
  go_wp2_with fail
  refine ct.mono ?_
  rintro e w1 ⟨rfl, g1⟩
  clear ct
  have r1 := H0.out.below g1
  have c1 := r1.c1
  have c0 := r1.c0
  obtain ⟨ad, cap, rfl⟩ := r1.slice
  clear r1
  go_wp2
  go_big_quiet (fail)
  go_wp2
  go_ret
  exact ⟨rfl, g1.trans ((below_drewN _ _).mono g1.size)⟩
theorem cell_three_new (w : World) (x y z : Value) (t : TypeId) : ∀ (j : Nat) (q : Value), [x, y, z][j]? = some q → (w.alloc (.cells #[x, y, z] t)).cell? ((⟨w.heap.size, 0, none⟩ : Addr).add j) = some q := by
  intro j q hj
  match j, hj with
  | 0, hj => simp at hj; subst hj; simp [Addr.add]
  | 1, hj => simp at hj; subst hj; simp [Addr.add]
  | 2, hj => simp at hj; subst hj; simp [Addr.add]
/-- What lies there behind the append of a new thing. -/
theorem ref_grow {W1 w2 : World} {v2 : Value} {o : Obj} (h : Refs W1 b room v l) (x : Ent Int) (hl : l.length < 1000)
    (own2 : w2.ownsRow (b + 1) 92 3 v2 (l.length + 1) (cells3 l ++ [.int .i64 x.v, .int .i64 x.a, .int .i64 x.b])) (grow2 : (W1.alloc o).grownBy w2 v.ownBlock) (at2 : v2.ownBlock = v.ownBlock ∨ v2.ownBlock = some (W1.alloc o).heap.size) :
    (∃ a2 cap2, v2 = .slice a2 (l.length + 1) cap2) ∧ Refs (w2.setCell ⟨b, 1, none⟩ v2) b room v2 (l ++ [x]) ∧ Only (foot b v) W1 (w2.setCell ⟨b, 1, none⟩ v2) ∧ (∀ k ∈ foot b v2, k ∈ foot b v ∨ W1.heap.size ≤ k) ∧ w2.cell? ⟨b, 1, none⟩ = some v ∧ ∀ o, w2.frozen? ⟨b, o, none⟩ = false := by
  have gr := (World.grownBy_alloc W1 o v.ownBlock).trans grow2
  have hb : some b ≠ v.ownBlock := fun e => by have := (h.own.lt b e.symm).1; omega
  have blk := (gr.block b h.lt hb).trans h.blk
  have f : ∀ k ∈ foot b v2, k ∈ foot b v ∨ W1.heap.size ≤ k := by
    intro k hk
    simp only [foot, List.mem_cons, Option.mem_toList] at hk ⊢
    rcases hk with rfl | hk
    · exact .inl (.inl rfl)
    · rcases at2 with e | e
      · exact .inl (.inr (e ▸ hk))
      · rw [e] at hk; simp at hk; exact .inr (by omega)
  refine ⟨row_slice own2, ⟨?_, ?_, by simp; omega⟩, ?_, f, by simp [World.cell?, blk], fun o => by simp [World.frozen?, blk]⟩
  · have := heap_setCell_same w2 b 1 _ _ v2 blk
    simpa using this
  · have := ownsRow_setCell_below own2 (a := ⟨b, 1, none⟩) (show b < b + 1 by omega) v2
    rw [cells3_append]
    simpa [cells3] using this
  · exact ((Only.refl _ W1).grown gr (fun k hk => .inl (by simp [foot, hk]))).setCell (p := ⟨b, 1, none⟩) mem_foot _
set_option maxHeartbeats 2000000 in
theorem put_new (x a c t : Int) (w : World) (h : Refs w b room v l) (hno : ∀ y ∈ l, y.v ≠ x) (hroom : (l.length : Int) < room) (hl : l.length < 1000) :
    Calls Try.prog 12 #[.pointer (some ⟨b, 0, none⟩), .int .i64 x, .int .i64 a, .int .i64 c] w fun e w' => ∃ v', e = .returned (.bool true) ∧ Refs w' b room v' (l ++ [⟨x, a, c, t⟩]) ∧ Only (foot b v) w w' ∧ ∀ k ∈ foot b v', k ∈ foot b v ∨ w.heap.size ≤ k := by
  have ct := at_no x w h hno
  have H0 : Hid (Refs w b room v l) := h
  clear h hno
  have q1 : decide (room ≤ (l.length : Int)) = false := decide_eq_false (by omega)
  obtain ⟨i0, hi0, hz0, hz1, hz2⟩ := info_parts infoItem
  go_enter Try.func12, Try.ntmps12
  go_wp2_with fail
  refine ct.mono ?_
  rintro e w1 ⟨rfl, g1⟩
  clear ct
  have r1 := H0.out.below g1
  have c1 := r1.c1
  have c0 := r1.c0
  obtain ⟨ad, cap, rfl⟩ := r1.slice
  go_wp2
  go_big_quiet (fail)
  generalize hW1 : w1.drewN _ = W1
  have gW : Below w1.heap.size w1 W1 := by rw [← hW1]; exact below_drewN _ _
  replace r1 := r1.below gW
  clear c1 c0 hW1
  have c1 := r1.c1
  have bl := r1.lt
  have own := r1.own
  have R1 : Hid (Refs W1 b room (.slice ad l.length cap) l) := r1
  clear r1
  go_wp2_with (at_builtin; refine wpList_append_own_at _ rfl (.tmp 32) (.tmp 37) 37 rfl (b + 1) 92 i0 (.agg #[.int .i64 0, .int .i64 0, .int .i64 0]) 3 24 Try.underlying37 hi0 hz0 hz1 hz2 rfl (by decide) _ _ _ rfl (own.alloc _) ⟨W1.heap.size, 0, none⟩ 1 1 [.int .i64 x, .int .i64 a, .int .i64 c] rfl rfl (cell_three_new _ _ _ _ _) (by intro u hu; simp at hu; rcases hu with rfl | rfl | rfl <;> rfl) (by unfold maxLen; omega) (by omega) (by simp; omega) ?_; intro v2 w2 own2 grow2 nil2 at2; obtain ⟨⟨a2, cap2, rfl⟩, r2, o2, f2, d1, db⟩ := ref_grow R1.out ⟨x, a, c, t⟩ hl own2 grow2 at2; have R2 : Hid (Refs (w2.setCell ⟨b, 1, none⟩ (.slice a2 (l.length + 1) cap2)) b room (.slice a2 (l.length + 1) cap2) (l ++ [⟨x, a, c, t⟩])) := r2; clear own own2 grow2 nil2 at2 c1 r2)
  go_ret
  have ow : Only (foot b (.slice ad l.length cap)) w W1 := (Below.only g1 _).trans (Below.only gW []) (by simp)
  exact ⟨_, rfl, R2.out, ow.trans o2 (fun k hk => .inl hk), fun k hk => (f2 k hk).imp id (fun h => Nat.le_trans ow.size h)⟩
set_option maxHeartbeats 2000000 in
theorem put_there (x : Ent Int) (a c t : Int) (w : World) (h : Refs w b room v l) (it : Items l puts) (hin : x ∈ l) (hll : (less l x.v).length < 1000) :
    Calls Try.prog 12 #[.pointer (some ⟨b, 0, none⟩), .int .i64 x.v, .int .i64 a, .int .i64 c] w fun e w' => ∃ v', e = .returned (.bool true) ∧ Refs w' b room v' (less l x.v ++ [⟨x.v, a, c, t⟩]) ∧ Only (foot b v) w w' ∧ ∀ k ∈ foot b v', k ∈ foot b v ∨ w.heap.size ≤ k := by
  have ct := at_yes x w h it hin
  have H0 : Hid (Refs w b room v l) := h
  have HI : Hid (Items l puts) := it
  clear h hin it
  obtain ⟨xv, hxv⟩ : ∃ z, x.v = z := ⟨_, rfl⟩
  have HV : Hid (x.v = xv) := hxv
  rw [hxv] at ct hll ⊢
  obtain ⟨m, hm⟩ : ∃ m, less l xv = m := ⟨_, rfl⟩
  have HM : Hid (less l xv = m) := hm
  rw [hm] at hll ⊢
  clear hxv hm
  obtain ⟨i0, hi0, hz0, hz1, hz2⟩ := info_parts infoItem
  go_enter Try.func12, Try.ntmps12
  go_wp2_with fail
  refine ct.mono ?_
  rintro e w1 ⟨i, rfl, hx, g1⟩
  clear ct
  have ct := out_less i w1 (H0.out.below g1) HI.out hx
  rw [HV.out, HM.out] at ct
  clear hx
  go_wp2_with fail
  refine ct.mono ?_
  rintro e W1 ⟨v1, rfl, r1, o1, f1⟩
  clear ct
  have c1 := r1.c1
  obtain ⟨ad, cap, rfl⟩ := r1.slice
  have bl := r1.lt
  have own := r1.own
  have R1 : Hid (Refs W1 b room (.slice ad m.length cap) m) := r1
  clear r1
  go_wp2_with (at_builtin; refine wpList_append_own_at _ rfl (.tmp 32) (.tmp 37) 37 rfl (b + 1) 92 i0 (.agg #[.int .i64 0, .int .i64 0, .int .i64 0]) 3 24 Try.underlying37 hi0 hz0 hz1 hz2 rfl (by decide) _ _ _ rfl (own.alloc _) ⟨W1.heap.size, 0, none⟩ 1 1 [.int .i64 xv, .int .i64 a, .int .i64 c] rfl rfl (cell_three_new _ _ _ _ _) (by intro u hu; simp at hu; rcases hu with rfl | rfl | rfl <;> rfl) (by unfold maxLen; omega) (by omega) (by simp; omega) ?_; intro v2 w2 own2 grow2 nil2 at2; obtain ⟨⟨a2, cap2, rfl⟩, r2, o2, f2, d1, db⟩ := ref_grow R1.out ⟨xv, a, c, t⟩ hll own2 grow2 at2; have R2 : Hid (Refs (w2.setCell ⟨b, 1, none⟩ (.slice a2 (m.length + 1) cap2)) b room (.slice a2 (m.length + 1) cap2) (m ++ [⟨xv, a, c, t⟩])) := r2; clear own own2 grow2 nil2 at2 c1 r2)
  go_ret
  have ow : Only (foot b v) w W1 := (Below.only g1 _).trans o1 (fun k hk => .inl hk)
  have f1' : ∀ k ∈ foot b (.slice ad m.length cap), k ∈ foot b v ∨ w.heap.size ≤ k := fun k hk => (f1 k hk).imp id (fun h => Nat.le_trans g1.size h)
  refine ⟨_, rfl, R2.out, ow.trans o2 f1', fun k hk => ?_⟩
  rcases f2 k hk with h | h
  · exact f1' k h
  · exact .inr (Nat.le_trans ow.size h)
theorem few_ref {W w w' : World} {b : Nat} {room : Int} {v v' : Value} {l l' : List (Ent Int)} {fs : List Thing} (m : Few W fs w) (i : Nat) (hi : fs[i]? = some (foot b v, fun u => Refs u b room v l)) (h : Refs w' b room v' l') (o : Only (foot b v) w w') (f : ∀ k ∈ foot b v', k ∈ foot b v ∨ w.heap.size ≤ k) : Few W (fs.set i (foot b v', fun u => Refs u b room v' l')) w' := by
  have e : (fs.getD i nothing).1 = foot b v := by simp [List.getD, hi]
  exact m.turn i (List.getElem?_eq_some_iff.1 hi).1 (by rw [e]; exact o) h h.foot_lt (by rw [e]; exact f) keeps
theorem put_in (x a c t : Int) (w : World) (h : Refs w b room v l) (it : Items l puts) (hin : ∃ y ∈ l, y.v = x) (hll : (less l x).length < 1000) :
    Calls Try.prog 12 #[.pointer (some ⟨b, 0, none⟩), .int .i64 x, .int .i64 a, .int .i64 c] w fun e w' => ∃ v', e = .returned (.bool true) ∧ Refs w' b room v' (less l x ++ [⟨x, a, c, t⟩]) ∧ Only (foot b v) w w' ∧ ∀ k ∈ foot b v', k ∈ foot b v ∨ w.heap.size ≤ k := by
  obtain ⟨y, hy, rfl⟩ := hin
  exact put_there y a c t w h it hy hll
theorem drop_in (x : Int) (w : World) (h : Refs w b room v l) (it : Items l puts) (hin : ∃ y ∈ l, y.v = x) :
    Calls Try.prog 16 #[.pointer (some ⟨b, 0, none⟩), .int .i64 x] w fun e w' => ∃ v', e = .returned (.bool true) ∧ Refs w' b room v' (less l x) ∧ Only (foot b v) w w' ∧ ∀ k ∈ foot b v', k ∈ foot b v ∨ w.heap.size ≤ k := by
  obtain ⟨y, hy, rfl⟩ := hin
  exact drop_some y w h it hy
/-- Both take the same one. -/
theorem take_this {x : Ent Int} (w : World) (h : Refs w b room v l) (it : Items l puts) (hx : IsFirst l x) :
    Calls Try.prog 14 #[.pointer (some ⟨b, 0, none⟩)] w fun e w' => ∃ v', e = .returned (.tuple #[.int .i64 x.v, .bool true]) ∧ Refs w' b room v' (less l x.v) ∧ Only (foot b v) w w' ∧ ∀ k ∈ foot b v', k ∈ foot b v ∨ w.heap.size ≤ k :=
  (take_some w h it (List.ne_nil_of_mem hx.1)).mono fun e w' ⟨y, v', hy, he, r⟩ => by
    have := IsFirst.uniq it hx hy
    subst this
    exact ⟨v', he, r⟩
theorem top_this {x : Ent Int} (w : World) (h : Refs w b room v l) (it : Items l puts) (hx : IsFirst l x) :
    Calls Try.prog 20 #[.pointer (some ⟨b, 0, none⟩)] w fun e w' => e = .returned (.tuple #[.int .i64 x.v, .bool true]) ∧ Below w.heap.size w w' :=
  (top_some w h it (List.ne_nil_of_mem hx.1)).mono fun e w' ⟨y, hy, he, r⟩ => by
    have := IsFirst.uniq it hx hy
    subst this
    exact ⟨he, r⟩
theorem heap_le {w : World} {b : Nat} {room puts : Int} {v : Value} {l : List (Ent Int)} (h : HI.Heaps w b room puts v l) : (l.length : Int) ≤ room ∧ room ≤ 1000 := by
  obtain ⟨es, _, _, _, _, _, h1, h2⟩ := h
  exact ⟨h2, h1⟩
theorem isIn (l : List (Ent Int)) (x : Int) : (∃ y ∈ l, y.v = x) ∨ ∀ y ∈ l, y.v ≠ x := by
  by_cases h : ∃ y ∈ l, y.v = x
  · exact .inl h
  · exact .inr fun y hy e => h ⟨y, hy, e⟩
theorem has_first (_ : Refs w b room v l) (it : Items l puts) (hl : l ≠ []) : ∃ x, IsFirst l x := by
  have key : ∀ n (m : List (Ent Int)), m.length = n → m ≠ [] → ∃ x, IsFirst m x := by
    intro n
    induction n with
    | zero => intro m h1 h2; exact absurd (List.eq_nil_of_length_eq_zero h1) h2
    | succ n ih =>
      intro m h1 h2
      match m, h2 with
      | y :: m, _ =>
        by_cases e : m = []
        · subst e; exact ⟨y, by simp, fun z hz => by simp at hz; subst hz; exact Le.refl _⟩
        · obtain ⟨x, hx1, hx2⟩ := ih m (by simpa using h1) e
          by_cases c : Le x y
          · exact ⟨x, by simp [hx1], fun z hz => by
              simp only [List.mem_cons] at hz
              rcases hz with rfl | hz
              · exact c
              · exact hx2 z hz⟩
          · have c2 : Le y x := by unfold Le Lt at *; omega
            exact ⟨y, by simp, fun z hz => by
              simp only [List.mem_cons] at hz
              rcases hz with rfl | hz
              · exact Le.refl _
              · exact c2.trans (hx2 z hz)⟩
  have := it.low
  exact key _ l rfl hl
end Go.Proofs.Ytbfbijfedamgaaa.RH

/- The line of int by the plain list of its things: what each call makes of that list; its blocks are one list F. -/
namespace Go.Proofs.Ytbfbijfedamgaaa.LI
open Go.RowKit
variable {w w' : World} {lb hb : Nat} {room puts : Int} {hv av : Value} {A : List (Nat × Int)} {Z : List (Ent (Nat × Int))}
theorem Lines.disZ (h : Lines w lb hb room puts hv av A Z) : Z.Pairwise (fun x y => x.v.2 ≠ y.v.2) := by
  have h1 : (Z.map (·.v)).Pairwise (fun x y => x.2 ≠ y.2) := (h.perm.pairwise_iff (fun e => Ne.symm e)).1 h.dis
  rw [List.pairwise_map] at h1
  exact h1
theorem Lines.itemsHi (h : Lines w lb hb room puts hv av A Z) : Items (Z.map hi) puts := by
  have it := h.items
  refine ⟨?_, ?_, ?_⟩
  · rw [List.pairwise_map]
    have := it.inc
    rw [List.pairwise_map] at this
    exact this
  · rw [List.pairwise_map]
    exact h.disZ
  · intro x hx
    obtain ⟨z, hz, rfl⟩ := List.mem_map.1 hx
    exact it.low (lo z) (List.mem_map.2 ⟨z, hz, rfl⟩)
theorem less_hi {Z : List (Ent (Nat × Int))} (h : Z.Pairwise (fun x y => x.v.2 ≠ y.v.2)) {z : Ent (Nat × Int)} (hz : z ∈ Z) : (less Z z.v).map hi = less (Z.map hi) z.v.2 := by
  unfold less
  rw [List.filter_map]
  congr 1
  apply List.filter_congr
  intro y hy
  rw [Bool.eq_iff_iff]
  simp only [Function.comp, hi, decide_eq_true_eq]
  show y.v ≠ z.v ↔ decide (y.v.2 ≠ z.v.2) = true
  rw [decide_eq_true_eq]
  constructor
  · intro hne e
    obtain ⟨i, hi, rfl⟩ := List.getElem_of_mem hy
    obtain ⟨j, hj, rfl⟩ := List.getElem_of_mem hz
    have key := List.pairwise_iff_getElem.1 h
    rcases Nat.lt_trichotomy i j with q | q | q
    · exact key i j hi hj q e
    · subst q; exact hne rfl
    · exact key j i hj hi q e.symm
  · intro hne e
    exact hne (by rw [e])
theorem Lines.lessHi (h : Lines w lb hb room puts hv av A Z) {p : Nat × Int} (hp : p ∈ A) : (less Z p).map hi = less (Z.map hi) p.2 := by
  obtain ⟨z, hz, rfl⟩ := List.mem_map.1 (h.perm.mem_iff.1 hp)
  exact less_hi h.disZ hz
theorem Lines.has (h : Lines w lb hb room puts hv av A Z) {x : Int} (hx : ∃ y ∈ Z.map hi, y.v = x) : ∃ (i : Nat) (p : Nat × Int), A[i]? = some p ∧ p.2 = x := by
  obtain ⟨y, hy, rfl⟩ := hx
  obtain ⟨z, hz, rfl⟩ := List.mem_map.1 hy
  have hA : z.v ∈ A := h.perm.mem_iff.2 (List.mem_map.2 ⟨z, hz, rfl⟩)
  obtain ⟨i, hi⟩ := List.getElem?_of_mem hA
  exact ⟨i, z.v, hi, rfl⟩
theorem Lines.hasNot (h : Lines w lb hb room puts hv av A Z) {x : Int} (hx : ∀ y ∈ Z.map hi, y.v ≠ x) : ∀ p ∈ A, p.2 ≠ x := by
  intro p hp e
  obtain ⟨z, hz, rfl⟩ := List.mem_map.1 (h.perm.mem_iff.1 hp)
  exact hx (hi z) (List.mem_map.2 ⟨z, hz, rfl⟩) e
/-- One after the other the first one goes, as long as it is due. -/
inductive Steps (now : Int) : List (Ent Int) → List Int → List (Ent Int) → Prop
  | nil (l : List (Ent Int)) : Steps now l [] l
  | cons {l l' : List (Ent Int)} {gs : List Int} {x : Ent Int} : IsFirst l x → x.a ≤ now → Steps now (less l x.v) gs l' → Steps now l (x.v :: gs) l'
theorem Steps.snoc {now : Int} {l l' : List (Ent Int)} {gs : List Int} (h : Steps now l gs l') {x : Ent Int} (hx : IsFirst l' x) (hn : x.a ≤ now) : Steps now l (gs ++ [x.v]) (less l' x.v) := by
  induction h with
  | nil l => exact .cons hx hn (.nil _)
  | cons h1 h2 _ ih => exact .cons h1 h2 (ih hx)
theorem pops_in {now : Int} {Z Z' : List (Ent (Nat × Int))} {gs : List Int} (h : Pops now Z gs Z') (hd : Z.Pairwise (fun x y => x.v.2 ≠ y.v.2)) : Z'.Pairwise (fun x y => x.v.2 ≠ y.v.2) ∧ Steps now (Z.map hi) gs (Z'.map hi) := by
  induction h with
  | nil => exact ⟨hd, .nil _⟩
  | snoc h hz hf hn ih =>
    obtain ⟨i1, i2⟩ := ih
    refine ⟨List.Pairwise.sublist List.filter_sublist i1, ?_⟩
    rw [less_hi i1 hz]
    exact i2.snoc (firstHi hf hz) hn
/-- The line with the plain list l, on the blocks F. -/
def LinesF (F : List Nat) (lb : Nat) (room puts : Int) (l : List (Ent Int)) (w : World) : Prop := ∃ hb hv av A Z, F = footL lb hb hv av A ∧ Lines w lb hb room puts hv av A Z ∧ Z.map hi = l
variable {F : List Nat} {l : List (Ent Int)}
theorem LinesF.keeps : Stays F (LinesF F lb room puts l) := by
  intro w w' S ⟨hb, hv, av, A, Z, hF, h, hl⟩ g hS
  exact ⟨hb, hv, av, A, Z, hF, h.only g (hF ▸ hS), hl⟩
theorem LinesF.below (h : LinesF F lb room puts l w) (g : Below w.heap.size w w') : LinesF F lb room puts l w' := LinesF.keeps w w' [] h (Below.only g []) (by simp)
theorem LinesF.lt (h : LinesF F lb room puts l w) : ∀ k ∈ F, k < w.heap.size := by
  obtain ⟨hb, hv, av, A, Z, rfl, h, _⟩ := h
  exact h.foot_lt
theorem LinesF.items (h : LinesF F lb room puts l w) : Items l puts := by
  obtain ⟨hb, hv, av, A, Z, rfl, h, rfl⟩ := h
  exact h.itemsHi
theorem LinesF.few (h : LinesF F lb room puts l w) : (l.length : Int) ≤ room ∧ 0 ≤ room ∧ room ≤ 1000 := by
  obtain ⟨hb, hv, av, A, Z, rfl, h, rfl⟩ := h
  have := h.few
  rw [h.len] at this
  simpa using this
theorem l_new (n : Int) (w : World) (h1 : -9223372036854775808 ≤ n) (h2 : n ≤ 9223372036854775807) :
    Calls Try.prog 29 #[.int .i64 n] w fun e w' => ∃ lb F, e = .returned (.pointer (some ⟨lb, 0, none⟩)) ∧ LinesF F lb (HP.roomV n) 0 [] w' ∧ (∀ k ∈ F, w.heap.size ≤ k) ∧ Below w.heap.size w w' :=
  (new_any n w h1 h2).mono fun e w' ⟨lb, he, hlt, h, g⟩ => ⟨lb, _, he, ⟨_, _, _, _, _, rfl, h, rfl⟩, fun k hk => by
    simp [footL, foot, Value.ownBlock] at hk
    omega, g⟩
theorem l_len (w : World) (h : LinesF F lb room puts l w) :
    Calls Try.prog 34 #[.pointer (some ⟨lb, 0, none⟩)] w fun e w' => e = .returned (.int .i64 l.length) ∧ w' = w := by
  obtain ⟨hb, hv, av, A, Z, rfl, h, rfl⟩ := h
  have := len_any h
  rw [h.len] at this
  simpa using this
theorem l_next_none (w : World) (h : LinesF F lb room puts [] w) :
    Calls Try.prog 33 #[.pointer (some ⟨lb, 0, none⟩)] w fun e w' => e = .returned (.tuple #[.int .i64 0, .bool false]) ∧ Below w.heap.size w w' := by
  obtain ⟨hb, hv, av, A, Z, rfl, h, hl⟩ := h
  have : Z = [] := List.map_eq_nil_iff.1 hl
  subst this
  exact next_none w h
theorem l_next (w : World) (h : LinesF F lb room puts l w) (hl : l ≠ []) :
    Calls Try.prog 33 #[.pointer (some ⟨lb, 0, none⟩)] w fun e w' => ∃ x, IsFirst l x ∧ e = .returned (.tuple #[.int .i64 x.a, .bool true]) ∧ Below w.heap.size w w' := by
  obtain ⟨hb, hv, av, A, Z, rfl, h, rfl⟩ := h
  exact (next_some w h (by simpa using hl)).mono fun e w' ⟨z, _, hf, he, g⟩ => ⟨hi z, hf, he, g⟩
theorem l_put_in (x : Int) (d : Int) (w : World) (h : LinesF F lb room puts l w) (hin : ∃ y ∈ l, y.v = x) (hp0 : 0 ≤ puts) (hp1 : puts ≤ 1000000000) :
    Calls Try.prog 30 #[.pointer (some ⟨lb, 0, none⟩), mkI x, .int .i64 d] w fun e w' => ∃ F', e = .returned (.bool true) ∧ LinesF F' lb room (puts + 1) (less l x ++ [⟨x, d, 0, puts + 1⟩]) w' ∧ Only F w w' ∧ ∀ k ∈ F', k ∈ F ∨ w.heap.size ≤ k := by
  obtain ⟨hb, hv, av, A, Z, rfl, h, rfl⟩ := h
  obtain ⟨i, p, hp, rfl⟩ := h.has hin
  exact (put_there d w h hp hp0 hp1).mono fun e w' ⟨he, h', o⟩ => ⟨_, he, ⟨_, _, _, _, _, rfl, h', by rw [List.map_append, h.lessHi (List.mem_of_getElem? hp)]; rfl⟩, o.mono foot_in, fun k hk => .inl hk⟩
theorem l_put_full (x : Int) (d : Int) (w : World) (h : LinesF F lb room puts l w) (hno : ∀ y ∈ l, y.v ≠ x) (hfull : room ≤ l.length) :
    Calls Try.prog 30 #[.pointer (some ⟨lb, 0, none⟩), mkI x, .int .i64 d] w fun e w' => e = .returned (.bool false) ∧ Below w.heap.size w w' := by
  obtain ⟨hb, hv, av, A, Z, rfl, h, rfl⟩ := h
  exact put_full x d w h (h.hasNot hno) (by rw [h.len]; simpa using hfull)
theorem l_put_new (x : Int) (d : Int) (w : World) (h : LinesF F lb room puts l w) (hno : ∀ y ∈ l, y.v ≠ x) (hroom : (l.length : Int) < room) (hp0 : 0 ≤ puts) (hp1 : puts ≤ 1000000000) :
    Calls Try.prog 30 #[.pointer (some ⟨lb, 0, none⟩), mkI x, .int .i64 d] w fun e w' => ∃ F', e = .returned (.bool true) ∧ LinesF F' lb room (puts + 1) (l ++ [⟨x, d, 0, puts + 1⟩]) w' ∧ Only F w w' ∧ ∀ k ∈ F', k ∈ F ∨ w.heap.size ≤ k := by
  obtain ⟨hb, hv, av, A, Z, rfl, h, rfl⟩ := h
  exact (put_new x d w h (h.hasNot hno) (by rw [h.len]; simpa using hroom) hp0 hp1).mono fun e w' ⟨t, hv', av', he, ht, h', o, f1, f2⟩ => ⟨_, he, ⟨_, _, _, _, _, rfl, h', by rw [List.map_append]; rfl⟩, o, foot_put f1 f2 ht⟩
theorem l_drop_none (x : Int) (w : World) (h : LinesF F lb room puts l w) (hno : ∀ y ∈ l, y.v ≠ x) :
    Calls Try.prog 31 #[.pointer (some ⟨lb, 0, none⟩), mkI x] w fun e w' => e = .returned (.bool false) ∧ Below w.heap.size w w' := by
  obtain ⟨hb, hv, av, A, Z, rfl, h, rfl⟩ := h
  exact drop_none x w h (h.hasNot hno)
theorem l_drop_in (x : Int) (w : World) (h : LinesF F lb room puts l w) (hin : ∃ y ∈ l, y.v = x) :
    Calls Try.prog 31 #[.pointer (some ⟨lb, 0, none⟩), mkI x] w fun e w' => ∃ F', e = .returned (.bool true) ∧ LinesF F' lb room puts (less l x) w' ∧ Only F w w' ∧ ∀ k ∈ F', k ∈ F ∨ w.heap.size ≤ k := by
  obtain ⟨hb, hv, av, A, Z, rfl, h, rfl⟩ := h
  obtain ⟨i, p, hp, rfl⟩ := h.has hin
  exact (drop_some w h hp).mono fun e w' ⟨hv', av', he, h', f1, f2, o⟩ => ⟨_, he, ⟨_, _, _, _, _, rfl, h', h.lessHi (List.mem_of_getElem? hp)⟩, o, fun k hk => .inl (foot_same f1 f2 (fun q hq => List.mem_of_mem_eraseIdx hq) k hk)⟩
theorem l_due (now : Int) (w : World) (h : LinesF F lb room puts l w) :
    Calls Try.prog 32 #[.pointer (some ⟨lb, 0, none⟩), .int .i64 now] w fun e w' => ∃ v F' l' gs, e = .returned v ∧ w'.ownsRow w.heap.size 3 1 v gs.length (gs.map mkI) ∧ LinesF F' lb room puts l' w' ∧ Steps now l gs l' ∧ (∀ x, IsFirst l' x → now < x.a) ∧ Only F w w' ∧ ∀ k ∈ F', k ∈ F := by
  obtain ⟨hb, hv, av, A, Z, rfl, h, rfl⟩ := h
  exact (due_any now w h).mono fun e w' ⟨v, hv', av', A', Z', gs, he, own, h', hp, hend, f1, f2, hA, o⟩ => ⟨v, _, _, gs, he, own, ⟨_, _, _, _, _, rfl, h', rfl⟩, (pops_in hp h.disZ).2, fun x hx => by
    obtain ⟨z, hz, rfl⟩ := List.mem_map.1 hx.1
    exact hend z hz (hi_first hz hx), o, foot_same f1 f2 hA⟩
theorem few_line {W w w' : World} {F F' : List Nat} {lb : Nat} {room puts puts' : Int} {l l' : List (Ent Int)} {fs : List Thing} (m : Few W fs w) (i : Nat) (hi : fs[i]? = some (F, LinesF F lb room puts l)) (h : LinesF F' lb room puts' l' w') (o : Only F w w') (f : ∀ k ∈ F', k ∈ F ∨ w.heap.size ≤ k) : Few W (fs.set i (F', LinesF F' lb room puts' l')) w' := by
  have e : (fs.getD i nothing).1 = F := by simp [List.getD, hi]
  exact m.turn i (List.getElem?_eq_some_iff.1 hi).1 (by rw [e]; exact o) h h.lt (by rw [e]; exact f) LinesF.keeps
theorem rowForm {w : World} {base n : Nat} {e : TypeId} {v : Value} {xs : List Value} (h : w.ownsRow base e 1 v n xs) : ∃ a cap, v = .slice a n cap ∧ n ≤ 9223372036854775807 := by
  rcases h.2 with ⟨rfl, rfl⟩ | ⟨g, cap, cur, rfl, _, _, h1, h2, _⟩
  · exact ⟨none, 0, rfl, by omega⟩
  · exact ⟨_, _, rfl, by unfold maxLen at h2; omega⟩
theorem rowCell {w : World} {base n j cap : Nat} {a : Option Addr} {e : TypeId} {xs : List Value} {u : Value} (h : w.ownsRow base e 1 (.slice a n cap) n xs) (hj : xs[j]? = some u) (hn : xs.length = n) : ∃ g, a = some ⟨g, 0, none⟩ ∧ w.cell? ⟨g, j, none⟩ = some u := by
  have hl := (List.getElem?_eq_some_iff.1 hj).1
  rcases h.2 with ⟨_, hn'⟩ | ⟨g, cap', cur, hv, _⟩
  · omega
  · simp only [Value.slice.injEq] at hv
    obtain ⟨rfl, _, rfl⟩ := hv
    exact ⟨g, rfl, by rw [h.cellAt _ (by omega), hj]⟩
/-- Behind Due: the line has turned, and there is a list more. -/
theorem few_dues {W w w' : World} {F F' : List Nat} {lb : Nat} {room puts : Int} {l l' : List (Ent Int)} {dv : Value} {n : Nat} {xs : List Value} {fs : List Thing} (m : Few W fs w) (i : Nat) (hi : fs[i]? = some (F, LinesF F lb room puts l)) (h : LinesF F' lb room puts l' w') (o : Only F w w') (f : ∀ k ∈ F', k ∈ F) (own : w'.ownsRow w.heap.size 3 1 dv n xs) : Few W (fs.set i (F', LinesF F' lb room puts l') ++ [(dv.ownBlock.toList, fun u => u.ownsRow w.heap.size 3 1 dv n xs)]) w' := by
  have e : (fs.getD i nothing).1 = F := by simp [List.getD, hi]
  exact m.both i (List.getElem?_eq_some_iff.1 hi).1 (by rw [e]; exact o) h (by rw [e]; exact f) LinesF.keeps own (fun k hk => own.lt k (by simpa using hk)) rows_keep
theorem Steps.next {now : Int} {l l' : List (Ent Int)} {gs : List Int} {j : Nat} {y : Int} (h : Steps now l (gs.drop j) l') (hj : gs[j]? = some y) : ∃ x, IsFirst l x ∧ x.v = y ∧ x.a ≤ now ∧ Steps now (less l x.v) (gs.drop (j + 1)) l' := by
  obtain ⟨hl, rfl⟩ := List.getElem?_eq_some_iff.1 hj
  rw [List.drop_eq_getElem_cons hl] at h
  generalize hd : gs[j] :: gs.drop (j + 1) = ds at h
  cases h with
  | nil => cases hd
  | cons h1 h2 h3 =>
    simp only [List.cons.injEq] at hd
    obtain ⟨e1, e2⟩ := hd
    exact ⟨_, h1, e1.symm, h2, by rw [e2]; exact h3⟩
theorem Steps.done {now : Int} {l l' : List (Ent Int)} (h : Steps now l [] l') : l' = l := by
  cases h
  rfl
end Go.Proofs.Ytbfbijfedamgaaa.LI

/- Operations that lie in blocks of their own, among a few things. -/
namespace Go.Proofs.Ytbfbijfedamgaaa
open Go.RowKit
theorem OpAt.keeps {P : Nat} {o : Op4} : Stays [P] (OpAt P o) := by
  intro w w' S h g hS
  have hl := (Array.getElem?_eq_some_iff.1 h).1
  unfold OpAt at h ⊢
  rw [g.block P hl (hS P (by simp))]
  exact h
/-- Number i of the operations that came in, as it lies now. -/
theorem op_cells {W w : World} {x : Addr} {i : Nat} {o : Op4} (h : IsOp W x i o) (hb : x.block < W.heap.size) (g : Below W.heap.size W w) : IsOp w x i o := by
  obtain ⟨h0, h1, h2, h3, r⟩ := h
  exact ⟨(g.cell (by rw [add_block]; exact hb)).trans h0, (g.cell (by rw [add_block]; exact hb)).trans h1, (g.cell (by rw [add_block]; exact hb)).trans h2, (g.cell (by rw [add_block]; exact hb)).trans h3, r⟩
theorem add_more (x : Addr) (n j : Nat) (hj : 0 < j) : x.add (n + j) = ⟨(x.add n).block, (x.add n).off + j, none⟩ := by
  unfold Addr.add
  rw [if_neg (by omega)]
  split
  · rename_i e; subst e; simp
  · simp; omega
/-- The same, at the addresses as the walk reckons them. -/
theorem op_here {W w : World} {x : Addr} {i : Nat} {o : Op4} (h : IsOp W x i o) (hb : x.block < W.heap.size) (g : Below W.heap.size W w) :
    ∃ y, x.add (i * 4) = y ∧ w.cell? y = some (.int .i64 o.kind) ∧ w.cell? ⟨y.block, y.off + 1, none⟩ = some (.int .i64 o.v) ∧ w.cell? ⟨y.block, y.off + 2, none⟩ = some (.int .i64 o.a) ∧ w.cell? ⟨y.block, y.off + 3, none⟩ = some (.int .i64 o.b) ∧ inI64 o.v ∧ inI64 o.a ∧ inI64 o.b := by
  obtain ⟨h0, h1, h2, h3, r⟩ := op_cells h hb g
  rw [add_more _ _ _ (by omega)] at h1 h2 h3
  exact ⟨_, rfl, h0, h1, h2, h3, r⟩
end Go.Proofs.Ytbfbijfedamgaaa


namespace Go.Proofs.Ytbfbijfedamgaaa.lineAll
open Go.ChangeShapes Go.WideShapes Go.ChangeAt Go.RowKit
open Go.ChangeMaps (open_string shut_string)
set_option linter.unusedVariables false

theorem own : ownKnob Try.prog.godebug = none := by kernel_rfl
theorem laidOut : laidOutB Try.prog = true := by kernel_rfl

set_option maxHeartbeats 8000000 in
set_option maxRecDepth 100000 in
theorem walk (a0 : Int) (a1 : Option Addr) (len1 cap1 : Nat) (z1 : List Op4) (w : World) (w0 : (Lit.int .i64 a0).wf = true) (w1 : IsOps w a1 len1 z1) :
    Calls Try.prog 5 #[.int .i64 a0, .slice a1 len1 cap1] w fun e w' => e = .returned (.bool true) ∧ Below w.heap.size w w' := by
  obtain ⟨b1, b2⟩ := bounds_i64 w0
  obtain ⟨hzl, hlen, hops⟩ := w1
  have HO : Hid (∀ i o, z1[i]? = some o → ∃ x, a1 = some x ∧ x.block < w.heap.size ∧ IsOp w x i o) := hops
  have HZ : Hid (z1.length = len1) := hzl
  clear hops hzl
  obtain ⟨M, hM⟩ : ∃ M : Int, M = max 0 (min a0 1000) := ⟨_, rfl⟩
  have hM0 : 0 ≤ M := by omega
  have hM1 : M ≤ 1000 := by omega
  have HR : Hid (HP.roomV a0 = M) := hM.symm
  have HR2 : Hid (RH.roomV a0 = M) := hM.symm
  clear hM
  go_enter Try.func5, Try.ntmps5
  go_wp2_with fail
  refine (begun2_any _).mono ?_
  rintro e W ⟨rfl, g0⟩
  have M0 : Hid (Few w [] W) := (Few.start w).below g0
  clear g0
  go_wp2_with fail
  refine (LI.l_new a0 W b1 b2).mono ?_
  rintro e w1 ⟨B, F0, rfl, h1, q1, g1⟩
  rw [HR.out] at h1
  have M1 : Hid (Few w [(F0, LI.LinesF F0 B M 0 [])] w1) := M0.out.add g1 h1 h1.lt q1 LI.LinesF.keeps
  clear M0 g1 h1 q1
  go_wp2_with fail
  refine (RH.new_any a0 w1 b1 b2).mono ?_
  rintro e w2 ⟨rfl, h2, g2⟩
  rw [HR2.out] at h2
  have M2 : Hid (Few w [(F0, LI.LinesF F0 B M 0 []), (foot w1.heap.size (.slice none 0 0), fun u => RH.Refs u w1.heap.size M (.slice none 0 0) [])] w2) := M1.out.add g2 h2 h2.foot_lt h2.foot_ge RH.keeps
  clear M1 g2 h2
  obtain ⟨C, hC⟩ : ∃ C, C = w1.heap.size := ⟨_, rfl⟩
  rw [← hC]
  rw [← hC] at M2
  clear hC
  go_wp2
  go_loopg [8] 60 (fun gk s8 wr => ∃ (k : Nat) (l : List (Ent Int)) (p : Int) (f : List Nat) (v2 : Value), k ≤ len1 ∧ gk + k = 60 ∧ s8 = .int .i64 k ∧ 0 ≤ p ∧ p ≤ k ∧ Few w [(f, LI.LinesF f B M p l), (foot C v2, fun u => RH.Refs u C M v2 l)] wr)
  case atStart => exact ⟨0, [], 0, _, _, by omega, by omega, rfl, by omega, by omega, M2.out⟩
  case round =>
    clear M2
    skip
    obtain ⟨k, l, p, f, v2, hk, hgk, rfl, hp0, hpk, M2⟩ := hrel
    have HM : Hid (Few w [(f, LI.LinesF f B M p l), (foot C v2, fun u => RH.Refs u C M v2 l)] wr) := M2
    clear M2
    by_cases hkl : k < len1
    · have hkl' : (k : Int) < (len1 : Int) := by omega
      by_cases hk60 : k < 60
      · have hk60' : (k : Int) < 60 := by omega
        obtain ⟨o, ho⟩ : ∃ o, z1[k]? = some o := ⟨_, List.getElem?_eq_getElem (by rw [HZ.out]; exact hkl)⟩
        obtain ⟨x, rfl, hxb, hop⟩ := HO.out k o ho
        obtain ⟨kd, ov, oa, ob⟩ := o
        obtain ⟨y, hy, c0, c1, c2, c3, iv, ia, ib⟩ := op_here hop hxb HM.out.bel
        simp only at c0 c1 c2 c3 iv ia ib
        have HY : Hid (x.add (k * 4) = y) := hy
        clear hop ho
        go_upto_region 9 with fail
        have MA : Hid (Few w [(f, LI.LinesF f B M p l), (foot C v2, fun u => RH.Refs u C M v2 l), ([wr.heap.size], OpAt wr.heap.size ⟨kd, ov, oa, ob⟩)] (wr.alloc (.cells #[.int .i64 kd, .int .i64 ov, .int .i64 oa, .int .i64 ob] 29))) := HM.out.add ((Below.refl _ _).alloc (Nat.le_refl _) _) (heap_alloc_new _ _) (by simp) (by simp) OpAt.keeps
        obtain ⟨P, hP⟩ : ∃ P, P = wr.heap.size := ⟨_, rfl⟩
        rw [← hP] at MA ⊢
        clear hP HM c0 c1 c2 c3 hy
        generalize wr.alloc (.cells #[.int .i64 kd, .int .i64 ov, .int .i64 oa, .int .i64 ob] 29) = wa at MA ⊢
        obtain ⟨d0, d1, d2, d3⟩ := OpAt.cells (MA.out.holds 2)
        simp only at d0 d1 d2 d3
        go_upto_block 2 with fail
        go_cut [] (fun wd => ∃ (l : List (Ent Int)) (p : Int) (f : List Nat) (v2 : Value), 0 ≤ p ∧ p ≤ k + 1 ∧ Few w [(f, LI.LinesF f B M p l), (foot C v2, fun u => RH.Refs u C M v2 l)] wd)
        case first =>
          have HIT : Hid (Items l p) := LI.LinesF.items (MA.out.holds 0)
          obtain ⟨hle, -, -⟩ := LI.LinesF.few (MA.out.holds 0)
          by_cases k0 : kd = 0
          · subst k0
            rcases RH.isIn l ov with hin | hno
            · as_aux_lemma =>
              have HN : Hid (∃ y ∈ l, y.v = ov) := hin
              have HLL : Hid ((less l ov).length + 1 = l.length) := less_length HIT.out hin
              clear hin
              go_wp2_with fail
              go_region_held3 (fun w' => w'.cell? ⟨P, 1, none⟩ = some (.int .i64 ov) ∧ w'.cell? ⟨P, 2, none⟩ = some (.int .i64 oa)) (first | exact ⟨d1, d2⟩ | go_keep | exact ⟨e1, e2⟩ | exact ⟨f1, f2⟩)
                (first
                  | (go_at_call 30; refine (LI.l_put_in ov oa _ ((MA.out.below ((Below.refl _ _).drew)).holds 0) HN.out hp0 (by omega)).mono ?_; rintro e w2 ⟨fn, rfl, h2, o2, q2⟩; have M2 : Hid (Few w [(fn, LI.LinesF fn B M (p + 1) (less l ov ++ [⟨ov, oa, 0, p + 1⟩])), (foot C v2, fun u => RH.Refs u C M v2 l), ([P], OpAt P ⟨0, ov, oa, ob⟩)] w2) := LI.few_line (MA.out.below ((Below.refl _ _).drew)) 0 rfl h2 o2 q2; obtain ⟨_, e1, e2, e3⟩ := OpAt.cells (M2.out.holds 2); simp only at e1 e2 e3; clear h2 o2 q2 MA)
                  | (go_at_call 12; refine (RH.put_in ov oa 0 (p + 1) _ (M2.out.holds 1) HIT.out HN.out (by have := HLL.out; omega)).mono ?_; rintro e w3 ⟨v3, rfl, h3, o3, q3⟩; have M3 : Hid (Few w [(fn, LI.LinesF fn B M (p + 1) (less l ov ++ [⟨ov, oa, 0, p + 1⟩])), (foot C v3, fun u => RH.Refs u C M v3 (less l ov ++ [⟨ov, oa, 0, p + 1⟩])), ([P], OpAt P ⟨0, ov, oa, ob⟩)] w3) := RH.few_ref M2.out 1 rfl h3 o3 q3; obtain ⟨_, f1, f2, f3⟩ := OpAt.cells (M3.out.holds 2); simp only at f1 f2 f3; clear h3 o3 q3 M2))
              go_wp2
              go_meet
              exact ⟨_, p + 1, _, v3, by omega, by omega, Few.less (l := [_, _]) M3.out⟩
            · rcases (by omega : M ≤ (l.length : Int) ∨ (l.length : Int) < M) with hroom | hroom
              · as_aux_lemma =>
                have HN : Hid (∀ y ∈ l, y.v ≠ ov) := hno
                clear hno
                go_wp2_with fail
                go_region_held3 (fun w' => w'.cell? ⟨P, 1, none⟩ = some (.int .i64 ov) ∧ w'.cell? ⟨P, 2, none⟩ = some (.int .i64 oa)) (first | exact ⟨d1, d2⟩ | go_keep | exact ⟨e1, e2⟩ | exact ⟨f1, f2⟩)
                  (first
                    | (go_at_call 30; refine (LI.l_put_full ov oa _ ((MA.out.below ((Below.refl _ _).drew)).holds 0) HN.out hroom).mono ?_; rintro e w2 ⟨rfl, g2⟩; have M2 : Hid (Few w [(f, LI.LinesF f B M p l), (foot C v2, fun u => RH.Refs u C M v2 l), ([P], OpAt P ⟨0, ov, oa, ob⟩)] w2) := (MA.out.below ((Below.refl _ _).drew)).below g2; obtain ⟨_, e1, e2, e3⟩ := OpAt.cells (M2.out.holds 2); simp only at e1 e2 e3; clear g2 MA)
                    | (go_at_call 12; refine (RH.put_full ov oa 0 _ (M2.out.holds 1) HN.out hroom).mono ?_; rintro e w3 ⟨rfl, g3⟩; have M3 : Hid (Few w [(f, LI.LinesF f B M p l), (foot C v2, fun u => RH.Refs u C M v2 l), ([P], OpAt P ⟨0, ov, oa, ob⟩)] w3) := M2.out.below g3; obtain ⟨_, f1, f2, f3⟩ := OpAt.cells (M3.out.holds 2); simp only at f1 f2 f3; clear g3 M2))
                go_wp2
                go_meet
                exact ⟨l, p, f, v2, by omega, by omega, Few.less (l := [_, _]) M3.out⟩
              · as_aux_lemma =>
                have HN : Hid (∀ y ∈ l, y.v ≠ ov) := hno
                clear hno
                go_wp2_with fail
                go_region_held3 (fun w' => w'.cell? ⟨P, 1, none⟩ = some (.int .i64 ov) ∧ w'.cell? ⟨P, 2, none⟩ = some (.int .i64 oa)) (first | exact ⟨d1, d2⟩ | go_keep | exact ⟨e1, e2⟩ | exact ⟨f1, f2⟩)
                  (first
                    | (go_at_call 30; refine (LI.l_put_new ov oa _ ((MA.out.below ((Below.refl _ _).drew)).holds 0) HN.out (by omega) hp0 (by omega)).mono ?_; rintro e w2 ⟨fn, rfl, h2, o2, q2⟩; have M2 : Hid (Few w [(fn, LI.LinesF fn B M (p + 1) (l ++ [⟨ov, oa, 0, p + 1⟩])), (foot C v2, fun u => RH.Refs u C M v2 l), ([P], OpAt P ⟨0, ov, oa, ob⟩)] w2) := LI.few_line (MA.out.below ((Below.refl _ _).drew)) 0 rfl h2 o2 q2; obtain ⟨_, e1, e2, e3⟩ := OpAt.cells (M2.out.holds 2); simp only at e1 e2 e3; clear h2 o2 q2 MA)
                    | (go_at_call 12; refine (RH.put_new ov oa 0 (p + 1) _ (M2.out.holds 1) HN.out (by omega) (by omega)).mono ?_; rintro e w3 ⟨v4, rfl, h3, o3, q3⟩; have M3 : Hid (Few w [(fn, LI.LinesF fn B M (p + 1) (l ++ [⟨ov, oa, 0, p + 1⟩])), (foot C v4, fun u => RH.Refs u C M v4 (l ++ [⟨ov, oa, 0, p + 1⟩])), ([P], OpAt P ⟨0, ov, oa, ob⟩)] w3) := RH.few_ref M2.out 1 rfl h3 o3 q3; obtain ⟨_, f1, f2, f3⟩ := OpAt.cells (M3.out.holds 2); simp only at f1 f2 f3; clear h3 o3 q3 M2))
                go_wp2
                go_meet
                exact ⟨_, p + 1, fn, v4, by omega, by omega, Few.less (l := [_, _]) M3.out⟩
          · by_cases k2 : kd = 2
            · subst k2
              rcases RH.isIn l ov with hin | hno
              · as_aux_lemma =>
                have HN : Hid (∃ y ∈ l, y.v = ov) := hin
                clear hin
                go_wp2_with fail
                go_region_held3 (fun w' => w'.cell? ⟨P, 1, none⟩ = some (.int .i64 ov)) (first | exact d1 | go_keep | exact e1 | exact f1)
                  (first
                    | (go_at_call 31; refine (LI.l_drop_in ov _ ((MA.out.below ((Below.refl _ _).drew)).holds 0) HN.out).mono ?_; rintro e w2 ⟨fn, rfl, h2, o2, q2⟩; have M2 : Hid (Few w [(fn, LI.LinesF fn B M p (less l ov)), (foot C v2, fun u => RH.Refs u C M v2 l), ([P], OpAt P ⟨2, ov, oa, ob⟩)] w2) := LI.few_line (MA.out.below ((Below.refl _ _).drew)) 0 rfl h2 o2 q2; obtain ⟨_, e1, e2, e3⟩ := OpAt.cells (M2.out.holds 2); simp only at e1 e2 e3; clear h2 o2 q2 MA)
                    | (go_at_call 16; refine (RH.drop_in ov _ (M2.out.holds 1) HIT.out HN.out).mono ?_; rintro e w3 ⟨v4, rfl, h3, o3, q3⟩; have M3 : Hid (Few w [(fn, LI.LinesF fn B M p (less l ov)), (foot C v4, fun u => RH.Refs u C M v4 (less l ov)), ([P], OpAt P ⟨2, ov, oa, ob⟩)] w3) := RH.few_ref M2.out 1 rfl h3 o3 q3; obtain ⟨_, f1, f2, f3⟩ := OpAt.cells (M3.out.holds 2); simp only at f1 f2 f3; clear h3 o3 q3 M2))
                go_wp2
                go_meet
                exact ⟨_, p, fn, v4, by omega, by omega, Few.less (l := [_, _]) M3.out⟩
              · as_aux_lemma =>
                have HN : Hid (∀ y ∈ l, y.v ≠ ov) := hno
                clear hno
                go_wp2_with fail
                go_region_held3 (fun w' => w'.cell? ⟨P, 1, none⟩ = some (.int .i64 ov)) (first | exact d1 | go_keep | exact e1 | exact f1)
                  (first
                    | (go_at_call 31; refine (LI.l_drop_none ov _ ((MA.out.below ((Below.refl _ _).drew)).holds 0) HN.out).mono ?_; rintro e w2 ⟨rfl, g2⟩; have M2 : Hid (Few w [(f, LI.LinesF f B M p l), (foot C v2, fun u => RH.Refs u C M v2 l), ([P], OpAt P ⟨2, ov, oa, ob⟩)] w2) := (MA.out.below ((Below.refl _ _).drew)).below g2; obtain ⟨_, e1, e2, e3⟩ := OpAt.cells (M2.out.holds 2); simp only at e1 e2 e3; clear g2 MA)
                    | (go_at_call 16; refine (RH.drop_none ov _ (M2.out.holds 1) HN.out).mono ?_; rintro e w3 ⟨rfl, g3⟩; have M3 : Hid (Few w [(f, LI.LinesF f B M p l), (foot C v2, fun u => RH.Refs u C M v2 l), ([P], OpAt P ⟨2, ov, oa, ob⟩)] w3) := M2.out.below g3; obtain ⟨_, f1, f2, f3⟩ := OpAt.cells (M3.out.holds 2); simp only at f1 f2 f3; clear g3 M2))
                go_wp2
                go_meet
                exact ⟨l, p, f, v2, by omega, by omega, Few.less (l := [_, _]) M3.out⟩
            · as_aux_lemma =>
              go_wp2_with fail
              refine (LI.l_due oa wa (MA.out.holds 0)).mono ?_
              rintro e w2 ⟨dv, fn, l', gs, rfl, own, h2, hst, hend, o2, q2⟩
              obtain ⟨Q, hQ⟩ : ∃ Q, Q = wa.heap.size := ⟨_, rfl⟩
              obtain ⟨ad, cap, rfl, hn⟩ := LI.rowForm own
              have M2 := LI.few_dues MA.out 0 rfl h2 o2 q2 own
              rw [← hQ] at M2
              obtain ⟨n, hgn⟩ : ∃ n, gs.length = n := ⟨_, rfl⟩
              rw [hgn] at M2 hn ⊢
              have HGN : Hid (gs.length = n) := hgn
              have MB : Hid (Few w [(fn, LI.LinesF fn B M p l'), (foot C v2, fun u => RH.Refs u C M v2 l), ([P], OpAt P ⟨kd, ov, oa, ob⟩), ((Value.slice ad n cap).ownBlock.toList, fun u => u.ownsRow Q 3 1 (.slice ad n cap) n (gs.map mkI))] w2) := M2
              have HST : Hid (LI.Steps oa l gs l') := hst
              have HEND : Hid (∀ x, IsFirst l' x → oa < x.a) := hend
              clear MA M2 own h2 hst hend o2 q2 hQ hgn d0 d1 d2 d3
              go_wp2
              go_loopg [11] n (fun gk s11 wr => ∃ (j : Nat) (lj : List (Ent Int)) (v2 : Value), gk + j = n ∧ s11 = .int .i64 j ∧ LI.Steps oa lj (gs.drop j) l' ∧ Items lj p ∧ Few w [(fn, LI.LinesF fn B M p l'), (foot C v2, fun u => RH.Refs u C M v2 lj), ([P], OpAt P ⟨kd, ov, oa, ob⟩), ((Value.slice ad n cap).ownBlock.toList, fun u => u.ownsRow Q 3 1 (.slice ad n cap) n (gs.map mkI))] wr)
              case atStart => exact ⟨0, l, v2, by omega, rfl, HST.out, HIT.out, MB.out⟩
              case round =>
                clear MB HST HIT
                obtain ⟨j, lj, v3, hj, rfl, hst, hit, M3⟩ := hrel
                have HIT : Hid (Items lj p) := hit
                have MC : Hid (Few w [(fn, LI.LinesF fn B M p l'), (foot C v3, fun u => RH.Refs u C M v3 lj), ([P], OpAt P ⟨kd, ov, oa, ob⟩), ((Value.slice ad n cap).ownBlock.toList, fun u => u.ownsRow Q 3 1 (.slice ad n cap) n (gs.map mkI))] wr) := M3
                have HST : Hid (LI.Steps oa lj (gs.drop j) l') := hst
                clear hit M3 hst
                by_cases hjn : j < n
                · have hjn' : (j : Int) < (n : Int) := by omega
                  obtain ⟨y, hy⟩ : ∃ y, gs[j]? = some y := ⟨_, List.getElem?_eq_getElem (by rw [HGN.out]; exact hjn)⟩
                  obtain ⟨x, hx, hxy, hxa, hst⟩ := HST.out.next hy
                  obtain ⟨g, rfl, -⟩ := LI.rowCell (j := j) (u := .int .i64 y) (MC.out.holds 3) (by simp [hy, mkI]) (by rw [List.length_map]; exact HGN.out)
                  obtain ⟨xv, hxv⟩ : ∃ z, x.v = z := ⟨_, rfl⟩
                  obtain ⟨xa, hxa2⟩ : ∃ z, x.a = z := ⟨_, rfl⟩
                  obtain ⟨xb, hxb2⟩ : ∃ z, x.b = z := ⟨_, rfl⟩
                  have HX : Hid (IsFirst lj x) := hx
                  have HXV : Hid (x.v = xv) := hxv
                  have HGJ : Hid (gs[j]? = some xv) := by show _ = _; rw [hy, ← hxy, hxv]
                  have HS2 : Hid (LI.Steps oa (less lj xv) (gs.drop (j + 1)) l') := by rw [← hxv]; exact hst
                  rw [hxa2] at hxa
                  have CT1 : Hid (∀ u, RH.Refs u C M v3 lj → Calls Try.prog 20 #[.pointer (some ⟨C, 0, none⟩)] u fun e w' => e = .returned (.tuple #[.int .i64 xv, .bool true]) ∧ Below u.heap.size u w') := fun u h => hxv ▸ RH.top_this u h HIT.out hx
                  have CT2 : Hid (∀ u, RH.Refs u C M v3 lj → Calls Try.prog 18 #[.pointer (some ⟨C, 0, none⟩), .int .i64 xv] u fun e w' => e = .returned (.tuple #[.int .i64 xa, .int .i64 xb, .bool true]) ∧ Below u.heap.size u w') := fun u h => hxv ▸ hxa2 ▸ hxb2 ▸ RH.key_some x u h HIT.out hx.1
                  have CT3 : Hid (∀ u, RH.Refs u C M v3 lj → Calls Try.prog 14 #[.pointer (some ⟨C, 0, none⟩)] u fun e w' => ∃ v', e = .returned (.tuple #[.int .i64 xv, .bool true]) ∧ RH.Refs w' C M v' (less lj xv) ∧ Only (foot C v3) u w' ∧ ∀ k ∈ foot C v', k ∈ foot C v3 ∨ u.heap.size ≤ k) := fun u h => hxv ▸ RH.take_this u h HIT.out hx
                  have HI2 : Hid (Items (less lj xv) p) := HIT.out.less xv
                  clear hy hx hxy hst hxv hxa2 hxb2
                  go_wp2_with fail
                  refine (CT1.out wr (MC.out.holds 1)).mono ?_
                  rintro e w4 ⟨rfl, g4⟩
                  have MD : Hid (Few w [(fn, LI.LinesF fn B M p l'), (foot C v3, fun u => RH.Refs u C M v3 lj), ([P], OpAt P ⟨kd, ov, oa, ob⟩), ((Value.slice (some ⟨g, 0, none⟩) n cap).ownBlock.toList, fun u => u.ownsRow Q 3 1 (.slice (some ⟨g, 0, none⟩) n cap) n (gs.map mkI))] w4) := MC.out.below g4
                  clear MC g4 CT1
                  go_wp2_with fail
                  refine (CT2.out w4 (MD.out.holds 1)).mono ?_
                  rintro e w5 ⟨rfl, g5⟩
                  have ME : Hid (Few w [(fn, LI.LinesF fn B M p l'), (foot C v3, fun u => RH.Refs u C M v3 lj), ([P], OpAt P ⟨kd, ov, oa, ob⟩), ((Value.slice (some ⟨g, 0, none⟩) n cap).ownBlock.toList, fun u => u.ownsRow Q 3 1 (.slice (some ⟨g, 0, none⟩) n cap) n (gs.map mkI))] w5) := MD.out.below g5
                  clear MD g5 CT2
                  obtain ⟨_, e1, e2, e3⟩ := OpAt.cells (ME.out.holds 2)
                  simp only at e1 e2 e3
                  obtain ⟨g', hg', er⟩ := LI.rowCell (j := j) (u := .int .i64 xv) (ME.out.holds 3) (by simp [HGJ.out, mkI]) (by rw [List.length_map]; exact HGN.out)
                  simp only [Option.some.injEq, Addr.mk.injEq, and_true] at hg'
                  subst hg'
                  go_wp2_with fail
                  refine (CT3.out w5 (ME.out.holds 1)).mono ?_
                  rintro e w6 ⟨v4, rfl, h6, o6, q6⟩
                  have MF : Hid (Few w [(fn, LI.LinesF fn B M p l'), (foot C v4, fun u => RH.Refs u C M v4 (less lj xv)), ([P], OpAt P ⟨kd, ov, oa, ob⟩), ((Value.slice (some ⟨g, 0, none⟩) n cap).ownBlock.toList, fun u => u.ownsRow Q 3 1 (.slice (some ⟨g, 0, none⟩) n cap) n (gs.map mkI))] w6) := RH.few_ref ME.out 1 rfl h6 o6 q6
                  clear ME h6 o6 q6 CT3 e1 e2 e3 er
                  go_wp2
                  go_roundg (n - (j + 1))
                  case measure => omega
                  case rel => exact ⟨j + 1, less lj xv, v4, by omega, by go_num, HS2.out, HI2.out, MF.out⟩
                · obtain rfl : n = j := by omega
                  have hlj : l' = lj := by
                    have h1 := HST.out
                    rw [List.drop_of_length_le (by rw [HGN.out]; exact Nat.le_refl _)] at h1
                    exact h1.done
                  subst hlj
                  obtain ⟨_, e1, e2, e3⟩ := OpAt.cells (MC.out.holds 2)
                  simp only at e1 e2 e3
                  cases l' with
                  | nil =>
                    go_wp2_with fail
                    refine (RH.top_none wr (MC.out.holds 1)).mono ?_
                    rintro e w4 ⟨rfl, g4⟩
                    have MD := MC.out.below g4
                    have MD' : Hid (Few w [(fn, LI.LinesF fn B M p []), (foot C v3, fun u => RH.Refs u C M v3 [])] w4) := Few.less (l := [_, _]) (Few.less (l := [_, _, _]) MD)
                    clear MC g4 MD
                    go_wp2
                    go_meet
                    exact ⟨[], p, fn, v3, by omega, by omega, MD'.out⟩
                  | cons z l2 =>
                    obtain ⟨x, hx⟩ : ∃ x, IsFirst (z :: l2) x := RH.has_first (MC.out.holds 1) HIT.out (by simp)
                    have hxe := HEND.out x hx
                    obtain ⟨xv, hxv⟩ : ∃ z, x.v = z := ⟨_, rfl⟩
                    obtain ⟨xa, hxa2⟩ : ∃ z, x.a = z := ⟨_, rfl⟩
                    obtain ⟨xb, hxb2⟩ : ∃ z, x.b = z := ⟨_, rfl⟩
                    rw [hxa2] at hxe
                    have CT1 : Hid (∀ u, RH.Refs u C M v3 (z :: l2) → Calls Try.prog 20 #[.pointer (some ⟨C, 0, none⟩)] u fun e w' => e = .returned (.tuple #[.int .i64 xv, .bool true]) ∧ Below u.heap.size u w') := fun u h => hxv ▸ RH.top_this u h HIT.out hx
                    have CT2 : Hid (∀ u, RH.Refs u C M v3 (z :: l2) → Calls Try.prog 18 #[.pointer (some ⟨C, 0, none⟩), .int .i64 xv] u fun e w' => e = .returned (.tuple #[.int .i64 xa, .int .i64 xb, .bool true]) ∧ Below u.heap.size u w') := fun u h => hxv ▸ hxa2 ▸ hxb2 ▸ RH.key_some x u h HIT.out hx.1
                    clear hx hxv hxa2 hxb2
                    go_wp2_with fail
                    refine (CT1.out wr (MC.out.holds 1)).mono ?_
                    rintro e w4 ⟨rfl, g4⟩
                    have MD : Hid (Few w [(fn, LI.LinesF fn B M p (z :: l2)), (foot C v3, fun u => RH.Refs u C M v3 (z :: l2)), ([P], OpAt P ⟨kd, ov, oa, ob⟩), ((Value.slice ad n cap).ownBlock.toList, fun u => u.ownsRow Q 3 1 (.slice ad n cap) n (gs.map mkI))] w4) := MC.out.below g4
                    clear MC g4 CT1 e1 e2 e3
                    go_wp2_with fail
                    refine (CT2.out w4 (MD.out.holds 1)).mono ?_
                    rintro e w5 ⟨rfl, g5⟩
                    have ME := MD.out.below g5
                    have ME' : Hid (Few w [(fn, LI.LinesF fn B M p (z :: l2)), (foot C v3, fun u => RH.Refs u C M v3 (z :: l2))] w5) := Few.less (l := [_, _]) (Few.less (l := [_, _, _]) ME)
                    obtain ⟨_, e1, e2, e3⟩ := OpAt.cells (ME.holds 2)
                    simp only at e1 e2 e3
                    clear MD g5 CT2 ME
                    have q1 : ¬ xa ≤ oa := by omega
                    go_wp2
                    go_meet
                    exact ⟨z :: l2, p, fn, v3, by omega, by omega, ME'.out⟩
        case rest =>
          as_aux_lemma =>
          clear MA d0 d1 d2 d3 hp0 hpk
          obtain ⟨l2, p2, f2, v4, hp0, hpk, M2⟩ := hcut
          have HM : Hid (Few w [(f2, LI.LinesF f2 B M p2 l2), (foot C v4, fun u => RH.Refs u C M v4 l2)] wc) := M2
          clear M2
          cases l2 with
          | nil =>
            go_wp2_with fail
            refine (LI.l_next_none wc (HM.out.holds 0)).mono ?_
            rintro e w3 ⟨rfl, g3⟩
            have M3 : Hid (Few w [(f2, LI.LinesF f2 B M p2 []), (foot C v4, fun u => RH.Refs u C M v4 [])] w3) := HM.out.below g3
            clear HM g3
            go_wp2_with fail
            refine (RH.top_none w3 (M3.out.holds 1)).mono ?_
            rintro e w4 ⟨rfl, g4⟩
            have M4 : Hid (Few w [(f2, LI.LinesF f2 B M p2 []), (foot C v4, fun u => RH.Refs u C M v4 [])] w4) := M3.out.below g4
            clear M3 g4
            go_wp2_with fail
            refine (RH.key_none 0 w4 (M4.out.holds 1) (by simp)).mono ?_
            rintro e w5 ⟨rfl, g5⟩
            have M5 : Hid (Few w [(f2, LI.LinesF f2 B M p2 []), (foot C v4, fun u => RH.Refs u C M v4 [])] w5) := M4.out.below g5
            clear M4 g5
            have c1 : w5.cell? ⟨C, 1, none⟩ = some v4 := RH.Refs.c1 (M5.out.holds 1)
            obtain ⟨a4, cap4, hv4⟩ : ∃ a cap, v4 = .slice a ([] : List (Ent Int)).length cap := RH.Refs.slice (M5.out.holds 1)
            subst hv4
            simp only [List.length_nil] at c1
            have CL : Hid (∀ u, LI.LinesF f2 B M p2 [] u → Calls Try.prog 34 #[.pointer (some ⟨B, 0, none⟩)] u fun e w' => e = .returned (.int .i64 (0 : Nat)) ∧ w' = u) := fun u h => LI.l_len u h
            go_wp2
            go_big_quiet (first | (go_at_call 34; refine Calls.quiet_of_same (CL.out _ ((M5.out.below (below_drewN _ _)).holds 0))))
            go_wp2
            go_roundg (59 - k)
            case measure => omega
            case rel => exact ⟨k + 1, [], p2, f2, _, by omega, by omega, by go_num, hp0, by omega, M5.out.below (below_drewN _ _)⟩
          | cons z l =>
            have HIT : Hid (Items (z :: l) p2) := LI.LinesF.items (HM.out.holds 0)
            obtain ⟨hle, -, -⟩ := LI.LinesF.few (HM.out.holds 0)
            obtain ⟨x, hx⟩ : ∃ x, IsFirst (z :: l) x := RH.has_first (HM.out.holds 1) HIT.out (by simp)
            obtain ⟨xv, hxv⟩ : ∃ z, x.v = z := ⟨_, rfl⟩
            obtain ⟨xa, hxa2⟩ : ∃ z, x.a = z := ⟨_, rfl⟩
            obtain ⟨xb, hxb2⟩ : ∃ z, x.b = z := ⟨_, rfl⟩
            have CT0 : Hid (∀ u, LI.LinesF f2 B M p2 (z :: l) u → Calls Try.prog 33 #[.pointer (some ⟨B, 0, none⟩)] u fun e w' => e = .returned (.tuple #[.int .i64 xa, .bool true]) ∧ Below u.heap.size u w') := fun u h => (LI.l_next u h (by simp)).mono fun e w' ⟨y, hy, he, g⟩ => by
              have := IsFirst.uniq HIT.out hx hy
              subst this
              exact ⟨by rw [he, hxa2], g⟩
            have CT1 : Hid (∀ u, RH.Refs u C M v4 (z :: l) → Calls Try.prog 20 #[.pointer (some ⟨C, 0, none⟩)] u fun e w' => e = .returned (.tuple #[.int .i64 xv, .bool true]) ∧ Below u.heap.size u w') := fun u h => hxv ▸ RH.top_this u h HIT.out hx
            have CT2 : Hid (∀ u, RH.Refs u C M v4 (z :: l) → Calls Try.prog 18 #[.pointer (some ⟨C, 0, none⟩), .int .i64 xv] u fun e w' => e = .returned (.tuple #[.int .i64 xa, .int .i64 xb, .bool true]) ∧ Below u.heap.size u w') := fun u h => hxv ▸ hxa2 ▸ hxb2 ▸ RH.key_some x u h HIT.out hx.1
            clear hx hxv hxa2 hxb2
            go_wp2_with fail
            refine (CT0.out wc (HM.out.holds 0)).mono ?_
            rintro e w3 ⟨rfl, g3⟩
            have M3 : Hid (Few w [(f2, LI.LinesF f2 B M p2 (z :: l)), (foot C v4, fun u => RH.Refs u C M v4 (z :: l))] w3) := HM.out.below g3
            clear HM g3 CT0
            go_wp2_with fail
            refine (CT1.out w3 (M3.out.holds 1)).mono ?_
            rintro e w4 ⟨rfl, g4⟩
            have M4 : Hid (Few w [(f2, LI.LinesF f2 B M p2 (z :: l)), (foot C v4, fun u => RH.Refs u C M v4 (z :: l))] w4) := M3.out.below g4
            clear M3 g4 CT1
            go_wp2_with fail
            refine (CT2.out w4 (M4.out.holds 1)).mono ?_
            rintro e w5 ⟨rfl, g5⟩
            have M5 : Hid (Few w [(f2, LI.LinesF f2 B M p2 (z :: l)), (foot C v4, fun u => RH.Refs u C M v4 (z :: l))] w5) := M4.out.below g5
            clear M4 g5 CT2
            obtain ⟨n, hn⟩ : ∃ n, (z :: l).length = n := ⟨_, rfl⟩
            have c1 : w5.cell? ⟨C, 1, none⟩ = some v4 := RH.Refs.c1 (M5.out.holds 1)
            obtain ⟨a4, cap4, hv4⟩ : ∃ a cap, v4 = .slice a (z :: l).length cap := RH.Refs.slice (M5.out.holds 1)
            subst hv4
            have CL : Hid (∀ u, LI.LinesF f2 B M p2 (z :: l) u → Calls Try.prog 34 #[.pointer (some ⟨B, 0, none⟩)] u fun e w' => e = .returned (.int .i64 n) ∧ w' = u) := fun u h => hn ▸ LI.l_len u h
            rw [hn] at c1 hle
            have HNN : Hid ((z :: l).length = n) := hn
            clear hn
            have q1 : (xa != xa) = false := by simp
            have q2 : decide (xa = xa) = true := by simp
            go_wp2
            go_big_quiet (first | (go_at_call 34; refine Calls.quiet_of_same (CL.out _ ((M5.out.below (below_drewN _ _)).holds 0))))
            go_wp2
            go_roundg (59 - k)
            case measure => omega
            case rel => exact ⟨k + 1, z :: l, p2, f2, _, by omega, by omega, by go_num, hp0, by omega, M5.out.below (below_drewN _ _)⟩
      · go_wp2
        go_ret
        exact ⟨rfl, HM.out.bel⟩
    · go_wp2
      go_ret
      exact ⟨rfl, HM.out.bel⟩

set_option maxRecDepth 100000 in
theorem lifted (os : Os) (started : os.Started) (H : Type) (enc : TypeId × Value → H) :
    ReturnsInHanded {} Try.checked os 5 .any (Rows.lineAllSpec.pre6 enc Try.prog Try.f5 Rows.lineAllRow.domain false) (Rows.lineAllSpec.post enc Try.prog Try.f5 false true false false) := by
  refine returnsInHanded_of_change (C := Try.checked) own started (by kernel_rfl) Try.func5
    (ChangeSpec.witness6 (enc := enc) (C := Try.checked) false ⟨#[], #[.int .i64 0, .slice none 0 0], []⟩ 8 (by kernel_rfl) (by kernel_rfl) (by kernel_rfl) (by kernel_rfl)) ?_
  intro W base args ds gs before hval0 hW hcnd _
  have hval : ∀ (j : Nat) t v, Try.f5.params[j]? = some t → args[j]? = some v → Value.okWide Try.prog W .any base t v := hval0
  have hW' := hW
  obtain ⟨p, q, hA0, hV, rfl, hfz, hnd⟩ := hW
  have hA : DataW.TrodAll enc Try.prog W 0 (fun _ => true) true Try.f5.params.toList args.toList ds p := hA0
  rw [Try.params5] at hA hval
  obtain ⟨v0, vs0, d0, ds0, p0, q0, hargs, rfl, rfl, h0, r0⟩ := trodAll_cons hA
  obtain ⟨v1, vs1, d1, ds1, p1, q1, rfl, rfl, rfl, h1, r1⟩ := trodAll_cons r0
  obtain ⟨rfl, rfl, rfl⟩ := trodAll_nil r1
  obtain rfl : args = #[v0, v1] := by cases args; simp_all
  obtain ⟨rfl, rfl⟩ := trodVars_none hV
  obtain ⟨a0, rfl, rfl, rfl, w0⟩ := open_int Try.underlying3 (hval 0 3 v0 rfl rfl) h0
  obtain ⟨a1, len1, cap1, rfl⟩ := okWide_slice Try.underlying22 (hval 1 22 v1 rfl rfl)
  have k1 := h1
  have lt1 : ∀ x ∈ p1, x.block < W.heap.size := by obtain ⟨m, hm⟩ := k1; exact DataW.trod_lt m _ _ _ hm
  obtain ⟨z1, w1⟩ := (by obtain ⟨fuel, hf⟩ := h1; exact open_ops hf : ∃ zs, IsOps W a1 len1 zs)
  clear hA0 hval0
  refine (walk a0 a1 len1 cap1 z1 W w0 w1).mono fun e W' ⟨he, bel⟩ => ?_
  subst he
  exact ⟨_, rfl, _, _, _, [], _, [], hW', trodAll_mk1 (shut_bool Try.underlying4 _), (trodAll_cons_mk (shut_int Try.underlying3 w0) (trodAll_cons_mk (Below.trod laidOut (by kernel_rfl) (of_decide_eq_true (by kernel_rfl)) k1 bel lt1) trodAll_mk0)), rfl, bel.frame _, fun h => by cases h⟩

theorem over : Rows.lineAllRow.holds Try.pinned (OpenSpec.ofChange Rows.lineAllSpec) :=
  OpenClaim.holds_of_wide 5 Try.f5 rfl rfl rfl rfl rfl rfl rfl ⟨rfl, rfl, rfl, rfl, rfl⟩ rfl rfl rfl rfl rfl (by kernel_rfl) Try.func5 (by kernel_rfl)
    (of_decide_eq_true (by kernel_rfl)) (by unfold Func.isWrapper; first | (rw [if_pos (by decide +kernel)]; kernel_rfl) | (rw [if_neg (by decide +kernel)]; exact ⟨rfl, rfl⟩))
    (fun os started H enc _ => lifted os started H enc)

theorem proved : Rows.LineAllSaid := over
end Go.Proofs.Ytbfbijfedamgaaa.lineAll
