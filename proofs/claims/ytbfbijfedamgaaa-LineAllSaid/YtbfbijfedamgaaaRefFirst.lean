/- The contract of the document's own heap: its first, First, Key. -/
import Derived.Test.YtbfbijfedamgaaaRefHeap
import Derived.BigQuiet
namespace Go.Proofs.Ytbfbijfedamgaaa.RH
open Go.RowKit
variable {w w' : World} {b : Nat} {room puts : Int} {v : Value} {l : List (Ent Int)}
theorem later {i f : Nat} {x y : Ent Int} (it : Items l puts) (hf : l[f]? = some x) (hi : l[i]? = some y) (h : f < i) : x.t < y.t := by
  obtain ⟨h1, rfl⟩ := List.getElem?_eq_some_iff.1 hf
  obtain ⟨h2, rfl⟩ := List.getElem?_eq_some_iff.1 hi
  exact List.pairwise_iff_getElem.1 it.inc f i h1 h2 h
/-- The first among the first i. -/
def Best (l : List (Ent Int)) (i : Nat) (s : Value) : Prop := (i = 0 ∧ s = .int .i64 (-1)) ∨ ∃ (f : Nat) (x : Ent Int), f < i ∧ s = .int .i64 f ∧ l[f]? = some x ∧ ∀ (j : Nat) (y : Ent Int), j < i → l[j]? = some y → Le x y
theorem Best.new {i : Nat} {x y : Ent Int} (hy : l[i]? = some y) (hb : ∀ (j : Nat) (z : Ent Int), j < i → l[j]? = some z → Le x z) (lt : y.a < x.a ∨ (y.a = x.a ∧ y.b < x.b)) : Best l (i + 1) (.int .i64 i) := by
  refine .inr ⟨i, y, by omega, rfl, hy, fun j z hj hz => ?_⟩
  by_cases e : j = i
  · subst e; rw [hy] at hz; cases hz; exact Le.refl _
  · have h1 := hb j z (by omega) hz
    have h2 : Le y x := by unfold Le Lt; omega
    exact h2.trans h1
theorem Best.old {i f : Nat} {x y : Ent Int} (it : Items l puts) (hy : l[i]? = some y) (hb : ∀ (j : Nat) (z : Ent Int), j < i → l[j]? = some z → Le x z) (hx : l[f]? = some x) (hf : f < i) (nlt : ¬ (y.a < x.a ∨ (y.a = x.a ∧ y.b < x.b))) : Best l (i + 1) (.int .i64 f) := by
  have ht := later it hx hy hf
  refine .inr ⟨f, x, by omega, rfl, hx, fun j z hj hz => ?_⟩
  by_cases e : j = i
  · subst e; rw [hy] at hz; cases hz; unfold Le Lt; omega
  · exact hb j z (by omega) hz
theorem Best.one {y : Ent Int} (hy : l[0]? = some y) : Best l 1 (.int .i64 (0 : Nat)) := by
  refine .inr ⟨0, y, by omega, rfl, hy, fun j z hj hz => ?_⟩
  obtain rfl : j = 0 := by omega
  rw [hy] at hz; cases hz; exact Le.refl _

set_option maxHeartbeats 4000000 in
set_option maxRecDepth 100000 in
theorem first_best (w : World) (h : Refs w b room v l) (it : Items l puts) :
    Calls Try.prog 59 #[.pointer (some ⟨b, 0, none⟩)] w fun e w' => ∃ s, e = .returned s ∧ Best l l.length s ∧ Below w.heap.size w w' := by
  have hf := h.few
  obtain ⟨a, cap, rfl⟩ := h.slice
  have H0 : Hid (Refs w b room (.slice a l.length cap) l) := h
  have HI : Hid (Items l puts) := it
  clear h it
  go_enter Try.func59, Try.ntmps59
  go_wp2
  go_loopg [3, 4] l.length (fun gk s3 s4 wr => ∃ k : Nat, gk + k = l.length ∧ s4 = .int .i64 k ∧ Best l k s3 ∧ Below w.heap.size w wr)
  case atStart => exact ⟨0, by omega, rfl, .inl ⟨rfl, rfl⟩, Below.refl _ _⟩
  case round =>
    obtain ⟨k, hk, rfl, hb, g⟩ := hrel
    have HG : Hid (Below w.heap.size w wr) := g
    have HR : Hid (Refs wr b room (.slice a l.length cap) l) := H0.out.below g
    have c1 := HR.out.c1
    clear g
    by_cases hkl : k < l.length
    · have hkl' : (k : Int) < (l.length : Int) := by omega
      obtain ⟨y, hy⟩ : ∃ y, l[k]? = some y := ⟨_, List.getElem?_eq_getElem hkl⟩
      have HY : Hid (l[k]? = some y) := hy
      rcases hb with ⟨rfl, rfl⟩ | ⟨f, x, hfk, rfl, hx, hbe⟩
      · have HN : Hid (Best l 1 (.int .i64 (0 : Nat))) := Best.one hy
        clear hy
        go_wp2
        go_big_quiet (fail)
        go_wp2
        go_roundg (gk - 1)
        case measure => omega
        case rel => exact ⟨1, by omega, rfl, HN.out, HG.out.trans ((below_drewN _ _).mono HG.out.size)⟩
      · obtain ⟨g, cap', hv, h1, h2, _, d1, d2⟩ := HR.out.at hy
        simp only [Value.slice.injEq] at hv
        obtain ⟨rfl, _, rfl⟩ := hv
        obtain ⟨g', cap', hv, _, _, _, e1, e2⟩ := HR.out.at hx
        simp only [Value.slice.injEq, Option.some.injEq, Addr.mk.injEq, and_true] at hv
        obtain ⟨rfl, _, rfl⟩ := hv
        unfold maxLen at h2
        have hfl : (f : Int) < (l.length : Int) := by omega
        have HN : Hid ((y.a < x.a ∨ (y.a = x.a ∧ y.b < x.b)) → Best l (k + 1) (.int .i64 k)) := fun h => Best.new hy hbe h
        have HO : Hid (¬ (y.a < x.a ∨ (y.a = x.a ∧ y.b < x.b)) → Best l (k + 1) (.int .i64 f)) := fun h => Best.old HI.out hy hbe hx hfk h
        clear hy hx hbe
        obtain ⟨ya, hya⟩ : ∃ z, y.a = z := ⟨_, rfl⟩
        obtain ⟨yb, hyb⟩ : ∃ z, y.b = z := ⟨_, rfl⟩
        obtain ⟨xa, hxa⟩ : ∃ z, x.a = z := ⟨_, rfl⟩
        obtain ⟨xb, hxb⟩ : ∃ z, x.b = z := ⟨_, rfl⟩
        rw [hya] at d1
        rw [hyb] at d2
        rw [hxa] at e1
        rw [hxb] at e2
        rw [hya, hyb, hxa, hxb] at HN HO
        clear hya hyb hxa hxb
        have q0 : decide ((f : Int) < 0) = false := by simp
        rcases (by omega : ya < xa ∨ (ya = xa ∧ yb < xb) ∨ (ya = xa ∧ ¬ yb < xb) ∨ (¬ ya < xa ∧ ¬ ya = xa)) with t1 | ⟨rfl, t1⟩ | ⟨rfl, t1⟩ | ⟨t1, t2⟩
        · have q1 : decide (ya < xa) = true := decide_eq_true t1
          go_wp2
          go_big_quiet (fail)
          go_wp2
          go_roundg (gk - 1)
          case measure => omega
          case rel => exact ⟨k + 1, by omega, by go_num, HN.out (.inl t1), HG.out.trans ((below_drewN _ _).mono HG.out.size)⟩
        · have q1 : decide (ya < ya) = false := by simp
          have q2 : decide (yb < xb) = true := decide_eq_true t1
          go_wp2
          go_big_quiet (fail)
          go_wp2
          go_roundg (gk - 1)
          case measure => omega
          case rel => exact ⟨k + 1, by omega, by go_num, HN.out (by first | omega | exact .inr ⟨trivial, t1⟩), HG.out.trans ((below_drewN _ _).mono HG.out.size)⟩
        · have q1 : decide (ya < ya) = false := by simp
          have q2 : decide (yb < xb) = false := decide_eq_false t1
          go_wp2
          go_big_quiet (fail)
          go_wp2
          go_roundg (gk - 1)
          case measure => omega
          case rel => exact ⟨k + 1, by omega, by go_num, HO.out (by omega), HG.out.trans ((below_drewN _ _).mono HG.out.size)⟩
        · have q1 : decide (ya < xa) = false := decide_eq_false t1
          have q2 : (ya == xa) = false := by simp; omega
          have q3 : decide (ya = xa) = false := decide_eq_false t2
          go_wp2
          go_big_quiet (fail)
          go_wp2
          go_roundg (gk - 1)
          case measure => omega
          case rel => exact ⟨k + 1, by omega, by go_num, HO.out (by omega), HG.out.trans ((below_drewN _ _).mono HG.out.size)⟩
    · obtain rfl : k = l.length := by omega
      have HB : Hid (Best l l.length u3) := hb
      clear hb
      go_wp2
      go_ret
      exact ⟨u3, rfl, HB.out, HG.out⟩
/-- What First answers: of an empty list nothing; else the first one, and where it is. -/
theorem best_none {s : Value} (h : Best ([] : List (Ent Int)) 0 s) : s = .int .i64 (-1) := by
  rcases h with ⟨_, h⟩ | ⟨f, x, h, _⟩
  · exact h
  · omega
theorem best_some {s : Value} (hl : l ≠ []) (h : Best l l.length s) : ∃ (f : Nat) (x : Ent Int), s = .int .i64 f ∧ l[f]? = some x ∧ IsFirst l x := by
  have := List.length_pos_iff.2 hl
  rcases h with ⟨h, _⟩ | ⟨f, x, _, hs, hx, hb⟩
  · omega
  · refine ⟨f, x, hs, hx, List.mem_of_getElem? hx, fun y hy => ?_⟩
    obtain ⟨j, hj⟩ := List.getElem?_of_mem hy
    exact hb j y (List.getElem?_eq_some_iff.1 hj).1 hj
theorem first_at (w : World) (h : Refs w b room v l) (it : Items l puts) (hl : l ≠ []) :
    Calls Try.prog 59 #[.pointer (some ⟨b, 0, none⟩)] w fun e w' => ∃ (f : Nat) (x : Ent Int), e = .returned (.int .i64 f) ∧ l[f]? = some x ∧ IsFirst l x ∧ Below w.heap.size w w' :=
  (first_best w h it).mono fun e w' ⟨s, he, hb, g⟩ => by
    obtain ⟨f, x, rfl, h1, h2⟩ := best_some hl hb
    exact ⟨f, x, he, h1, h2, g⟩
theorem first_no (w : World) (h : Refs w b room v []) :
    Calls Try.prog 59 #[.pointer (some ⟨b, 0, none⟩)] w fun e w' => e = .returned (.int .i64 (-1)) ∧ Below w.heap.size w w' :=
  (first_best w h (Items.nil 0)).mono fun e w' ⟨s, he, hb, g⟩ => by
    rw [best_none hb] at he
    exact ⟨he, g⟩
set_option maxHeartbeats 1000000 in
theorem top_none (w : World) (h : Refs w b room v []) :
    Calls Try.prog 20 #[.pointer (some ⟨b, 0, none⟩)] w fun e w' => e = .returned (.tuple #[.int .i64 0, .bool false]) ∧ Below w.heap.size w w' := by
  have ct := first_no w h
  go_enter Try.func20, Try.ntmps20
  go_wp2_with (go_at_call 59; refine ct.mono ?_; rintro e w1 ⟨rfl, g1⟩)
  go_ret2
  exact ⟨rfl, g1⟩
set_option maxHeartbeats 1000000 in
theorem top_some (w : World) (h : Refs w b room v l) (it : Items l puts) (hl : l ≠ []) :
    Calls Try.prog 20 #[.pointer (some ⟨b, 0, none⟩)] w fun e w' => ∃ x, IsFirst l x ∧ e = .returned (.tuple #[.int .i64 x.v, .bool true]) ∧ Below w.heap.size w w' := by
  have ct := first_at w h it hl
  have hf := h.few
  have H0 : Hid (Refs w b room v l) := h
  clear h it hl
  go_enter Try.func20, Try.ntmps20
  go_wp2_with fail
  refine ct.mono ?_
  rintro e w1 ⟨f, x, rfl, hx, hfi, g1⟩
  have r1 := H0.out.below g1
  have c1 := r1.c1
  obtain ⟨g, cap, rfl, h1, h2, d0, _, _⟩ := r1.at hx
  have hfl := (List.getElem?_eq_some_iff.1 hx).1
  have hfl' : (f : Int) < (l.length : Int) := by omega
  have HF : Hid (IsFirst l x) := hfi
  unfold maxLen at h2
  clear r1 hx hfi
  go_wp2
  go_ret2
  exact ⟨x, HF.out, rfl, g1⟩
set_option maxHeartbeats 1000000 in
theorem key_none (x : Int) (w : World) (h : Refs w b room v l) (hno : ∀ y ∈ l, y.v ≠ x) :
    Calls Try.prog 18 #[.pointer (some ⟨b, 0, none⟩), .int .i64 x] w fun e w' => e = .returned (.tuple #[.int .i64 0, .int .i64 0, .bool false]) ∧ Below w.heap.size w w' := by
  have ct := at_no x w h hno
  go_enter Try.func18, Try.ntmps18
  go_wp2_with (go_at_call 56; refine ct.mono ?_; rintro e w1 ⟨rfl, g1⟩)
  go_ret3
  exact ⟨rfl, g1⟩
set_option maxHeartbeats 1000000 in
theorem key_some (x : Ent Int) (w : World) (h : Refs w b room v l) (it : Items l puts) (hin : x ∈ l) :
    Calls Try.prog 18 #[.pointer (some ⟨b, 0, none⟩), .int .i64 x.v] w fun e w' => e = .returned (.tuple #[.int .i64 x.a, .int .i64 x.b, .bool true]) ∧ Below w.heap.size w w' := by
  have ct := at_yes x w h it hin
  have hf := h.few
  have H0 : Hid (Refs w b room v l) := h
  clear h it hin
  go_enter Try.func18, Try.ntmps18
  go_wp2_with fail
  refine ct.mono ?_
  rintro e w1 ⟨f, rfl, hx, g1⟩
  have r1 := H0.out.below g1
  have c1 := r1.c1
  obtain ⟨g, cap, rfl, h1, h2, _, d1, d2⟩ := r1.at hx
  have hfl := (List.getElem?_eq_some_iff.1 hx).1
  have hfl' : (f : Int) < (l.length : Int) := by omega
  unfold maxLen at h2
  clear r1 hx
  go_wp2
  go_big_quiet (fail)
  go_wp2
  go_ret3
  exact ⟨rfl, g1.trans ((below_drewN _ _).mono g1.size)⟩
/-- From nought to a thousand. -/
def roomV (n : Int) : Int := max 0 (min n 1000)
set_option maxHeartbeats 1000000 in
theorem new_any (n : Int) (w : World) (h1 : -9223372036854775808 ≤ n) (h2 : n ≤ 9223372036854775807) :
    Calls Try.prog 10 #[.int .i64 n] w fun e w' => e = .returned (.pointer (some ⟨w.heap.size, 0, none⟩)) ∧ Refs w' w.heap.size (roomV n) (.slice none 0 0) [] ∧ Below w.heap.size w w' := by
  have fin : ∀ r : Int, r = roomV n → Refs (w.alloc (.cells #[.int .i64 r, .slice none 0 0] 39)) w.heap.size (roomV n) (.slice none 0 0) [] := by
    intro r hr
    subst hr
    exact ⟨heap_alloc_new _ _, World.ownsRow_nil _ _ _ _, by simp⟩
  rcases (by omega : n ≤ 0 ∨ (0 < n ∧ n ≤ 1000) ∨ 1000 < n) with h | h | h
  · have K : Hid (0 = roomV n) := by show _ = _; unfold roomV; omega
    go_enter Try.func10, Try.ntmps10
    go_wp2
    go_ret
    exact ⟨rfl, fin _ K.out, (Below.refl _ _).alloc (Nat.le_refl _) _⟩
  · have K : Hid (n = roomV n) := by show _ = _; unfold roomV; omega
    go_enter Try.func10, Try.ntmps10
    go_wp2
    go_ret
    exact ⟨rfl, fin _ K.out, (Below.refl _ _).alloc (Nat.le_refl _) _⟩
  · have K : Hid (1000 = roomV n) := by show _ = _; unfold roomV; omega
    go_enter Try.func10, Try.ntmps10
    go_wp2
    go_ret
    exact ⟨rfl, fin _ K.out, (Below.refl _ _).alloc (Nat.le_refl _) _⟩
end Go.Proofs.Ytbfbijfedamgaaa.RH
