/- The contracts of the document's own heap: Put, Take, Drop. -/
import Derived.Test.YtbfbijfedamgaaaRefOut
import Derived.OwnWalk
import Derived.Test.YtbfbijfedamgaaaEnts
namespace Go.Proofs.Ytbfbijfedamgaaa.RH
open Go.RowKit
variable {w w' : World} {b : Nat} {room puts : Int} {v : Value} {l : List (Ent Int)}
theorem erase_less' {l : List (Ent Int)} (h : l.Pairwise (fun x y => x.v ≠ y.v)) {i : Nat} {x : Ent Int} (hx : l[i]? = some x) : l.eraseIdx i = less l x.v := by
  induction l generalizing i with
  | nil => simp at hx
  | cons e l ih =>
    rw [List.pairwise_cons] at h
    cases i with
    | zero =>
      simp at hx
      subst hx
      have := less_none (l := l) (v := e.v) (fun y hy => Ne.symm (h.1 y hy))
      unfold less at this ⊢
      rw [List.eraseIdx_cons_zero, List.filter_cons_of_neg (by simp)]
      exact this.symm
    | succ i =>
      simp at hx
      have hm := List.mem_of_getElem? hx
      have h1 := h.1 x hm
      have := ih h.2 hx
      unfold less at this ⊢
      simp [this, h1]
theorem erase_less (it : Items l puts) {i : Nat} {x : Ent Int} (hx : l[i]? = some x) : l.eraseIdx i = less l x.v := erase_less' it.dis hx
theorem out_less (i : Nat) {x : Ent Int} (w : World) (h : Refs w b room v l) (it : Items l puts) (hx : l[i]? = some x) :
    Calls Try.prog 57 #[.pointer (some ⟨b, 0, none⟩), .int .i64 i] w fun e w' => ∃ v', e = .returned (.tuple #[]) ∧ Refs w' b room v' (less l x.v) ∧ Only (foot b v) w w' ∧ ∀ k ∈ foot b v', k ∈ foot b v ∨ w.heap.size ≤ k := by
  have := out_any i w h (List.getElem?_eq_some_iff.1 hx).1
  rw [erase_less it hx] at this
  exact this
set_option maxHeartbeats 1000000 in
theorem drop_none (x : Int) (w : World) (h : Refs w b room v l) (hno : ∀ y ∈ l, y.v ≠ x) :
    Calls Try.prog 16 #[.pointer (some ⟨b, 0, none⟩), .int .i64 x] w fun e w' => e = .returned (.bool false) ∧ Below w.heap.size w w' := by
  have ct := at_no x w h hno
  go_enter Try.func16, Try.ntmps16
  go_wp2_with (go_at_call 56; refine ct.mono ?_; rintro e w1 ⟨rfl, g1⟩)
  go_ret
  exact ⟨rfl, g1⟩
set_option maxHeartbeats 1000000 in
theorem drop_some (x : Ent Int) (w : World) (h : Refs w b room v l) (it : Items l puts) (hin : x ∈ l) :
    Calls Try.prog 16 #[.pointer (some ⟨b, 0, none⟩), .int .i64 x.v] w fun e w' => ∃ v', e = .returned (.bool true) ∧ Refs w' b room v' (less l x.v) ∧ Only (foot b v) w w' ∧ ∀ k ∈ foot b v', k ∈ foot b v ∨ w.heap.size ≤ k := by
  have ct := at_yes x w h it hin
  have H0 : Hid (Refs w b room v l) := h
  have HI : Hid (Items l puts) := it
  clear h it hin
  go_enter Try.func16, Try.ntmps16
  go_wp2_with fail
  refine ct.mono ?_
  rintro e w1 ⟨i, rfl, hx, g1⟩
  clear ct
  go_wp2_with fail
  refine (out_less i w1 (H0.out.below g1) HI.out hx).mono ?_
  rintro e w2 ⟨v2, rfl, r2, o2, f2⟩
  go_wp2
  go_ret
  exact ⟨v2, rfl, r2, (Below.only g1 _).trans o2 (fun k hk => .inl hk), fun k hk => (f2 k hk).imp id (fun h => Nat.le_trans g1.size h)⟩
set_option maxHeartbeats 1000000 in
theorem take_none (w : World) (h : Refs w b room v []) :
    Calls Try.prog 14 #[.pointer (some ⟨b, 0, none⟩)] w fun e w' => e = .returned (.tuple #[.int .i64 0, .bool false]) ∧ Below w.heap.size w w' := by
  have ct := first_no w h
  go_enter Try.func14, Try.ntmps14
  go_wp2_with (go_at_call 59; refine ct.mono ?_; rintro e w1 ⟨rfl, g1⟩)
  go_ret2
  exact ⟨rfl, g1⟩
set_option maxHeartbeats 1000000 in
theorem take_some (w : World) (h : Refs w b room v l) (it : Items l puts) (hl : l ≠ []) :
    Calls Try.prog 14 #[.pointer (some ⟨b, 0, none⟩)] w fun e w' => ∃ x v', IsFirst l x ∧ e = .returned (.tuple #[.int .i64 x.v, .bool true]) ∧ Refs w' b room v' (less l x.v) ∧ Only (foot b v) w w' ∧ ∀ k ∈ foot b v', k ∈ foot b v ∨ w.heap.size ≤ k := by
  have ct := first_at w h it hl
  have hf := h.few
  have H0 : Hid (Refs w b room v l) := h
  have HI : Hid (Items l puts) := it
  clear h it hl
  go_enter Try.func14, Try.ntmps14
  go_wp2_with fail
  refine ct.mono ?_
  rintro e w1 ⟨f, x, rfl, hx, hfi, g1⟩
  have r1 := H0.out.below g1
  have R1 : Hid (Refs w1 b room v l) := r1
  have c1 := r1.c1
  have HX : Hid (l[f]? = some x) := hx
  obtain ⟨g, cap, rfl, h1, h2, d0, _, _⟩ := r1.at hx
  have hfl := (List.getElem?_eq_some_iff.1 hx).1
  have hfl' : (f : Int) < (l.length : Int) := by omega
  have HF : Hid (IsFirst l x) := hfi
  unfold maxLen at h2
  clear r1 hx hfi ct
  go_wp2_with fail
  refine (out_less f w1 R1.out HI.out HX.out).mono ?_
  rintro e w2 ⟨v2, rfl, r2, o2, f2⟩
  go_wp2
  go_ret2
  exact ⟨x, v2, HF.out, rfl, r2, (Below.only g1 _).trans o2 (fun k hk => .inl hk), fun k hk => (f2 k hk).imp id (fun h => Nat.le_trans g1.size h)⟩
set_option maxHeartbeats 1000000 in
theorem put_full (x a c : Int) (w : World) (h : Refs w b room v l) (hno : ∀ y ∈ l, y.v ≠ x) (hfull : room ≤ l.length) :
    Calls Try.prog 12 #[.pointer (some ⟨b, 0, none⟩), .int .i64 x, .int .i64 a, .int .i64 c] w fun e w' => e = .returned (.bool false) ∧ Below w.heap.size w w' := by
  have ct := at_no x w h hno
  have hf := h.few
  have H0 : Hid (Refs w b room v l) := h
  clear h hno
  have q1 : decide (room ≤ (l.length : Int)) = true := decide_eq_true hfull
  go_enter Try.func12, Try.ntmps12
  go_wp2_with fail
  refine ct.mono ?_
  rintro e w1 ⟨rfl, g1⟩
  clear ct
  have r1 := H0.out.below g1
  have c1 := r1.c1
  have c0 := r1.c0
  obtain ⟨ad, cap, rfl⟩ := r1.slice
  clear r1
  go_wp2
  go_big_quiet (fail)
  go_wp2
  go_ret
  exact ⟨rfl, g1.trans ((below_drewN _ _).mono g1.size)⟩
theorem cell_three_new (w : World) (x y z : Value) (t : TypeId) : ∀ (j : Nat) (q : Value), [x, y, z][j]? = some q → (w.alloc (.cells #[x, y, z] t)).cell? ((⟨w.heap.size, 0, none⟩ : Addr).add j) = some q := by
  intro j q hj
  match j, hj with
  | 0, hj => simp at hj; subst hj; simp [Addr.add]
  | 1, hj => simp at hj; subst hj; simp [Addr.add]
  | 2, hj => simp at hj; subst hj; simp [Addr.add]
/-- What lies there behind the append of a new thing. -/
theorem ref_grow {W1 w2 : World} {v2 : Value} {o : Obj} (h : Refs W1 b room v l) (x : Ent Int) (hl : l.length < 1000)
    (own2 : w2.ownsRow (b + 1) 92 3 v2 (l.length + 1) (cells3 l ++ [.int .i64 x.v, .int .i64 x.a, .int .i64 x.b])) (grow2 : (W1.alloc o).grownBy w2 v.ownBlock) (at2 : v2.ownBlock = v.ownBlock ∨ v2.ownBlock = some (W1.alloc o).heap.size) :
    (∃ a2 cap2, v2 = .slice a2 (l.length + 1) cap2) ∧ Refs (w2.setCell ⟨b, 1, none⟩ v2) b room v2 (l ++ [x]) ∧ Only (foot b v) W1 (w2.setCell ⟨b, 1, none⟩ v2) ∧ (∀ k ∈ foot b v2, k ∈ foot b v ∨ W1.heap.size ≤ k) ∧ w2.cell? ⟨b, 1, none⟩ = some v ∧ ∀ o, w2.frozen? ⟨b, o, none⟩ = false := by
  have gr := (World.grownBy_alloc W1 o v.ownBlock).trans grow2
  have hb : some b ≠ v.ownBlock := fun e => by have := (h.own.lt b e.symm).1; omega
  have blk := (gr.block b h.lt hb).trans h.blk
  have f : ∀ k ∈ foot b v2, k ∈ foot b v ∨ W1.heap.size ≤ k := by
    intro k hk
    simp only [foot, List.mem_cons, Option.mem_toList] at hk ⊢
    rcases hk with rfl | hk
    · exact .inl (.inl rfl)
    · rcases at2 with e | e
      · exact .inl (.inr (e ▸ hk))
      · rw [e] at hk; simp at hk; exact .inr (by omega)
  refine ⟨row_slice own2, ⟨?_, ?_, by simp; omega⟩, ?_, f, by simp [World.cell?, blk], fun o => by simp [World.frozen?, blk]⟩
  · have := heap_setCell_same w2 b 1 _ _ v2 blk
    simpa using this
  · have := ownsRow_setCell_below own2 (a := ⟨b, 1, none⟩) (show b < b + 1 by omega) v2
    rw [cells3_append]
    simpa [cells3] using this
  · exact ((Only.refl _ W1).grown gr (fun k hk => .inl (by simp [foot, hk]))).setCell (p := ⟨b, 1, none⟩) mem_foot _
set_option maxHeartbeats 2000000 in
theorem put_new (x a c t : Int) (w : World) (h : Refs w b room v l) (hno : ∀ y ∈ l, y.v ≠ x) (hroom : (l.length : Int) < room) (hl : l.length < 1000) :
    Calls Try.prog 12 #[.pointer (some ⟨b, 0, none⟩), .int .i64 x, .int .i64 a, .int .i64 c] w fun e w' => ∃ v', e = .returned (.bool true) ∧ Refs w' b room v' (l ++ [⟨x, a, c, t⟩]) ∧ Only (foot b v) w w' ∧ ∀ k ∈ foot b v', k ∈ foot b v ∨ w.heap.size ≤ k := by
  have ct := at_no x w h hno
  have H0 : Hid (Refs w b room v l) := h
  clear h hno
  have q1 : decide (room ≤ (l.length : Int)) = false := decide_eq_false (by omega)
  obtain ⟨i0, hi0, hz0, hz1, hz2⟩ := info_parts infoItem
  go_enter Try.func12, Try.ntmps12
  go_wp2_with fail
  refine ct.mono ?_
  rintro e w1 ⟨rfl, g1⟩
  clear ct
  have r1 := H0.out.below g1
  have c1 := r1.c1
  have c0 := r1.c0
  obtain ⟨ad, cap, rfl⟩ := r1.slice
  go_wp2
  go_big_quiet (fail)
  generalize hW1 : w1.drewN _ = W1
  have gW : Below w1.heap.size w1 W1 := by rw [← hW1]; exact below_drewN _ _
  replace r1 := r1.below gW
  clear c1 c0 hW1
  have c1 := r1.c1
  have bl := r1.lt
  have own := r1.own
  have R1 : Hid (Refs W1 b room (.slice ad l.length cap) l) := r1
  clear r1
  go_wp2_with (at_builtin; refine wpList_append_own_at _ rfl (.tmp 32) (.tmp 37) 37 rfl (b + 1) 92 i0 (.agg #[.int .i64 0, .int .i64 0, .int .i64 0]) 3 24 Try.underlying37 hi0 hz0 hz1 hz2 rfl (by decide) _ _ _ rfl (own.alloc _) ⟨W1.heap.size, 0, none⟩ 1 1 [.int .i64 x, .int .i64 a, .int .i64 c] rfl rfl (cell_three_new _ _ _ _ _) (by intro u hu; simp at hu; rcases hu with rfl | rfl | rfl <;> rfl) (by unfold maxLen; omega) (by omega) (by simp; omega) ?_; intro v2 w2 own2 grow2 nil2 at2; obtain ⟨⟨a2, cap2, rfl⟩, r2, o2, f2, d1, db⟩ := ref_grow R1.out ⟨x, a, c, t⟩ hl own2 grow2 at2; have R2 : Hid (Refs (w2.setCell ⟨b, 1, none⟩ (.slice a2 (l.length + 1) cap2)) b room (.slice a2 (l.length + 1) cap2) (l ++ [⟨x, a, c, t⟩])) := r2; clear own own2 grow2 nil2 at2 c1 r2)
  go_ret
  have ow : Only (foot b (.slice ad l.length cap)) w W1 := (Below.only g1 _).trans (Below.only gW []) (by simp)
  exact ⟨_, rfl, R2.out, ow.trans o2 (fun k hk => .inl hk), fun k hk => (f2 k hk).imp id (fun h => Nat.le_trans ow.size h)⟩
set_option maxHeartbeats 2000000 in
theorem put_there (x : Ent Int) (a c t : Int) (w : World) (h : Refs w b room v l) (it : Items l puts) (hin : x ∈ l) (hll : (less l x.v).length < 1000) :
    Calls Try.prog 12 #[.pointer (some ⟨b, 0, none⟩), .int .i64 x.v, .int .i64 a, .int .i64 c] w fun e w' => ∃ v', e = .returned (.bool true) ∧ Refs w' b room v' (less l x.v ++ [⟨x.v, a, c, t⟩]) ∧ Only (foot b v) w w' ∧ ∀ k ∈ foot b v', k ∈ foot b v ∨ w.heap.size ≤ k := by
  have ct := at_yes x w h it hin
  have H0 : Hid (Refs w b room v l) := h
  have HI : Hid (Items l puts) := it
  clear h hin it
  obtain ⟨xv, hxv⟩ : ∃ z, x.v = z := ⟨_, rfl⟩
  have HV : Hid (x.v = xv) := hxv
  rw [hxv] at ct hll ⊢
  obtain ⟨m, hm⟩ : ∃ m, less l xv = m := ⟨_, rfl⟩
  have HM : Hid (less l xv = m) := hm
  rw [hm] at hll ⊢
  clear hxv hm
  obtain ⟨i0, hi0, hz0, hz1, hz2⟩ := info_parts infoItem
  go_enter Try.func12, Try.ntmps12
  go_wp2_with fail
  refine ct.mono ?_
  rintro e w1 ⟨i, rfl, hx, g1⟩
  clear ct
  have ct := out_less i w1 (H0.out.below g1) HI.out hx
  rw [HV.out, HM.out] at ct
  clear hx
  go_wp2_with fail
  refine ct.mono ?_
  rintro e W1 ⟨v1, rfl, r1, o1, f1⟩
  clear ct
  have c1 := r1.c1
  obtain ⟨ad, cap, rfl⟩ := r1.slice
  have bl := r1.lt
  have own := r1.own
  have R1 : Hid (Refs W1 b room (.slice ad m.length cap) m) := r1
  clear r1
  go_wp2_with (at_builtin; refine wpList_append_own_at _ rfl (.tmp 32) (.tmp 37) 37 rfl (b + 1) 92 i0 (.agg #[.int .i64 0, .int .i64 0, .int .i64 0]) 3 24 Try.underlying37 hi0 hz0 hz1 hz2 rfl (by decide) _ _ _ rfl (own.alloc _) ⟨W1.heap.size, 0, none⟩ 1 1 [.int .i64 xv, .int .i64 a, .int .i64 c] rfl rfl (cell_three_new _ _ _ _ _) (by intro u hu; simp at hu; rcases hu with rfl | rfl | rfl <;> rfl) (by unfold maxLen; omega) (by omega) (by simp; omega) ?_; intro v2 w2 own2 grow2 nil2 at2; obtain ⟨⟨a2, cap2, rfl⟩, r2, o2, f2, d1, db⟩ := ref_grow R1.out ⟨xv, a, c, t⟩ hll own2 grow2 at2; have R2 : Hid (Refs (w2.setCell ⟨b, 1, none⟩ (.slice a2 (m.length + 1) cap2)) b room (.slice a2 (m.length + 1) cap2) (m ++ [⟨xv, a, c, t⟩])) := r2; clear own own2 grow2 nil2 at2 c1 r2)
  go_ret
  have ow : Only (foot b v) w W1 := (Below.only g1 _).trans o1 (fun k hk => .inl hk)
  have f1' : ∀ k ∈ foot b (.slice ad m.length cap), k ∈ foot b v ∨ w.heap.size ≤ k := fun k hk => (f1 k hk).imp id (fun h => Nat.le_trans g1.size h)
  refine ⟨_, rfl, R2.out, ow.trans o2 f1', fun k hk => ?_⟩
  rcases f2 k hk with h | h
  · exact f1' k h
  · exact .inr (Nat.le_trans ow.size h)
theorem few_ref {W w w' : World} {b : Nat} {room : Int} {v v' : Value} {l l' : List (Ent Int)} {fs : List Thing} (m : Few W fs w) (i : Nat) (hi : fs[i]? = some (foot b v, fun u => Refs u b room v l)) (h : Refs w' b room v' l') (o : Only (foot b v) w w') (f : ∀ k ∈ foot b v', k ∈ foot b v ∨ w.heap.size ≤ k) : Few W (fs.set i (foot b v', fun u => Refs u b room v' l')) w' := by
  have e : (fs.getD i nothing).1 = foot b v := by simp [List.getD, hi]
  exact m.turn i (List.getElem?_eq_some_iff.1 hi).1 (by rw [e]; exact o) h h.foot_lt (by rw [e]; exact f) keeps
theorem put_in (x a c t : Int) (w : World) (h : Refs w b room v l) (it : Items l puts) (hin : ∃ y ∈ l, y.v = x) (hll : (less l x).length < 1000) :
    Calls Try.prog 12 #[.pointer (some ⟨b, 0, none⟩), .int .i64 x, .int .i64 a, .int .i64 c] w fun e w' => ∃ v', e = .returned (.bool true) ∧ Refs w' b room v' (less l x ++ [⟨x, a, c, t⟩]) ∧ Only (foot b v) w w' ∧ ∀ k ∈ foot b v', k ∈ foot b v ∨ w.heap.size ≤ k := by
  obtain ⟨y, hy, rfl⟩ := hin
  exact put_there y a c t w h it hy hll
theorem drop_in (x : Int) (w : World) (h : Refs w b room v l) (it : Items l puts) (hin : ∃ y ∈ l, y.v = x) :
    Calls Try.prog 16 #[.pointer (some ⟨b, 0, none⟩), .int .i64 x] w fun e w' => ∃ v', e = .returned (.bool true) ∧ Refs w' b room v' (less l x) ∧ Only (foot b v) w w' ∧ ∀ k ∈ foot b v', k ∈ foot b v ∨ w.heap.size ≤ k := by
  obtain ⟨y, hy, rfl⟩ := hin
  exact drop_some y w h it hy
/-- Both take the same one. -/
theorem take_this {x : Ent Int} (w : World) (h : Refs w b room v l) (it : Items l puts) (hx : IsFirst l x) :
    Calls Try.prog 14 #[.pointer (some ⟨b, 0, none⟩)] w fun e w' => ∃ v', e = .returned (.tuple #[.int .i64 x.v, .bool true]) ∧ Refs w' b room v' (less l x.v) ∧ Only (foot b v) w w' ∧ ∀ k ∈ foot b v', k ∈ foot b v ∨ w.heap.size ≤ k :=
  (take_some w h it (List.ne_nil_of_mem hx.1)).mono fun e w' ⟨y, v', hy, he, r⟩ => by
    have := IsFirst.uniq it hx hy
    subst this
    exact ⟨v', he, r⟩
theorem top_this {x : Ent Int} (w : World) (h : Refs w b room v l) (it : Items l puts) (hx : IsFirst l x) :
    Calls Try.prog 20 #[.pointer (some ⟨b, 0, none⟩)] w fun e w' => e = .returned (.tuple #[.int .i64 x.v, .bool true]) ∧ Below w.heap.size w w' :=
  (top_some w h it (List.ne_nil_of_mem hx.1)).mono fun e w' ⟨y, hy, he, r⟩ => by
    have := IsFirst.uniq it hx hy
    subst this
    exact ⟨he, r⟩
theorem heap_le {w : World} {b : Nat} {room puts : Int} {v : Value} {l : List (Ent Int)} (h : HI.Heaps w b room puts v l) : (l.length : Int) ≤ room ∧ room ≤ 1000 := by
  obtain ⟨es, _, _, _, _, _, h1, h2⟩ := h
  exact ⟨h2, h1⟩
theorem isIn (l : List (Ent Int)) (x : Int) : (∃ y ∈ l, y.v = x) ∨ ∀ y ∈ l, y.v ≠ x := by
  by_cases h : ∃ y ∈ l, y.v = x
  · exact .inl h
  · exact .inr fun y hy e => h ⟨y, hy, e⟩
theorem has_first (_ : Refs w b room v l) (it : Items l puts) (hl : l ≠ []) : ∃ x, IsFirst l x := by
  have key : ∀ n (m : List (Ent Int)), m.length = n → m ≠ [] → ∃ x, IsFirst m x := by
    intro n
    induction n with
    | zero => intro m h1 h2; exact absurd (List.eq_nil_of_length_eq_zero h1) h2
    | succ n ih =>
      intro m h1 h2
      match m, h2 with
      | y :: m, _ =>
        by_cases e : m = []
        · subst e; exact ⟨y, by simp, fun z hz => by simp at hz; subst hz; exact Le.refl _⟩
        · obtain ⟨x, hx1, hx2⟩ := ih m (by simpa using h1) e
          by_cases c : Le x y
          · exact ⟨x, by simp [hx1], fun z hz => by
              simp only [List.mem_cons] at hz
              rcases hz with rfl | hz
              · exact c
              · exact hx2 z hz⟩
          · have c2 : Le y x := by unfold Le Lt at *; omega
            exact ⟨y, by simp, fun z hz => by
              simp only [List.mem_cons] at hz
              rcases hz with rfl | hz
              · exact Le.refl _
              · exact c2.trans (hx2 z hz)⟩
  have := it.low
  exact key _ l rfl hl
end Go.Proofs.Ytbfbijfedamgaaa.RH
