/- The box of int in memory; the contracts of New, Put, Take, Len. -/
import Derived.Test.YtbfbijfedamgaaaSameI
import Derived.Conc.LoneSelect
namespace Go.Proofs.Ytbfbijfedamgaaa.BI
open Go.RowKit Go.Conc

/-- The pointers in the channel. -/
def bufOf (q : List (Nat × Int)) : Array Value := (q.map fun p => Value.pointer (some ⟨p.1, 0, none⟩)).toArray
theorem bufOf_size (q : List (Nat × Int)) : (bufOf q).size = q.length := by simp [bufOf]
theorem bufOf_push (q : List (Nat × Int)) (p : Nat) (x : Int) : (bufOf q).push (.pointer (some ⟨p, 0, none⟩)) = bufOf (q ++ [(p, x)]) := by simp [bufOf]
theorem bufOf_tail (p : Nat × Int) (q : List (Nat × Int)) : (bufOf (p :: q)).extract 1 (bufOf (p :: q)).size = bufOf q := by
  apply Array.toList_inj.1
  simp [bufOf, List.take_of_length_le]
theorem bufOf_head (p : Nat × Int) (q : List (Nat × Int)) : (bufOf (p :: q)).getD 0 undef = .pointer (some ⟨p.1, 0, none⟩) := by simp [bufOf]

/-- The box as it lies in memory: its own block, its channel, the things that the channel points at. -/
structure Boxes (w : World) (b c cap : Nat) (q : List (Nat × Int)) : Prop where
  blk : w.heap[b]? = some (.cells #[.chan (some c)] 124 (0, 0))
  ch : ∃ s r, w.heap[c]? = some (.chan cap (bufOf q) false s r false)
  things : ∀ p ∈ q, w.heap[p.1]? = some (.cells #[mkI p.2] 3 (0, 0))
  few : q.length ≤ cap
  most : cap ≤ 100

theorem Boxes.c0 {w : World} {b c cap : Nat} {q : List (Nat × Int)} (h : Boxes w b c cap q) : w.cell? ⟨b, 0, none⟩ = some (.chan (some c)) := by simp [World.cell?, h.blk]
theorem Boxes.lt {w : World} {b c cap : Nat} {q : List (Nat × Int)} (h : Boxes w b c cap q) : b < w.heap.size := (Array.getElem?_eq_some_iff.1 h.blk).1
theorem Boxes.clt {w : World} {b c cap : Nat} {q : List (Nat × Int)} (h : Boxes w b c cap q) : c < w.heap.size := by obtain ⟨s, r, e⟩ := h.ch; exact (Array.getElem?_eq_some_iff.1 e).1
theorem Boxes.ne {w : World} {b c cap : Nat} {q : List (Nat × Int)} (h : Boxes w b c cap q) : b ≠ c := by
  intro e; subst e; obtain ⟨s, r, e⟩ := h.ch; rw [h.blk] at e; simp at e
theorem Boxes.tne {w : World} {b c cap : Nat} {q : List (Nat × Int)} (h : Boxes w b c cap q) : ∀ p ∈ q, p.1 ≠ c := by
  intro p hp e; obtain ⟨s, r, e'⟩ := h.ch; rw [← e, h.things p hp] at e'; simp at e'
/-- All its blocks. -/
def footB (b c : Nat) (q : List (Nat × Int)) : List Nat := b :: c :: q.map (·.1)
theorem Boxes.only {w w' : World} {b c cap : Nat} {q : List (Nat × Int)} (h : Boxes w b c cap q) {S : List Nat} (g : Only S w w') (hS : ∀ k ∈ footB b c q, k ∉ S) : Boxes w' b c cap q := by
  refine ⟨by rw [g.block b h.lt (hS b (by simp [footB]))]; exact h.blk, ?_, fun p hp => ?_, h.few, h.most⟩
  · obtain ⟨s, r, e⟩ := h.ch
    exact ⟨s, r, by rw [g.block c h.clt (hS c (by simp [footB]))]; exact e⟩
  · have e := h.things p hp
    have l := (Array.getElem?_eq_some_iff.1 e).1
    rw [g.block p.1 l (hS p.1 (by simp only [footB, List.mem_cons, List.mem_map]; exact .inr (.inr ⟨p, hp, rfl⟩)))]
    exact e
theorem Boxes.below {w w' : World} {b c cap : Nat} {q : List (Nat × Int)} (h : Boxes w b c cap q) (g : Below w.heap.size w w') : Boxes w' b c cap q := h.only (Below.only g []) (by simp)
theorem only_setChan (w : World) (c cap : Nat) (buf : Array Value) (cl : Bool) (s r : Nat) (tm : Bool) : Only [c] w (w.setChan c cap buf cl s r tm) :=
  ⟨rfl, rfl, rfl, by simp [World.setChan], fun k hk hs => by simp only [World.setChan]; rw [Array.getElem?_setIfInBounds_ne (by simp at hs; omega)]⟩

set_option maxRecDepth 100000 in
set_option maxHeartbeats 1000000 in
theorem put_room {b c cap : Nat} {q : List (Nat × Int)} (x : Int) (w : World) (h : Boxes w b c cap q) (hroom : q.length < cap) :
    Calls Try.prog 41 #[.pointer (some ⟨b, 0, none⟩), mkI x] w fun e w' => e = .returned (.bool true) ∧ Boxes w' b c cap (q ++ [(w.heap.size, x)]) ∧ Only [c] w w' := by
  have h1 := h.below ((Below.refl _ w).alloc (Nat.le_refl _) (.cells #[.int .i64 x] 3))
  have cl := h.clt
  have bc := h.ne
  obtain ⟨s, r, hc⟩ := h1.ch
  have c0 := h1.c0
  have hnew := heap_alloc_new w (.cells #[.int .i64 x] 3)
  have HN : Hid ((w.alloc (.cells #[.int .i64 x] 3)).heap[w.heap.size]? = some (.cells #[.int .i64 x] 3 (0, 0))) := hnew
  have HC : Hid ((w.alloc (.cells #[.int .i64 x] 3)).heap[c]? = some (.chan cap (bufOf q) false s r false)) := hc
  have H1 : Hid (Boxes (w.alloc (.cells #[.int .i64 x] 3)) b c cap q) := h1
  clear hnew hc h1 h
  unfold mkI
  refine calls_of_loneTo fun cs => ?_
  have e : Frame.enter Try.prog 41 #[.pointer (some ⟨b, 0, none⟩), .int .i64 x] .normal = (base 41).at ⟨#[.pointer (some ⟨b, 0, none⟩), .int .i64 x, undef, undef, undef, undef, undef, undef, undef, undef, undef, undef, undef, undef], []⟩ [.code (Try.f41.body.getD .skip)] := by
    simp [Frame.enter, Frame.at, Try.func41, base, Try.f41]
  rw [e]
  clear e
  refine LoneTo.goes (n := 40) ?_
  simp only [Try.f41, Option.getD_some]
  s_c stepG_seq
  s_reg
  s_op
  s_op
  s_c stepG_region_end
  s_c stepG_seq
  s_c stepG_seq
  s_reg
  s_op
  s_op
  s_c stepG_region_end
  s_cond false
  s_c stepG_skip
  s_c stepG_seq
  s_reg
  s_op
  s_op
  s_op
  s_op
  s_c stepG_region_end
  s_c stepG_seq
  s_reg
  s_stop
  refine LoneTo.step (step_lone_select_send_room (c := c) (cap := cap) (buf := bufOf q) (s := s) (r := r) (tm := false) (stepG_comm (cases := #[scase c (.pointer (some ⟨w.heap.size, 0, none⟩)) (.pointer none)]) (blocking := false) (shape := .select) (w' := (w.alloc (.cells #[.int .i64 x] 3))) rfl rfl (by decide) (by simp [go_sem, execOp, scase, Act.eval])) HC.out (by rw [bufOf_size]; exact hroom)) ?_
  rw [Frame.finish_at]
  walk_nrm
  refine LoneTo.goes (n := 20) ?_
  s_op
  s_op
  s_c stepG_region_end
  s_c stepG_block
  s_cond true
  s_c stepG_seq
  s_reg
  s_op
  s_c stepG_region_end
  s_c stepG_ret'
  s_stop
  refine LoneTo.done ⟨.returned (.bool true), _, rfl, ⟨rfl, ?_, ?_⟩, rfl, rfl, rfl, rfl, _, Try.func41, by simp [results, Try.f41, Frame.at]⟩
  · have on := only_setChan (w.alloc (.cells #[.int .i64 x] 3)) c cap ((bufOf q).push (.pointer (some ⟨w.heap.size, 0, none⟩))) false (s + 1) r false
    have b1 := H1.out
    refine ⟨by rw [on.block b b1.lt (by simp [bc])]; exact b1.blk, ⟨s + 1, r, ?_⟩, fun p hp => ?_, by simp; omega, b1.most⟩
    · rw [heap_setChan _ _ _ _ _ _ _ _ b1.clt, bufOf_push q w.heap.size x]
    · rcases List.mem_append.1 hp with hp | hp
      · have e := b1.things p hp
        rw [on.block p.1 (Array.getElem?_eq_some_iff.1 e).1 (by simpa using b1.tne p hp)]
        exact e
      · simp at hp; subst hp
        rw [on.block w.heap.size (by simp) (by simp; omega)]
        exact HN.out
  · exact (((Only.refl _ w).alloc _).trans (only_setChan _ _ _ _ _ _ _ _) (fun k hk => .inl hk))

set_option maxRecDepth 100000 in
set_option maxHeartbeats 1000000 in
theorem put_full {b c cap : Nat} {q : List (Nat × Int)} (x : Int) (w : World) (h : Boxes w b c cap q) (hroom : q.length = cap) :
    Calls Try.prog 41 #[.pointer (some ⟨b, 0, none⟩), mkI x] w fun e w' => e = .returned (.bool false) ∧ Below w.heap.size w w' := by
  have h1 := h.below ((Below.refl _ w).alloc (Nat.le_refl _) (.cells #[.int .i64 x] 3))
  obtain ⟨s, r, hc⟩ := h1.ch
  have c0 := h1.c0
  have HC : Hid ((w.alloc (.cells #[.int .i64 x] 3)).heap[c]? = some (.chan cap (bufOf q) false s r false)) := hc
  clear hc h1 h
  unfold mkI
  refine calls_of_loneTo fun cs => ?_
  have e : Frame.enter Try.prog 41 #[.pointer (some ⟨b, 0, none⟩), .int .i64 x] .normal = (base 41).at ⟨#[.pointer (some ⟨b, 0, none⟩), .int .i64 x, undef, undef, undef, undef, undef, undef, undef, undef, undef, undef, undef, undef], []⟩ [.code (Try.f41.body.getD .skip)] := by
    simp [Frame.enter, Frame.at, Try.func41, base, Try.f41]
  rw [e]
  clear e
  refine LoneTo.goes (n := 40) ?_
  simp only [Try.f41, Option.getD_some]
  s_c stepG_seq
  s_reg
  s_op
  s_op
  s_c stepG_region_end
  s_c stepG_seq
  s_c stepG_seq
  s_reg
  s_op
  s_op
  s_c stepG_region_end
  s_cond false
  s_c stepG_skip
  s_c stepG_seq
  s_reg
  s_op
  s_op
  s_op
  s_op
  s_c stepG_region_end
  s_c stepG_seq
  s_reg
  s_stop
  refine LoneTo.step (step_lone_select_send_full (c := c) (cap := cap) (buf := bufOf q) (s := s) (r := r) (tm := false) (stepG_comm (cases := #[scase c (.pointer (some ⟨w.heap.size, 0, none⟩)) (.pointer none)]) (blocking := false) (shape := .select) (w' := (w.alloc (.cells #[.int .i64 x] 3))) rfl rfl (by decide) (by simp [go_sem, execOp, scase, Act.eval])) HC.out (by rw [bufOf_size]; omega)) ?_
  rw [Frame.finish_at]
  walk_nrm
  refine LoneTo.goes (n := 20) ?_
  s_op
  s_op
  s_c stepG_region_end
  s_c stepG_block
  s_cond false
  s_c stepG_seq
  s_reg
  s_op
  s_c stepG_region_end
  s_c stepG_ret'
  s_stop
  exact LoneTo.done ⟨.returned (.bool false), _, rfl, ⟨rfl, (Below.refl _ _).alloc (Nat.le_refl _) _⟩, rfl, rfl, rfl, rfl, _, Try.func41, by simp [results, Try.f41, Frame.at]⟩

set_option maxRecDepth 100000 in
set_option maxHeartbeats 1000000 in
theorem take_none {b c cap : Nat} (w : World) (h : Boxes w b c cap ([] : List (Nat × Int))) :
    Calls Try.prog 42 #[.pointer (some ⟨b, 0, none⟩)] w fun e w' => e = .returned (.tuple #[.int .i64 0, .bool false]) ∧ Below w.heap.size w w' := by
  obtain ⟨s, r, hc⟩ := h.ch
  have c0 := h.c0
  have HC : Hid (w.heap[c]? = some (.chan cap #[] false s r false)) := hc
  clear hc h
  refine calls_of_loneTo fun cs => ?_
  have e : Frame.enter Try.prog 42 #[.pointer (some ⟨b, 0, none⟩)] .normal = (base 42).at ⟨#[.pointer (some ⟨b, 0, none⟩), undef, undef, undef, undef, undef, undef, undef, undef, undef, undef, undef, undef, undef, undef, undef, undef, undef, undef, undef, undef, undef, undef, undef], []⟩ [.code (Try.f42.body.getD .skip)] := by
    simp [Frame.enter, Frame.at, Try.func42, base, Try.f42]
  rw [e]
  clear e
  refine LoneTo.goes (n := 40) ?_
  simp only [Try.f42, Option.getD_some]
  s_c stepG_seq
  s_reg
  s_op
  s_op
  s_c stepG_region_end
  s_c stepG_seq
  s_c stepG_seq
  s_reg
  s_op
  s_op
  s_c stepG_region_end
  s_cond false
  s_c stepG_skip
  s_c stepG_seq
  s_reg
  s_op
  s_op
  s_op
  s_op
  s_c stepG_region_end
  s_c stepG_seq
  s_reg
  s_stop
  refine LoneTo.step (step_lone_select_default (c := c) (cap := cap) (s := s) (r := r) (tm := false) (stepG_comm (cases := #[rcase c (.pointer none)]) (blocking := false) (shape := .select) (w' := w) rfl rfl (by decide) (by simp [go_sem, execOp, rcase, Act.eval])) HC.out) ?_
  rw [Frame.finish_at]
  walk_nrm
  refine LoneTo.goes (n := 30) ?_
  s_op
  s_op
  s_c stepG_region_end
  s_c stepG_block
  s_cond false
  s_c stepG_seq
  s_reg
  s_op
  s_op
  s_op
  s_op
  s_op
  s_c stepG_region_end
  s_c stepG_ret'
  s_stop
  exact LoneTo.done ⟨.returned (.tuple #[.int .i64 0, .bool false]), _, rfl, ⟨rfl, (Below.refl _ _).alloc (Nat.le_refl _) _⟩, rfl, rfl, rfl, rfl, _, Try.func42, by simp [results, Try.f42, Frame.at]⟩

set_option maxRecDepth 100000 in
set_option maxHeartbeats 1000000 in
theorem take_some {b c cap : Nat} {p : Nat × Int} {q : List (Nat × Int)} (w : World) (h : Boxes w b c cap (p :: q)) :
    Calls Try.prog 42 #[.pointer (some ⟨b, 0, none⟩)] w fun e w' => e = .returned (.tuple #[mkI p.2, .bool true]) ∧ Boxes w' b c cap q ∧ Only [c] w w' := by
  obtain ⟨s, r, hc⟩ := h.ch
  have c0 := h.c0
  have cl := h.clt
  have bc := h.ne
  have tp := h.things p (by simp)
  have tc := h.tne p (by simp)
  have HC : Hid (w.heap[c]? = some (.chan cap (bufOf (p :: q)) false s r false)) := hc
  have on := only_setChan w c cap (bufOf q) false s (r + 1) false
  have cp : (w.setChan c cap (bufOf q) false s (r + 1) false).cell? ⟨p.1, 0, none⟩ = some (mkI p.2) := by
    have e : (w.setChan c cap (bufOf q) false s (r + 1) false).heap[p.1]? = _ := (on.block p.1 (Array.getElem?_eq_some_iff.1 tp).1 (by simpa using tc)).trans tp
    simp [World.cell?, e]
  have H0 : Hid (Boxes w b c cap (p :: q)) := h
  have ON : Hid (Only [c] w (w.setChan c cap (bufOf q) false s (r + 1) false)) := on
  clear hc h on tp
  refine calls_of_loneTo fun cs => ?_
  have e : Frame.enter Try.prog 42 #[.pointer (some ⟨b, 0, none⟩)] .normal = (base 42).at ⟨#[.pointer (some ⟨b, 0, none⟩), undef, undef, undef, undef, undef, undef, undef, undef, undef, undef, undef, undef, undef, undef, undef, undef, undef, undef, undef, undef, undef, undef, undef], []⟩ [.code (Try.f42.body.getD .skip)] := by
    simp [Frame.enter, Frame.at, Try.func42, base, Try.f42]
  rw [e]
  clear e
  refine LoneTo.goes (n := 40) ?_
  simp only [Try.f42, Option.getD_some]
  s_c stepG_seq
  s_reg
  s_op
  s_op
  s_c stepG_region_end
  s_c stepG_seq
  s_c stepG_seq
  s_reg
  s_op
  s_op
  s_c stepG_region_end
  s_cond false
  s_c stepG_skip
  s_c stepG_seq
  s_reg
  s_op
  s_op
  s_op
  s_op
  s_c stepG_region_end
  s_c stepG_seq
  s_reg
  s_stop
  refine LoneTo.step (step_lone_select_recv_buf (c := c) (cap := cap) (buf := bufOf (p :: q)) (closed := false) (s := s) (r := r) (tm := false) (stepG_comm (cases := #[rcase c (.pointer none)]) (blocking := false) (shape := .select) (w' := w) rfl rfl (by decide) (by simp [go_sem, execOp, rcase, Act.eval])) HC.out (by rw [bufOf_size]; simp)) ?_
  rw [Frame.finish_at, bufOf_head, bufOf_tail]
  walk_nrm
  refine LoneTo.goes (n := 30) ?_
  s_op
  s_op
  s_c stepG_region_end
  s_c stepG_block
  s_cond true
  s_c stepG_seq
  s_reg
  s_op
  s_op
  s_c stepG_region_end
  s_c stepG_seq
  s_reg
  s_op
  s_op
  s_op
  s_op
  s_op
  s_c stepG_region_end
  s_c stepG_ret'
  s_stop
  refine LoneTo.done ⟨.returned (.tuple #[mkI p.2, .bool true]), _, rfl, ⟨rfl, ?_, ON.out⟩, rfl, rfl, rfl, rfl, _, Try.func42, by simp [results, Try.f42, Frame.at]⟩
  have b1 := H0.out
  refine ⟨by rw [ON.out.block b b1.lt (by simp [bc])]; exact b1.blk, ⟨s, r + 1, heap_setChan _ _ _ _ _ _ _ _ cl⟩, fun t ht => ?_, by have := b1.few; simp at this; omega, b1.most⟩
  have e := b1.things t (by simp [ht])
  rw [ON.out.block t.1 (Array.getElem?_eq_some_iff.1 e).1 (by simpa using b1.tne t (by simp [ht]))]
  exact e
end Go.Proofs.Ytbfbijfedamgaaa.BI
