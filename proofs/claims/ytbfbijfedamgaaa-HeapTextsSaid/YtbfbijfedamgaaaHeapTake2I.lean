/- The contract of the heap's Take at int. -/
import Derived.Test.YtbfbijfedamgaaaHeapTakeI
namespace Go.Proofs.Ytbfbijfedamgaaa.HI
open Go.RowKit

set_option maxHeartbeats 400000 in
theorem take_none {b : Nat} {room puts : Int} {v : Value} (w : World) (h : Heaps w b room puts v []) :
    Calls Try.prog 13 #[.pointer (some ⟨b, 0, none⟩)] w fun e w' => e = .returned (.tuple #[.int .i64 0, .bool false]) ∧ Below w.heap.size w w' := by
  go_enter Try.func13, Try.ntmps13
  go_wp2_with (go_at_call 19; refine (first_none _ h).mono ?_; rintro e w1 ⟨rfl, g1⟩)
  go_ret2
  exact ⟨rfl, g1⟩

set_option maxHeartbeats 400000 in
theorem take_some {b : Nat} {room puts : Int} {v : Value} {l : List (Ent Int)} (w : World) (h : Heaps w b room puts v l) (hl : l ≠ []) :
    Calls Try.prog 13 #[.pointer (some ⟨b, 0, none⟩)] w fun e w' => ∃ x v', IsFirst l x ∧ e = .returned (.tuple #[mkI x.v, .bool true]) ∧ Heaps w' b room puts v' (less l x.v) ∧ foot b v' = foot b v ∧ Only (foot b v) w w' := by
  obtain ⟨es, x, hr, hh, hp, hi, h0, h1, h2, hx, hf⟩ := h.top hl
  have il := lt_of_some hx
  have HI : Hid (Heap es ∧ es.Perm l ∧ Items l puts ∧ (l.length : Int) ≤ room ∧ es[0]? = some x ∧ IsFirst l x) := ⟨hh, hp, hi, h2, hx, hf⟩
  have fr := fun w h => first_raw (b := b) (room := room) (puts := puts) (v := v) w h hx
  clear hh hp hi h2 hx hf hl
  go_enter Try.func13, Try.ntmps13
  go_wp2_with (first | (go_at_call 19; refine (fr _ hr).mono ?_; rintro e w1 ⟨rfl, hw⟩; subst w1) | (go_at_call 58; refine (remove_any 0 _ hr HI.out.1 il).mono ?_; rintro e w2 ⟨fs, v2, rfl, hh2, hp2, hr2, hf2, ho2⟩))
  go_ret2
  obtain ⟨i1, i2, i3, i4, i5, i6⟩ := HI.out
  have pm := perm_erase i2 i3 i5
  refine ⟨x, v2, i6, rfl, ⟨fs, hr2, hh2, hp2.trans pm, i3.less x.v, h0, h1, ?_⟩, hf2, ho2⟩
  have : (less l x.v).length ≤ l.length := List.length_filter_le _ _
  omega
end Go.Proofs.Ytbfbijfedamgaaa.HI
