/- The contracts of the box's New, Len and Either at int; of a box that is none. -/
import Derived.Test.YtbfbijfedamgaaaBoxI
import Derived.Conc.LoneSelectN
namespace Go.Proofs.Ytbfbijfedamgaaa.BI
open Go.RowKit Go.Conc

/-- From nought to a hundred. -/
def roomV (n : Int) : Nat := (max 0 (min n 100)).toNat
theorem bytesP : ∃ i, Try.prog.info? 93 = some i ∧ i.bytes = 8 := by
  have h : (Try.prog.info? 93).map (·.bytes) = some 8 := by kernel_rfl
  obtain ⟨i, hi, hb⟩ := Option.map_eq_some_iff.1 h
  exact ⟨i, hi, hb⟩
theorem made (n : Nat) (hn : n ≤ 100) (w : World) : (Instr.makeChan 122 (.int .i64 n)).run Try.prog w = .ok (.chan (some w.heap.size)) (w.alloc (.chan n #[] false 0 0 false)) := by
  obtain ⟨i, hi, hb⟩ := bytesP
  exact run_makeChan (P := Try.prog) (w := w) Try.underlying122 hi .i64 n (by omega) (by rw [hb]; omega)

theorem new_boxes (w : World) (n : Nat) (hn : n ≤ 100) : Boxes ((w.alloc (.chan n #[] false 0 0 false)).alloc (.cells #[.chan (some w.heap.size)] 124)) (w.heap.size + 1) w.heap.size n ([] : List (Nat × Int)) := by
  refine ⟨?_, ⟨0, 0, ?_⟩, by simp, by simp, hn⟩
  · have := heap_alloc_new (w.alloc (.chan n #[] false 0 0 false)) (.cells #[.chan (some w.heap.size)] 124)
    simpa only [World.size_alloc] using this
  · rw [Below.heap_alloc _ _ _ (by simp)]
    exact heap_alloc_new w _

set_option maxHeartbeats 400000 in
theorem new_any (n : Int) (w : World) (h1 : -9223372036854775808 ≤ n) (h2 : n ≤ 9223372036854775807) :
    Calls Try.prog 40 #[.int .i64 n] w fun e w' => e = .returned (.pointer (some ⟨w.heap.size + 1, 0, none⟩)) ∧ Boxes w' (w.heap.size + 1) w.heap.size (roomV n) ([] : List (Nat × Int)) ∧ Below w.heap.size w w' := by
  rcases (by omega : n < 0 ∨ (0 ≤ n ∧ n ≤ 100) ∨ 100 < n) with h | h | h
  · have K : Hid (roomV n = 0) := by show _ = _; unfold roomV; omega
    have mk : ∀ w : World, (Instr.makeChan 122 (.int .i64 0)).run Try.prog w = .ok (.chan (some w.heap.size)) (w.alloc (.chan 0 #[] false 0 0 false)) := made 0 (by omega)
    go_enter Try.func40, Try.ntmps40
    go_wp2
    go_ret
    exact ⟨rfl, by rw [K.out]; exact new_boxes w 0 (by omega), ((Below.refl _ _).alloc (Nat.le_refl _) _).alloc (by simp) _⟩
  · obtain ⟨m, rfl⟩ : ∃ m : Nat, n = (m : Int) := ⟨n.toNat, by omega⟩
    have K : Hid (roomV (m : Int) = m) := by show _ = _; unfold roomV; omega
    have mk := made m (by omega)
    have h3 : ¬ (m : Int) < 0 := by omega
    have h4 : ¬ (100 : Int) < (m : Int) := by omega
    have h5 : ¬ 100 < m := by omega
    go_enter Try.func40, Try.ntmps40
    go_wp2
    go_ret
    exact ⟨rfl, by rw [K.out]; exact new_boxes w m (by omega), ((Below.refl _ _).alloc (Nat.le_refl _) _).alloc (by simp) _⟩
  · have K : Hid (roomV n = 100) := by show _ = _; unfold roomV; omega
    have mk : ∀ w : World, (Instr.makeChan 122 (.int .i64 100)).run Try.prog w = .ok (.chan (some w.heap.size)) (w.alloc (.chan 100 #[] false 0 0 false)) := made 100 (by omega)
    go_enter Try.func40, Try.ntmps40
    go_wp2
    go_ret
    exact ⟨rfl, by rw [K.out]; exact new_boxes w 100 (by omega), ((Below.refl _ _).alloc (Nat.le_refl _) _).alloc (by simp) _⟩

set_option maxHeartbeats 400000 in
theorem len_any {b c cap : Nat} {q : List (Nat × Int)} (w : World) (h : Boxes w b c cap q) :
    Calls Try.prog 44 #[.pointer (some ⟨b, 0, none⟩)] w fun e w' => e = .returned (.int .i64 q.length) ∧ w' = w := by
  obtain ⟨s, r, hc⟩ := h.ch
  have c0 := h.c0
  have hlen := fun ty => run_len_chan (P := Try.prog) 122 ty Try.underlying122 hc
  rw [bufOf_size] at hlen
  clear hc
  go_enter Try.func44, Try.ntmps44
  go_wp2
  go_ret
  exact ⟨rfl, rfl⟩

set_option maxHeartbeats 400000 in
theorem either_first {b c cap d : Nat} {p : Nat × Int} {q : List (Nat × Int)} (w : World) (h : Boxes w b c cap (p :: q)) :
    Calls Try.prog 43 #[.pointer (some ⟨b, 0, none⟩), .pointer (some ⟨d, 0, none⟩)] w fun e w' => e = .returned (.tuple #[mkI p.2, .int .i64 1]) ∧ Boxes w' b c cap q ∧ Only [c] w w' := by
  go_enter Try.func43, Try.ntmps43
  go_wp2_with (go_at_call 42; refine (take_some _ h).mono ?_; rintro e w1 ⟨rfl, h1, o1⟩)
  go_ret2
  exact ⟨rfl, h1, o1⟩
set_option maxHeartbeats 400000 in
theorem either_second {b c cap d e cap2 : Nat} {p : Nat × Int} {q : List (Nat × Int)} (w : World) (h : Boxes w b c cap ([] : List (Nat × Int))) (h2 : Boxes w d e cap2 (p :: q)) :
    Calls Try.prog 43 #[.pointer (some ⟨b, 0, none⟩), .pointer (some ⟨d, 0, none⟩)] w fun r w' => r = .returned (.tuple #[mkI p.2, .int .i64 2]) ∧ Boxes w' d e cap2 q ∧ Only [e] w w' := by
  go_enter Try.func43, Try.ntmps43
  go_wp2_with (first | (go_at_call 42; refine (take_some _ (h2.below g1)).mono ?_; rintro _ w2 ⟨rfl, h3, o3⟩) | (go_at_call 42; refine (take_none _ h).mono ?_; rintro _ w1 ⟨rfl, g1⟩))
  go_ret2
  exact ⟨rfl, h3, (Below.only g1 _).trans o3 (fun k hk => .inl hk)⟩
set_option maxHeartbeats 400000 in
theorem either_none {b c cap d e cap2 : Nat} (w : World) (h : Boxes w b c cap ([] : List (Nat × Int))) (h2 : Boxes w d e cap2 ([] : List (Nat × Int))) :
    Calls Try.prog 43 #[.pointer (some ⟨b, 0, none⟩), .pointer (some ⟨d, 0, none⟩)] w fun r w' => r = .returned (.tuple #[.int .i64 0, .int .i64 0]) ∧ Below w.heap.size w w' := by
  go_enter Try.func43, Try.ntmps43
  go_wp2_with (first | (go_at_call 42; refine (take_none _ (h2.below g1)).mono ?_; rintro _ w2 ⟨rfl, g2⟩) | (go_at_call 42; refine (take_none _ h).mono ?_; rintro _ w1 ⟨rfl, g1⟩))
  go_ret2
  exact ⟨rfl, (below_step g1 g2).trans (((Below.refl _ _).alloc (Nat.le_refl _) _).mono (by have := g1.size; have := g2.size; omega))⟩
end Go.Proofs.Ytbfbijfedamgaaa.BI
