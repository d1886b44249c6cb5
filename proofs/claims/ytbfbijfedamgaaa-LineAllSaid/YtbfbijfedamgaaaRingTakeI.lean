/- The contracts of the ring's First and Take at int, as the chapter has them. -/
import Derived.Test.YtbfbijfedamgaaaRingAtI
namespace Go.Proofs.Ytbfbijfedamgaaa.RI
open Go.RowKit

set_option maxHeartbeats 400000 in
theorem first_none {b : Nat} {room : Int} {v : Value} (w : World) (h : Rings w b room v ([] : List Int)) :
    Calls Try.prog 78 #[.pointer (some ⟨b, 0, none⟩)] w fun e w' => e = .returned (.tuple #[.int .i64 0, .bool false]) ∧ Below w.heap.size w w' := by
  go_enter Try.func78, Try.ntmps78
  go_wp2_with (go_at_call 97; refine (at_out 0 _ h (.inr (by simp))).mono ?_; rintro e w1 ⟨rfl, g1⟩)
  go_ret2
  exact ⟨rfl, g1⟩
set_option maxHeartbeats 400000 in
theorem first_some {b : Nat} {room : Int} {v : Value} {u : Int} {q : List Int} (w : World) (h : Rings w b room v (u :: q)) :
    Calls Try.prog 78 #[.pointer (some ⟨b, 0, none⟩)] w fun e w' => e = .returned (.tuple #[mkI u, .bool true]) ∧ Below w.heap.size w w' := by
  have fa : Calls Try.prog 97 #[.pointer (some ⟨b, 0, none⟩), .int .i64 0] w fun e w' => e = .returned (.tuple #[mkI u, .bool true]) ∧ Below w.heap.size w w' := at_in 0 w h rfl
  clear h
  go_enter Try.func78, Try.ntmps78
  go_wp2_with (go_at_call 97; refine fa.mono ?_; rintro e w1 ⟨rfl, g1⟩)
  go_ret2
  exact ⟨rfl, g1⟩
set_option maxHeartbeats 400000 in
theorem take_none {b : Nat} {room : Int} {v : Value} (w : World) (h : Rings w b room v ([] : List Int)) :
    Calls Try.prog 49 #[.pointer (some ⟨b, 0, none⟩)] w fun e w' => e = .returned (.tuple #[.int .i64 0, .bool false]) ∧ Below w.heap.size w w' := by
  go_enter Try.func49, Try.ntmps49
  go_wp2_with (go_at_call 78; refine (first_none _ h).mono ?_; rintro e w1 ⟨rfl, g1⟩)
  go_ret2
  exact ⟨rfl, g1⟩
set_option maxHeartbeats 1000000 in
set_option maxRecDepth 100000 in
theorem take_raw {b g m n cap : Nat} {room : Int} {cs : List Value} {u : Int} (F : Nat) (w : World) (hr : Raw w b room F (m + 1 : Nat) (.slice (some ⟨g, 0, none⟩) n cap) cs) (hF : F < n) (hm : m + 1 ≤ n) (hn : n ≤ 1000)
    (fs : Calls Try.prog 78 #[.pointer (some ⟨b, 0, none⟩)] w fun e w' => e = .returned (.tuple #[mkI u, .bool true]) ∧ Below w.heap.size w w') :
    Calls Try.prog 49 #[.pointer (some ⟨b, 0, none⟩)] w fun e w' => e = .returned (.tuple #[mkI u, .bool true]) ∧ Raw w' b room ((F + 1) % n : Nat) m (.slice (some ⟨g, 0, none⟩) n cap) (cs.set F (.int .i64 0)) ∧ Only [b, g] w w' := by
  have gb := hr.gt g rfl
  have bg : ¬ b = g := by omega
  have bg' : ¬ g = b := by omega
  have hlen := hr.len
  obtain ⟨z, hz⟩ : ∃ z, cs[F]? = some z := ⟨_, List.getElem?_eq_getElem (by omega)⟩
  have HZ : Hid (cs[F]? = some z) := hz
  have H0 : Hid (Raw w b room F (m + 1 : Nat) (.slice (some ⟨g, 0, none⟩) n cap) cs) := hr
  clear hr hz hlen
  go_enter Try.func49, Try.ntmps49
  go_wp2_with (go_at_call 78; refine fs.mono ?_; rintro e w1 ⟨rfl, g1⟩; have r1 := H0.out.below g1; have c1 := r1.c1; have c2 := r1.c2; have cz := (r1.at F hF).1.trans HZ.out; have fz := (r1.at F hF).2; have bl := r1.lt; have gl := (r1.gt g rfl).2; have R1 : Hid (Raw w1 b room F (m + 1 : Nat) (.slice (some ⟨g, 0, none⟩) n cap) cs) := r1; clear r1)
  go_region
  obtain ⟨r2, o2⟩ := R1.out.store F (.int .i64 0) rfl
  have g3 : Below (w1.setCell ⟨g, F, none⟩ (.int .i64 0)).heap.size (w1.setCell ⟨g, F, none⟩ (.int .i64 0)) ((w1.setCell ⟨g, F, none⟩ (.int .i64 0)).alloc (.cells #[.int .i64 0] 3)).drew := ((Below.refl _ _).alloc (Nat.le_refl _) _).drew
  have r3 := r2.below g3
  have o3 : Only [b, g] w1 ((w1.setCell ⟨g, F, none⟩ (.int .i64 0)).alloc (.cells #[.int .i64 0] 3)).drew := (o2.mono (by simp)).trans (Below.only g3 []) (by simp)
  clear r2 o2 g3 c1 c2 cz fz bl gl
  generalize World.drew _ = W3 at r3 o3 ⊢
  have n1 : ¬ n = 0 := by omega
  have ca := fun w h => cell_raw (b := b) (room := room) (count := (m + 1 : Nat)) (ad := some ⟨g, 0, none⟩) (cap := cap) (cs := cs.set F (.int .i64 0)) F 1 w h (n := n) (by omega) (by omega) (by omega) (by omega)
  obtain ⟨k, hk⟩ : ∃ k, (F + 1) % n = k := ⟨_, rfl⟩
  rw [hk] at ca
  have HK : Hid ((F + 1) % n = k) := hk
  clear hk
  have hm1 : m < 1000 := by omega
  go_wp2_with (go_at_call 77; refine (ca _ r3).mono ?_; rintro e w5 ⟨rfl, g5⟩; have r5 := r3.below g5; have c2 := r5.c2; have f2 := r5.fz 2; have f3 := r5.fz 3; have c3 := r5.c3; have R5 : Hid (Raw w5 b room F (m + 1 : Nat) (.slice (some ⟨g, 0, none⟩) n cap) (cs.set F (.int .i64 0))) := r5; clear r5 r3)
  go_ret2
  obtain ⟨r6, o6⟩ := R5.out.front k
  obtain ⟨r7, o7⟩ := r6.count m
  rw [HK.out]
  exact ⟨rfl, by simpa using r7, ((((Below.only g1 _).trans o3 (fun k hk => .inl hk)).trans (Below.only g5 []) (by simp)).trans o6 (fun k hk => .inl (by simp at hk; simp [hk]))).trans o7 (fun k hk => .inl (by simp at hk; simp [hk]))⟩
theorem take_some {b : Nat} {room : Int} {v : Value} {u : Int} {q : List Int} (w : World) (h : Rings w b room v (u :: q)) :
    Calls Try.prog 49 #[.pointer (some ⟨b, 0, none⟩)] w fun e w' => e = .returned (.tuple #[mkI u, .bool true]) ∧ Rings w' b room v q ∧ Only (foot b v) w w' := by
  have fs := first_some w h
  obtain ⟨F, cs, hr, hl, h0, h1, h2⟩ := h
  rcases hl with ⟨rfl, rfl, e, rfl⟩ | ⟨hF, hq, hl⟩
  · simp at e
  · rcases hr.own.2 with ⟨rfl, hz⟩ | ⟨g, cap, cur, rfl, -⟩
    · omega
    have hq' : q.length + 1 ≤ cs.length := by simpa using hq
    refine (take_raw (m := q.length) F w (by simpa using hr) hF hq' hr.few fs).mono ?_
    rintro e w' ⟨rfl, r, o⟩
    refine ⟨rfl, ⟨(F + 1) % cs.length, _, r, .inr ⟨by simp; exact Nat.mod_lt _ (by omega), by simp; omega, fun i hi => ?_⟩, h0, h1, by simpa using h2⟩, o.mono (by simp [foot, Value.ownBlock])⟩
    have e1 : ((F + 1) % cs.length + i) % cs.length = (F + (i + 1)) % cs.length := by rw [Nat.mod_add_mod]; congr 1; omega
    simp only [List.length_set]
    rw [e1, List.getElem?_set_ne, hl (i + 1) (by simp; omega)]
    · simp
    · rw [modF hF (by omega)]; split <;> omega
end Go.Proofs.Ytbfbijfedamgaaa.RI
