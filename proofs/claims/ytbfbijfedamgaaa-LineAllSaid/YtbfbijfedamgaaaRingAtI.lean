/- The contracts of the ring's Put, At, Len and Room at int, as the chapter has them. -/
import Derived.Test.YtbfbijfedamgaaaRingPutI
namespace Go.Proofs.Ytbfbijfedamgaaa.RI
open Go.RowKit

theorem rot_get (cs : List Value) (F i : Nat) (hF : F < cs.length) (hi : i < cs.length) : (cs.drop F ++ cs.take F)[i]? = cs[(F + i) % cs.length]? := by
  rw [modF hF (by omega)]
  split
  · rw [List.getElem?_append_left (by simp; omega), List.getElem?_drop]
  · rw [List.getElem?_append_right (by simp; omega), List.getElem?_take, List.length_drop, if_pos (by omega)]
    congr 1
    omega

theorem put_ok {b : Nat} {room : Int} {v : Value} {q : List Int} (x : Int) (w : World) (h : Rings w b room v q) (hroom : (q.length : Int) < room) :
    Calls Try.prog 48 #[.pointer (some ⟨b, 0, none⟩), mkI x] w fun e w' => ∃ v', e = .returned (.bool true) ∧ Rings w' b room v' (q ++ [x]) ∧ Only (foot b v) w w' ∧ ∀ k ∈ foot b v', k ∈ foot b v ∨ w.heap.size ≤ k := by
  have hle := h.len_le
  obtain ⟨F, cs, hr, hl, h0, h1, h2⟩ := h
  rcases hl with ⟨rfl, rfl, rfl, rfl⟩ | ⟨hF, hq, hl⟩
  · refine (put_nil x w hr (by simpa using hroom) h1).mono ?_
    rintro e w' ⟨g, rfl, hg, r, o⟩
    refine ⟨_, rfl, ⟨0, [mkI x], by simpa using r, .inr ⟨by simp, by simp, fun i hi => ?_⟩, h0, h1, by simp at hroom ⊢; omega⟩, o.mono (by simp [foot]), fun k hk => ?_⟩
    · simp at hi; subst hi; simp
    · simp [foot, Value.ownBlock] at hk ⊢
      rcases hk with rfl | rfl
      · exact .inl rfl
      · exact .inr hg
  · rcases hr.own.2 with ⟨rfl, hz⟩ | ⟨g, cap, cur, rfl, -⟩
    · omega
    by_cases hfull : q.length = cs.length
    · rw [← hfull] at hr
      have hF' : F < q.length := by omega
      refine (put_grow F x w hr hF' hroom h1).mono ?_
      rintro e w' ⟨N, g2, rfl, hg, hN1, hN2, r, o⟩
      have hlen : (cs.drop F ++ cs.take F ++ List.replicate (N - q.length) (.int .i64 0 : Value)).length = N := by simp; omega
      have lk := link_put (F := 0) (n := N) (g := g2) (cap := N) (q := q) x hlen (by omega) hN1 (fun i hi => by
        rw [Nat.zero_add, Nat.mod_eq_of_lt (by omega), List.getElem?_append_left (by simp; omega), rot_get cs F i hF (by omega)]
        exact hl i hi)
      rw [Nat.zero_add, Nat.mod_eq_of_lt hN1] at lk
      refine ⟨_, rfl, ⟨0, _, by simpa using r, lk, h0, h1, by simp; omega⟩, o.mono (by simp [foot]), fun k hk => ?_⟩
      simp [foot, Value.ownBlock] at hk ⊢
      rcases hk with rfl | rfl
      · exact .inl (.inl rfl)
      · exact .inr hg
    · have hfew := hr.few
      refine (put_room F x w hr hF (by omega) hfew hroom h1).mono ?_
      rintro e w' ⟨rfl, r, o⟩
      have lk := link_put (F := F) (n := cs.length) (g := g) (cap := cap) (q := q) x rfl hF (by omega) hl
      refine ⟨_, rfl, ⟨F, _, by simpa using r, by simpa using lk, h0, h1, by simpa using h2⟩, o.mono (by simp [foot, Value.ownBlock]), fun k hk => .inl hk⟩

set_option maxHeartbeats 400000 in
theorem at_out {b : Nat} {room : Int} {v : Value} {q : List Int} (i : Int) (w : World) (h : Rings w b room v q) (hi : i < 0 ∨ (q.length : Int) ≤ i) :
    Calls Try.prog 97 #[.pointer (some ⟨b, 0, none⟩), .int .i64 i] w fun e w' => e = .returned (.tuple #[.int .i64 0, .bool false]) ∧ Below w.heap.size w w' := by
  obtain ⟨F, cs, hr, hl, h0, h1, h2⟩ := h
  clear hl
  by_cases h : i < 0
  · clear hi
    go_enter Try.func97, Try.ntmps97
    go_wp2_with (go_at_call 115; refine (len_raw _ hr).mono ?_; rintro e w' ⟨rfl, hw⟩; subst w')
    go_ret2
    exact ⟨rfl, (Below.refl _ _).alloc (Nat.le_refl _) _⟩
  · have hi' : (q.length : Int) ≤ i := by omega
    clear hi
    go_enter Try.func97, Try.ntmps97
    go_wp2_with (go_at_call 115; refine (len_raw _ hr).mono ?_; rintro e w' ⟨rfl, hw⟩; subst w')
    go_ret2
    exact ⟨rfl, (Below.refl _ _).alloc (Nat.le_refl _) _⟩

set_option maxHeartbeats 1000000 in
set_option maxRecDepth 100000 in
theorem at_raw {b g m n cap : Nat} {room : Int} {cs : List Value} {u : Int} (F i : Nat) (w : World) (hr : Raw w b room F m (.slice (some ⟨g, 0, none⟩) n cap) cs) (hF : F < n) (hi : i < m) (hm : m ≤ n) (hn : n ≤ 1000) (hu : cs[(F + i) % n]? = some (mkI u)) :
    Calls Try.prog 97 #[.pointer (some ⟨b, 0, none⟩), .int .i64 i] w fun e w' => e = .returned (.tuple #[mkI u, .bool true]) ∧ Below w.heap.size w w' := by
  have c1 := hr.c1
  have gb := hr.gt g rfl
  have bl := hr.lt
  obtain ⟨k, hk⟩ : ∃ k, (F + i) % n = k := ⟨_, rfl⟩
  have hkn : k < n := by rw [← hk]; exact Nat.mod_lt _ (by omega)
  rw [hk] at hu
  have cu := (hr.at k hkn).1.trans hu
  have HK : Hid ((F + i) % n = k) := hk
  have ca := fun w h => HK.out ▸ cell_raw (b := b) (room := room) (count := m) (ad := some ⟨g, 0, none⟩) (cap := cap) (cs := cs) F i w h (n := n) (by omega) (by omega) (by omega) (by omega)
  have R2 : Hid (Raw w b room F m (.slice (some ⟨g, 0, none⟩) n cap) cs) := hr
  have hi1 : ¬ (i : Int) < 0 := by omega
  have hi2 : ¬ (m : Int) ≤ (i : Int) := by omega
  clear hu hk hr
  go_enter Try.func97, Try.ntmps97
  go_wp2_with (go_at_call 115; refine (len_raw _ R2.out).mono ?_; rintro e w' ⟨rfl, hw⟩; subst w')
  go_region_held3 (fun w' => w'.cell? ⟨b, 1, none⟩ = some (.slice (some ⟨g, 0, none⟩) n cap) ∧ w'.cell? ⟨g, k, none⟩ = some (mkI u)) (go_keep)
    (first | (go_at_call 77; refine (ca _ R2.out.drew).mono ?_; rintro e w5 ⟨rfl, g5⟩; have d1 := (g5.cell (p := ⟨b, 1, none⟩) bl).trans c1; have du := (g5.cell (p := ⟨g, k, none⟩) gb.2).trans cu))
  go_wp2
  go_ret2
  exact ⟨rfl, (Below.refl _ _).drew.trans g5⟩
theorem at_in {b : Nat} {room : Int} {v : Value} {q : List Int} {u : Int} (i : Nat) (w : World) (h : Rings w b room v q) (hi : q[i]? = some u) :
    Calls Try.prog 97 #[.pointer (some ⟨b, 0, none⟩), .int .i64 i] w fun e w' => e = .returned (.tuple #[mkI u, .bool true]) ∧ Below w.heap.size w w' := by
  obtain ⟨F, cs, hr, hl, h0, h1, h2⟩ := h
  have il := (List.getElem?_eq_some_iff.1 hi).1
  rcases hl with ⟨rfl, rfl, rfl, rfl⟩ | ⟨hF, hq, hl⟩
  · simp at hi
  · rcases hr.own.2 with ⟨rfl, hz⟩ | ⟨g, cap, cur, rfl, -⟩
    · omega
    exact at_raw F i w hr hF il hq hr.few (by rw [hl i il, hi]; rfl)

theorem ring_len {b : Nat} {room : Int} {v : Value} {q : List Int} (w : World) (h : Rings w b room v q) :
    Calls Try.prog 115 #[.pointer (some ⟨b, 0, none⟩)] w fun e w' => e = .returned (.int .i64 q.length) ∧ w' = w := by
  obtain ⟨F, cs, hr, _⟩ := h
  exact len_raw w hr
theorem ring_room {b : Nat} {room : Int} {v : Value} {q : List Int} (w : World) (h : Rings w b room v q) :
    Calls Try.prog 53 #[.pointer (some ⟨b, 0, none⟩)] w fun e w' => e = .returned (.int .i64 (room - q.length)) ∧ Below w.heap.size w w' := by
  have hle := h.len_le
  obtain ⟨F, cs, hr, _, h0, h1, _⟩ := h
  exact room_raw w hr (by omega) (by omega) h0 h1
end Go.Proofs.Ytbfbijfedamgaaa.RI
