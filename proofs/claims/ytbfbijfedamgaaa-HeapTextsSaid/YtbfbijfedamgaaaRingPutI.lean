/- The contracts of the ring's Put, At, First and Take at int. -/
import Derived.Test.YtbfbijfedamgaaaRingOpsI
namespace Go.Proofs.Ytbfbijfedamgaaa.RI
open Go.RowKit

theorem modF {F i n : Nat} (hF : F < n) (hi : i ≤ n) : (F + i) % n = if F + i < n then F + i else F + i - n := by
  split
  · exact Nat.mod_eq_of_lt (by assumption)
  · rw [Nat.mod_eq_sub_mod (by omega), Nat.mod_eq_of_lt (by omega)]

theorem Raw.drew {w : World} {b : Nat} {room front count : Int} {v : Value} {cs : List Value} (h : Raw w b room front count v cs) : Raw w.drew b room front count v cs := h.below ((Below.refl _ _).drew)
theorem Raw.len {w : World} {b g n cap : Nat} {room front count : Int} {cs : List Value} (h : Raw w b room front count (.slice (some ⟨g, 0, none⟩) n cap) cs) : n = cs.length := by
  rcases h.own.2 with ⟨e, _⟩ | ⟨_, _, _, e, _⟩ <;> simp at e; exact e.2.1
theorem Raw.at {w : World} {b g n cap : Nat} {room front count : Int} {cs : List Value} (h : Raw w b room front count (.slice (some ⟨g, 0, none⟩) n cap) cs) (k : Nat) (hk : k < n) : w.cell? ⟨g, k, none⟩ = cs[k]? ∧ w.frozen? ⟨g, k, none⟩ = false := by
  have o := h.own
  rw [← h.len] at o
  exact ⟨o.cellAt k (by omega), o.frozenAt k⟩
/-- A cell is laid. -/
theorem Raw.store {w : World} {b g n cap : Nat} {room front count : Int} {cs : List Value} (h : Raw w b room front count (.slice (some ⟨g, 0, none⟩) n cap) cs) (k : Nat) (u : Value) (hu : u.oneCell' = true) :
    Raw (w.setCell ⟨g, k, none⟩ u) b room front count (.slice (some ⟨g, 0, none⟩) n cap) (cs.set k u) ∧ Only [g] w (w.setCell ⟨g, k, none⟩ u) := by
  have hg := h.gt g rfl
  have o := h.own
  rw [← h.len] at o
  refine ⟨⟨?_, ?_, fun z hz => ?_, by simpa using h.few⟩, (Only.refl _ w).setCell (p := ⟨g, k, none⟩) (by simp) _⟩
  · rw [Below.heap_setCell _ _ _ _ (by show b ≠ g; omega)]; exact h.blk
  · have := (o.stored k u).1; rw [h.len] at this ⊢; simpa using this
  · rcases List.mem_or_eq_of_mem_set hz with hz | rfl
    · exact h.one z hz
    · exact hu
theorem Raw.count {w : World} {b : Nat} {room front count : Int} {v : Value} {cs : List Value} (h : Raw w b room front count v cs) (p : Int) : Raw (w.setCell ⟨b, 3, none⟩ (.int .i64 p)) b room front p v cs ∧ Only [b] w (w.setCell ⟨b, 3, none⟩ (.int .i64 p)) := by
  refine ⟨⟨?_, ownsRow_setCell_below h.own (show b < b + 1 by omega) _, h.one, h.few⟩, (Only.refl _ w).setCell (p := ⟨b, 3, none⟩) (by simp) _⟩
  have := heap_setCell_same w b 3 _ _ (.int .i64 p) h.blk
  simpa using this
theorem Raw.front {w : World} {b : Nat} {room front count : Int} {v : Value} {cs : List Value} (h : Raw w b room front count v cs) (p : Int) : Raw (w.setCell ⟨b, 2, none⟩ (.int .i64 p)) b room p count v cs ∧ Only [b] w (w.setCell ⟨b, 2, none⟩ (.int .i64 p)) := by
  refine ⟨⟨?_, ownsRow_setCell_below h.own (show b < b + 1 by omega) _, h.one, h.few⟩, (Only.refl _ w).setCell (p := ⟨b, 2, none⟩) (by simp) _⟩
  have := heap_setCell_same w b 2 _ _ (.int .i64 p) h.blk
  simpa using this

theorem link_put {F n g cap : Nat} {cs : List Value} {q : List Int} (x : Int) (hn : cs.length = n) (hF : F < n) (hq : q.length < n) (hl : ∀ i, i < q.length → cs[(F + i) % n]? = q[i]?.map mkI) :
    Link F (.slice (some ⟨g, 0, none⟩) n cap) (cs.set ((F + q.length) % n) (mkI x)) (q ++ [x]) := by
  refine .inr ⟨by simp; omega, by simp; omega, fun i hi => ?_⟩
  simp only [List.length_set, hn]
  simp at hi
  by_cases e : i = q.length
  · subst e
    rw [List.getElem?_set_self (by rw [hn]; exact Nat.mod_lt _ (by omega))]
    simp
  · rw [List.getElem?_set_ne, hl i (by omega), List.getElem?_append_left (by omega)]
    rw [modF hF (by omega), modF hF (by omega)]
    split <;> split <;> omega

set_option maxHeartbeats 400000 in
theorem put_full {b : Nat} {room : Int} {v : Value} {q : List Int} (x : Int) (w : World) (h : Rings w b room v q) (hfull : room ≤ q.length) :
    Calls Try.prog 48 #[.pointer (some ⟨b, 0, none⟩), mkI x] w fun e w' => e = .returned (.bool false) ∧ Below w.heap.size w w' := by
  have hle := h.len_le
  obtain ⟨F, cs, hr, hl, h0, h1, h2⟩ := h
  have hz : room - (q.length : Int) = 0 := by omega
  clear hl
  go_enter Try.func48, Try.ntmps48
  go_wp2_with (go_at_call 53; refine (room_raw _ hr (by omega) (by omega) h0 h1).mono ?_; rintro e w1 ⟨rfl, g1⟩)
  go_ret
  exact ⟨rfl, g1⟩

set_option maxHeartbeats 2000000 in
set_option maxRecDepth 100000 in
theorem put_nil {b : Nat} {room : Int} (x : Int) (w : World) (hr : Raw w b room 0 0 (.slice none 0 0) []) (h0 : 0 < room) (h1 : room ≤ 1000) :
    Calls Try.prog 48 #[.pointer (some ⟨b, 0, none⟩), mkI x] w fun e w' => ∃ g, e = .returned (.bool true) ∧ w.heap.size ≤ g ∧ Raw w' b room 0 1 (.slice (some ⟨g, 0, none⟩) 1 1) [mkI x] ∧ Only [b] w w' := by
  have gn := fun w h => grow_nil (b := b) (room := room) w h (by omega) h1
  have hz : ¬ room = 0 := by omega
  unfold mkI
  go_enter Try.func48, Try.ntmps48
  go_wp2_with (go_at_call 53; refine (room_raw _ hr (by omega) (by omega) (by omega) h1).mono ?_; rintro e w1 ⟨rfl, g1⟩; have r1 := hr.below g1; have c1 := r1.c1; have c3 := r1.c3)
  go_quiet (fail)
  generalize hW2 : w1.drewN _ = W2
  have g2 : Below w1.heap.size w1 W2 := by rw [← hW2]; exact below_drewN _ _
  replace r1 := r1.below g2
  clear hW2 c1 c3
  go_wp2_with (go_at_call 76; refine (gn _ r1).mono ?_; rintro e w3 ⟨rfl, r2, o3⟩)
  have c1 := r2.c1
  have c3 := r2.c3
  have gb := r2.gt W2.heap.size rfl
  have bg : ¬ b = W2.heap.size := by omega
  have bg' : ¬ W2.heap.size = b := by omega
  have bl := r2.lt
  have hk : (0 + 0) % 1 = 0 := rfl
  have hkn : 0 < 1 := by omega
  obtain ⟨u, hu⟩ : ∃ u, ([(.int .i64 0 : Value)] : List Value)[0]? = some u := ⟨_, List.getElem?_eq_getElem (by have := r2.len; omega)⟩
  have cu := (r2.at 0 hkn).1.trans hu
  have fu := (r2.at 0 hkn).2
  have HK : Hid ((0 + 0) % 1 = 0) := hk
  have ca := fun w h => HK.out ▸ cell_raw (b := b) (room := room) (count := 0) (ad := some ⟨W2.heap.size, 0, none⟩) (cap := 1) (cs := [.int .i64 0]) 0 0 w h (n := 1) (by omega) (by omega) (by omega) (by omega)
  have R2 : Hid (Raw w3 b room 0 0 (.slice (some ⟨W2.heap.size, 0, none⟩) 1 1) ([.int .i64 0])) := r2
  clear r2 hu hk
  go_region_held3 (fun w' => w'.cell? ⟨b, 1, none⟩ = some (.slice (some ⟨W2.heap.size, 0, none⟩) 1 1) ∧ w'.cell? ⟨b, 3, none⟩ = some (.int .i64 0)) (go_keep)
    (first | (go_at_call 77; refine (ca _ R2.out.drew).mono ?_; rintro e w5 ⟨rfl, g5⟩; have d1 := (g5.cell (p := ⟨b, 1, none⟩) bl).trans c1; have d3 := (g5.cell (p := ⟨b, 3, none⟩) bl).trans c3; have du := (g5.cell (p := ⟨W2.heap.size, 0, none⟩) gb.2).trans cu; have df := (g5.frozen (p := ⟨W2.heap.size, 0, none⟩) gb.2).trans fu))
  obtain ⟨r6, o6⟩ := (R2.out.drew.below g5).store 0 (.int .i64 x) rfl
  generalize hW6 : (w5.setCell ⟨W2.heap.size, 0, none⟩ (.int .i64 x)) = W6 at r6 o6 ⊢
  have c3' := r6.c3
  have f3' := r6.fz 3
  have R6 : Hid (Raw W6 b room 0 0 (.slice (some ⟨W2.heap.size, 0, none⟩) 1 1) (([.int .i64 0]).set 0 (.int .i64 x))) := r6
  clear r6 hW6 c1 c3 cu fu d1 d3 du df
  go_wp2
  go_ret
  obtain ⟨r7, o7⟩ := R6.out.count (0 + 1)
  have s1 := g1.size
  have s2 := g2.size
  have s3 := o3.size
  have ow : Only [b] w W2 := (Below.only g1 _).trans (Below.only g2 []) (by simp)
  exact ⟨W2.heap.size, rfl, by omega, r7, (((((ow.trans o3 (fun k hk => .inl hk)).drew).trans (Below.only g5 []) (by simp)).trans o6 (fun k hk => .inr (by simp at hk; omega)))).trans o7 (fun k hk => .inl hk)⟩

set_option maxHeartbeats 2000000 in
set_option maxRecDepth 100000 in
theorem put_grow {b g m cap : Nat} {room : Int} {cs : List Value} (F : Nat) (x : Int) (w : World) (hr : Raw w b room F m (.slice (some ⟨g, 0, none⟩) m cap) cs) (hF : F < m) (h0 : (m : Int) < room) (h1 : room ≤ 1000) :
    Calls Try.prog 48 #[.pointer (some ⟨b, 0, none⟩), mkI x] w fun e w' => ∃ N g2, e = .returned (.bool true) ∧ w.heap.size ≤ g2 ∧ m < N ∧ (N : Int) ≤ room ∧ Raw w' b room (0 : Nat) (m + 1 : Nat) (.slice (some ⟨g2, 0, none⟩) N N) ((cs.drop F ++ cs.take F ++ List.replicate (N - m) (.int .i64 0 : Value)).set m (mkI x)) ∧ Only [b] w w' := by
  have hlen := hr.len.symm
  have HL : Hid (cs.length = m) := hlen
  have gn := fun w h => grow_some (b := b) (room := room) (g := g) (cap := cap) (n := m) (cs := cs) F w h HL.out hF h0 h1
  have hz : ¬ room - (m : Int) = 0 := by omega
  have hm1 : m ≤ 1000 := by omega
  clear hlen
  unfold mkI
  go_enter Try.func48, Try.ntmps48
  go_wp2_with (go_at_call 53; refine (room_raw _ hr (by omega) (by omega) (by omega) h1).mono ?_; rintro e w1 ⟨rfl, g1⟩; have r1 := hr.below g1; have c1 := r1.c1; have c3 := r1.c3)
  go_quiet (fail)
  generalize hW2 : w1.drewN _ = W2
  have g2 : Below w1.heap.size w1 W2 := by rw [← hW2]; exact below_drewN _ _
  replace r1 := r1.below g2
  clear hW2 c1 c3
  go_wp2_with (go_at_call 76; refine (gn _ r1).mono ?_; rintro e w3 ⟨N, rfl, hN1, hN2, r2, o3⟩)
  obtain ⟨ds, hds⟩ : ∃ ds, ds = cs.drop F ++ cs.take F ++ List.replicate (N - m) (.int .i64 0 : Value) := ⟨_, rfl⟩
  rw [← hds] at r2
  have HD : Hid (ds = cs.drop F ++ cs.take F ++ List.replicate (N - m) (.int .i64 0 : Value)) := hds
  clear hds
  have c1 := r2.c1
  have c3 := r2.c3
  have gb := r2.gt W2.heap.size rfl
  have bg : ¬ b = W2.heap.size := by omega
  have bg' : ¬ W2.heap.size = b := by omega
  have bl := r2.lt
  obtain ⟨k, hk⟩ : ∃ k, (0 + m) % N = k := ⟨_, rfl⟩
  have hkn : k < N := by rw [← hk]; exact Nat.mod_lt _ (by omega)
  obtain ⟨u, hu⟩ : ∃ u, (ds)[k]? = some u := ⟨_, List.getElem?_eq_getElem (by have := r2.len; omega)⟩
  have cu := (r2.at k hkn).1.trans hu
  have fu := (r2.at k hkn).2
  have HK : Hid ((0 + m) % N = k) := hk
  have ca := fun w h => HK.out ▸ cell_raw (b := b) (room := room) (count := m) (ad := some ⟨W2.heap.size, 0, none⟩) (cap := N) (cs := ds) 0 m w h (n := N) (by omega) (by omega) (by omega) (by omega)
  have R2 : Hid (Raw w3 b room 0 m (.slice (some ⟨W2.heap.size, 0, none⟩) N N) (ds)) := r2
  clear r2 hu hk
  go_region_held3 (fun w' => w'.cell? ⟨b, 1, none⟩ = some (.slice (some ⟨W2.heap.size, 0, none⟩) N N) ∧ w'.cell? ⟨b, 3, none⟩ = some (.int .i64 m)) (go_keep)
    (first | (go_at_call 77; refine (ca _ R2.out.drew).mono ?_; rintro e w5 ⟨rfl, g5⟩; have d1 := (g5.cell (p := ⟨b, 1, none⟩) bl).trans c1; have d3 := (g5.cell (p := ⟨b, 3, none⟩) bl).trans c3; have du := (g5.cell (p := ⟨W2.heap.size, k, none⟩) gb.2).trans cu; have df := (g5.frozen (p := ⟨W2.heap.size, k, none⟩) gb.2).trans fu))
  obtain ⟨r6, o6⟩ := (R2.out.drew.below g5).store k (.int .i64 x) rfl
  generalize hW6 : (w5.setCell ⟨W2.heap.size, k, none⟩ (.int .i64 x)) = W6 at r6 o6 ⊢
  have c3' := r6.c3
  have f3' := r6.fz 3
  have R6 : Hid (Raw W6 b room 0 m (.slice (some ⟨W2.heap.size, 0, none⟩) N N) ((ds).set k (.int .i64 x))) := r6
  clear r6 hW6 c1 c3 cu fu d1 d3 du df
  go_wp2
  go_ret
  obtain ⟨r7, o7⟩ := R6.out.count (m + 1)
  have k0 : k = m := by rw [← HK.out, Nat.zero_add]; exact Nat.mod_eq_of_lt hN1
  subst k0
  have s1 := g1.size
  have s2 := g2.size
  have s3 := o3.size
  have ow : Only [b] w W2 := (Below.only g1 _).trans (Below.only g2 []) (by simp)
  rw [HD.out] at r7
  exact ⟨N, W2.heap.size, rfl, by omega, hN1, hN2, by simpa using r7, (((((ow.trans o3 (fun k hk => .inl hk)).drew).trans (Below.only g5 []) (by simp)).trans o6 (fun k hk => .inr (by simp at hk; omega)))).trans o7 (fun k hk => .inl hk)⟩

set_option maxHeartbeats 2000000 in
set_option maxRecDepth 100000 in
theorem put_room {b g m n cap : Nat} {room : Int} {cs : List Value} (F : Nat) (x : Int) (w : World) (hr : Raw w b room F m (.slice (some ⟨g, 0, none⟩) n cap) cs) (hF : F < n) (hm : m < n) (hn : n ≤ 1000) (h0 : (m : Int) < room) (h1 : room ≤ 1000) :
    Calls Try.prog 48 #[.pointer (some ⟨b, 0, none⟩), mkI x] w fun e w' => e = .returned (.bool true) ∧ Raw w' b room F (m + 1 : Nat) (.slice (some ⟨g, 0, none⟩) n cap) (cs.set ((F + m) % n) (mkI x)) ∧ Only [b, g] w w' := by
  have hz : ¬ room - (m : Int) = 0 := by omega
  have hne : ¬ (m : Int) = (n : Int) := by omega
  have hne' : ¬ m = n := by omega
  unfold mkI
  go_enter Try.func48, Try.ntmps48
  go_wp2_with (go_at_call 53; refine (room_raw _ hr (by omega) (by omega) (by omega) h1).mono ?_; rintro e w1 ⟨rfl, g1⟩; have r1 := hr.below g1; have c1 := r1.c1; have c3 := r1.c3)
  go_quiet (fail)
  generalize hW2 : w1.drewN _ = W2
  have g2 : Below w1.heap.size w1 W2 := by rw [← hW2]; exact below_drewN _ _
  have r2 := r1.below g2
  clear hW2 c1 c3 r1
  go_wp2
  have c1 := r2.c1
  have c3 := r2.c3
  have gb := r2.gt g rfl
  have bg : ¬ b = g := by omega
  have bg' : ¬ g = b := by omega
  have bl := r2.lt
  obtain ⟨k, hk⟩ : ∃ k, (F + m) % n = k := ⟨_, rfl⟩
  have hkn : k < n := by rw [← hk]; exact Nat.mod_lt _ (by omega)
  obtain ⟨u, hu⟩ : ∃ u, (cs)[k]? = some u := ⟨_, List.getElem?_eq_getElem (by have := r2.len; omega)⟩
  have cu := (r2.at k hkn).1.trans hu
  have fu := (r2.at k hkn).2
  have HK : Hid ((F + m) % n = k) := hk
  have ca := fun w h => HK.out ▸ cell_raw (b := b) (room := room) (count := m) (ad := some ⟨g, 0, none⟩) (cap := cap) (cs := cs) F m w h (n := n) (by omega) (by omega) (by omega) (by omega)
  have R2 : Hid (Raw W2 b room F m (.slice (some ⟨g, 0, none⟩) n cap) (cs)) := r2
  clear r2 hu hk
  go_region_held3 (fun w' => w'.cell? ⟨b, 1, none⟩ = some (.slice (some ⟨g, 0, none⟩) n cap) ∧ w'.cell? ⟨b, 3, none⟩ = some (.int .i64 m)) (go_keep)
    (first | (go_at_call 77; refine (ca _ R2.out.drew).mono ?_; rintro e w5 ⟨rfl, g5⟩; have d1 := (g5.cell (p := ⟨b, 1, none⟩) bl).trans c1; have d3 := (g5.cell (p := ⟨b, 3, none⟩) bl).trans c3; have du := (g5.cell (p := ⟨g, k, none⟩) gb.2).trans cu; have df := (g5.frozen (p := ⟨g, k, none⟩) gb.2).trans fu))
  obtain ⟨r6, o6⟩ := (R2.out.drew.below g5).store k (.int .i64 x) rfl
  generalize hW6 : (w5.setCell ⟨g, k, none⟩ (.int .i64 x)) = W6 at r6 o6 ⊢
  have c3' := r6.c3
  have f3' := r6.fz 3
  have R6 : Hid (Raw W6 b room F m (.slice (some ⟨g, 0, none⟩) n cap) ((cs).set k (.int .i64 x))) := r6
  clear r6 hW6 c1 c3 cu fu d1 d3 du df
  go_wp2
  go_ret
  obtain ⟨r7, o7⟩ := R6.out.count (m + 1)
  have ow : Only [b, g] w W2 := (Below.only g1 _).trans (Below.only g2 []) (by simp)
  rw [HK.out]
  exact ⟨rfl, by simpa using r7, ((ow.drew.trans (Below.only g5 []) (by simp)).trans o6 (fun k hk => .inl (by simp at hk; simp [hk]))).trans o7 (fun k hk => .inl (by simp at hk; simp [hk]))⟩

end Go.Proofs.Ytbfbijfedamgaaa.RI
