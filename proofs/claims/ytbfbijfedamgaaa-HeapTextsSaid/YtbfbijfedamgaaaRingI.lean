/- The ring of int in memory; the contracts of New, Len, Room, cell, grow. -/
import Derived.Test.YtbfbijfedamgaaaSameI
import Derived.Laws.CopyOwn
import Derived.Laws.MakeOwn
import Derived.OwnWalk
namespace Go.Proofs.Ytbfbijfedamgaaa.RI
open Go.RowKit

/-- The ring's own block and its cells. -/
structure Raw (w : World) (b : Nat) (room front count : Int) (v : Value) (cs : List Value) : Prop where
  blk : w.heap[b]? = some (.cells #[.int .i64 room, v, .int .i64 front, .int .i64 count] 126 (0, 0))
  own : w.ownsRow (b + 1) 3 1 v cs.length cs
  one : ∀ u ∈ cs, u.oneCell' = true
  few : cs.length ≤ 1000

theorem Raw.c0 {w : World} {b : Nat} {room front count : Int} {v : Value} {cs : List Value} (h : Raw w b room front count v cs) : w.cell? ⟨b, 0, none⟩ = some (.int .i64 room) := by simp [World.cell?, h.blk]
theorem Raw.c1 {w : World} {b : Nat} {room front count : Int} {v : Value} {cs : List Value} (h : Raw w b room front count v cs) : w.cell? ⟨b, 1, none⟩ = some v := by simp [World.cell?, h.blk]
theorem Raw.c2 {w : World} {b : Nat} {room front count : Int} {v : Value} {cs : List Value} (h : Raw w b room front count v cs) : w.cell? ⟨b, 2, none⟩ = some (.int .i64 front) := by simp [World.cell?, h.blk]
theorem Raw.c3 {w : World} {b : Nat} {room front count : Int} {v : Value} {cs : List Value} (h : Raw w b room front count v cs) : w.cell? ⟨b, 3, none⟩ = some (.int .i64 count) := by simp [World.cell?, h.blk]
theorem Raw.fz {w : World} {b : Nat} {room front count : Int} {v : Value} {cs : List Value} (h : Raw w b room front count v cs) (o : Nat) : w.frozen? ⟨b, o, none⟩ = false := by simp [World.frozen?, h.blk]
theorem Raw.lt {w : World} {b : Nat} {room front count : Int} {v : Value} {cs : List Value} (h : Raw w b room front count v cs) : b < w.heap.size := (Array.getElem?_eq_some_iff.1 h.blk).1
theorem Raw.gt {w : World} {b : Nat} {room front count : Int} {v : Value} {cs : List Value} (h : Raw w b room front count v cs) : ∀ k, v.ownBlock = some k → b < k ∧ k < w.heap.size := fun k hk => by have := h.own.lt k hk; omega
theorem Raw.slice {w : World} {b : Nat} {room front count : Int} {v : Value} {cs : List Value} (h : Raw w b room front count v cs) : ∃ a cap, v = .slice a cs.length cap := by
  rcases h.own.2 with ⟨rfl, hn⟩ | ⟨g, cap, cur, rfl, _⟩
  · exact ⟨none, 0, by rw [hn]⟩
  · exact ⟨_, _, rfl⟩
/-- What turns none of its blocks leaves it. -/
theorem Raw.only {w w' : World} {b : Nat} {room front count : Int} {v : Value} {cs : List Value} (h : Raw w b room front count v cs) {S : List Nat} (g : Only S w w') (hS : ∀ k ∈ foot b v, k ∉ S) : Raw w' b room front count v cs := by
  refine ⟨by rw [g.block b h.lt (hS b mem_foot)]; exact h.blk, ?_, h.one, h.few⟩
  obtain ⟨h1, h2⟩ := h.own
  refine ⟨h1, ?_⟩
  rcases h2 with h2 | ⟨gb, cap, cur, rfl, hb, hh, r⟩
  · exact .inl h2
  · exact .inr ⟨gb, cap, cur, rfl, hb, by rw [g.block gb (Array.getElem?_eq_some_iff.1 hh).1 (hS gb mem_foot_slice)]; exact hh, r⟩
theorem Raw.below {w w' : World} {b : Nat} {room front count : Int} {v : Value} {cs : List Value} (h : Raw w b room front count v cs) (g : Below w.heap.size w w') : Raw w' b room front count v cs :=
  h.only (Below.only g []) (by simp)
theorem Raw.foot_lt {w : World} {b : Nat} {room front count : Int} {v : Value} {cs : List Value} (h : Raw w b room front count v cs) : ∀ k ∈ foot b v, k < w.heap.size := by
  intro k hk
  simp only [foot, List.mem_cons, Option.mem_toList] at hk
  rcases hk with rfl | hk
  · exact h.lt
  · exact (h.gt k hk).2

theorem infoT : (Try.prog.info? 3).map (fun i => (i.zero, i.size, i.bytes)) = some (some (.int .i64 0), 1, 8) := by kernel_rfl
theorem infoU : (Try.prog.info? 3).map (·.size) = some 1 := by kernel_rfl

theorem made (N : Nat) (hN : N ≤ 1000) (w : World) : (Instr.makeSlice 59 (.int .i64 (N : Int)) (.int .i64 (N : Int))).run Try.prog w = .ok (.slice (some ⟨w.heap.size, 0, none⟩) N N) (w.alloc (.cells (List.replicate N (.int .i64 0)).toArray 3)) := by
  obtain ⟨i0, hi0, hz0, hz1, hz2⟩ := info_parts infoT
  have h := run_makeSlice (P := Try.prog) w 59 3 i0 (.int .i64 0) Try.underlying59 hi0 hz0 .i64 .i64 (N : Int) (N : Int) (by omega) (by omega) (by rw [hz1]; simp; omega) (by rw [hz2]; omega) (by omega)
  rw [hz1] at h
  have e : madeCells (Value.cells (.int .i64 0)) (N * 1) = (List.replicate N (.int .i64 0)).toArray := by
    have := toList_madeCells_one (.int .i64 0) N
    apply Array.toList_inj.1
    rw [Nat.mul_one]
    show (madeCells #[.int .i64 0] N).toList = _
    rw [this]
  simp only [Int.toNat_natCast] at h
  rw [e] at h
  exact h

/-- New cells are laid into the ring's own block. -/
theorem Raw.laid {W : World} {b g N : Nat} {room f n : Int} {v : Value} {cs : List Value} (blk : W.heap[b]? = some (.cells #[.int .i64 room, v, .int .i64 f, .int .i64 n] 126 (0, 0)))
    (row : W.heap[g]? = some (.cells cs.toArray 3 (0, 0))) (hN : cs.length = N) (hg : b < g) (hN1 : N ≤ 1000) (one : ∀ u ∈ cs, u.oneCell' = true) :
    Raw ((W.setCell ⟨b, 1, none⟩ (.slice (some ⟨g, 0, none⟩) N N)).setCell ⟨b, 2, none⟩ (.int .i64 0)) b room 0 n (.slice (some ⟨g, 0, none⟩) N N) cs := by
  subst hN
  refine ⟨?_, ⟨by simp, .inr ⟨g, cs.length, cs.toArray, rfl, hg, ?_, Nat.le_refl _, by unfold maxLen; omega, by simp, by simp⟩⟩, one, hN1⟩
  · have a := heap_setCell_same W b 1 _ _ (.slice (some ⟨g, 0, none⟩) cs.length cs.length) blk
    have c := heap_setCell_same _ b 2 _ _ (.int .i64 0) a
    simpa using c
  · rw [Below.heap_setCell _ _ _ _ (by show g ≠ b; omega), Below.heap_setCell _ _ _ _ (by show g ≠ b; omega)]
    exact row
theorem block_add (a : Addr) (j : Nat) : (a.add j).block = a.block := by unfold Addr.add; split <;> rfl
theorem splice_two (Z A B : List Value) (n F : Nat) (hA : A.length = n - F) (hB : B.length = F) (hF : F ≤ n) : splice (splice Z 0 A) (n - F) B = A ++ B ++ Z.drop n := by
  have e : splice Z 0 A = A ++ Z.drop (n - F) := by simp [splice, hA]
  rw [e]
  unfold splice
  rw [List.take_append_of_le_length (by omega), List.take_of_length_le (by omega), hB, List.drop_append, List.drop_of_length_le (by omega), hA, List.drop_drop]
  simp only [List.nil_append, List.append_assoc]
  congr 3
  omega

set_option maxHeartbeats 1000000 in
set_option maxRecDepth 100000 in
theorem grow_some {b g n cap : Nat} {room : Int} {cs : List Value} (F : Nat) (w : World) (h : Raw w b room F n (.slice (some ⟨g, 0, none⟩) n cap) cs) (hn : cs.length = n) (hF : F < n) (hroom : (n : Int) < room) (hr1 : room ≤ 1000) :
    Calls Try.prog 76 #[.pointer (some ⟨b, 0, none⟩)] w fun e w' => ∃ N, e = .returned (.tuple #[]) ∧ n < N ∧ (N : Int) ≤ room ∧ Raw w' b room 0 n (.slice (some ⟨w.heap.size, 0, none⟩) N N) (cs.drop F ++ cs.take F ++ List.replicate (N - n) (.int .i64 0)) ∧ Only [b] w w' := by
  have c0 := h.c0
  have c1 := h.c1
  have c2 := h.c2
  have c3 := h.c3
  obtain ⟨N, hN⟩ : ∃ N : Nat, (if room < 2 * (n : Int) + 1 then room else 2 * (n : Int) + 1) = (N : Int) := ⟨(if room < 2 * (n : Int) + 1 then room else 2 * (n : Int) + 1).toNat, by split <;> omega⟩
  have h12 : n < N ∧ (N : Int) ≤ room := by split at hN <;> omega
  have mk := made N (by omega)
  obtain ⟨h1, h2⟩ := h12
  have hcap : n ≤ cap := by
    rcases h.own.2 with ⟨e, _⟩ | ⟨g', cap', cur', e, _, _, hc, _⟩
    · simp at e
    · simp at e; omega
  have hcap9 : cap ≤ 9223372036854775807 := by
    rcases h.own.2 with ⟨e, _⟩ | ⟨g', cap', cur', e, _, _, _, hc, _⟩
    · simp at e
    · simp at e; unfold maxLen at hc; omega
  have gb := h.gt g rfl
  have bl := h.lt
  have HN : Hid (cs.length = n) := hn
  have H0 : Hid (Raw w b room F n (.slice (some ⟨g, 0, none⟩) n cap) cs) := h
  clear hn h
  go_enter Try.func76, Try.ntmps76
  go_wp2
  go_region
  have g1 : Below w.heap.size w (w.alloc (.cells (Array.replicate N (.int .i64 0)) 3)).drew := ((Below.refl _ _).alloc (Nat.le_refl _) _).drew
  have row1 : (w.alloc (.cells (Array.replicate N (.int .i64 0)) 3)).drew.heap[w.heap.size]? = some (.cells (List.replicate N (.int .i64 0)).toArray 3 (0, 0)) := by
    have := heap_alloc_new w (.cells (Array.replicate N (.int .i64 0)) 3)
    rw [List.toArray_replicate]; exact this
  have s1 : w.heap.size < (w.alloc (.cells (Array.replicate N (.int .i64 0)) 3)).drew.heap.size := by simp
  generalize (w.alloc (.cells (Array.replicate N (.int .i64 0)) 3)).drew = W1 at g1 row1 s1 ⊢
  have r1 := H0.out.below g1
  have k1 := c1
  have k2 := c2
  clear c0 c1 c2 c3
  have c1 := r1.c1
  have c2 := r1.c2
  have R1 : Hid (Raw W1 b room F n (.slice (some ⟨g, 0, none⟩) n cap) cs) := r1
  have ROW1 : Hid (W1.heap[w.heap.size]? = some (.cells (List.replicate N (.int .i64 0)).toArray 3 (0, 0))) := row1
  clear r1 row1 hN mk
  have f1 : (F : Int) ≤ (n : Int) := by omega
  have f2 : ¬ cap = F := by omega
  have f3 : ¬ N = n - F := by omega
  obtain ⟨X1, hX1⟩ : ∃ X, X = cs.drop F := ⟨_, rfl⟩
  obtain ⟨X2, hX2⟩ : ∃ X, X = cs.take F := ⟨_, rfl⟩
  have HX : Hid (X1 = cs.drop F ∧ X2 = cs.take F) := ⟨hX1, hX2⟩
  clear hX1 hX2
  obtain ⟨m1, hm1⟩ : ∃ m, X1.length = m := ⟨_, rfl⟩
  obtain ⟨m2, hm2⟩ : ∃ m, X2.length = m := ⟨_, rfl⟩
  have hm1' : m1 = n - F := by rw [← hm1, HX.out.1, List.length_drop, HN.out]
  have hm2' : m2 = F := by rw [← hm2, HX.out.2, List.length_take, HN.out]; omega
  have L1 : Hid (m1 = n - F ∧ m2 = F) := ⟨hm1', hm2'⟩
  clear hm1' hm2'
  have hmN : m1 < N := by have := L1.out; omega
  have hmN' : ¬ N = m1 := by omega
  have hmI : (m1 : Int) ≤ (N : Int) := by omega
  have fI : (F : Int) ≤ (cap : Int) := by omega
  have f0 : (0 : Int) ≤ (F : Int) := by omega
  have m0 : (0 : Int) ≤ (m1 : Int) := by omega
  have P1 : Hid (∀ j v, X1[j]? = some v → W1.cell? ((⟨g, F, none⟩ : Addr).add j) = some v) := by
    intro j v hv
    rw [HX.out.1, List.getElem?_drop] at hv
    have o := R1.out.own
    rw [HN.out] at o
    have jl := (List.getElem?_eq_some_iff.1 hv).1
    have := o.cellAt (F + j) (by rw [HN.out] at jl; omega)
    rw [hv] at this
    by_cases e : j = 0
    · subst e; simpa [Addr.add] using this
    · simpa [Addr.add, e] using this
  have Q1 : Hid (∀ v ∈ X1, v.oneCell' = true) := fun v hv => R1.out.one v (by rw [HX.out.1] at hv; exact List.mem_of_mem_drop hv)
  have Q2 : Hid (∀ v ∈ X2, v.oneCell' = true) := fun v hv => R1.out.one v (by rw [HX.out.2] at hv; exact List.mem_of_mem_take hv)
  have P2 : Hid (∀ j v, X2[j]? = some v → w.cell? ((⟨g, 0, none⟩ : Addr).add j) = some v) := by
    intro j v hv
    rw [HX.out.2, List.getElem?_take] at hv
    have o := H0.out.own
    rw [HN.out] at o
    split at hv
    · have jl := (List.getElem?_eq_some_iff.1 hv).1
      have := o.cellAt j (by rw [HN.out] at jl; omega)
      rw [hv] at this
      by_cases e : j = 0
      · subst e; simpa [Addr.add] using this
      · simpa [Addr.add, e] using this
    · simp at hv
  clear f3
  go_wp2
  go_region_held3 (fun w' => w'.cell? ⟨b, 1, none⟩ = some (.slice (some ⟨g, 0, none⟩) n cap) ∧ w'.cell? ⟨b, 2, none⟩ = some (.int .i64 F)) (go_keep)
    (first | (refine step_copy_splice rfl (.tmp 16) (.tmp 25) 59 59 rfl 3 Try.underlying59 infoU (some ⟨w.heap.size, 0, none⟩) (some ⟨g, F, none⟩) N N (n - F) (cap - F) (by simp [Act.eval]) (by simp [Act.eval]) w.heap.size 0 (List.replicate N (.int .i64 0)) 3 ROW1.out X1 (by rw [hm1]; have := L1.out; show _ = min _ _; omega) (fun _ => ⟨rfl, _, rfl, P1.out⟩) (by rw [hm1]; simp; omega) Q1.out w.heap.size w g1.drew (Nat.le_refl _) ?_; intro W2 ROW2 g2; have d1 := (g2.cell (p := ⟨b, 1, none⟩) bl).trans k1; have d2 := (g2.cell (p := ⟨b, 2, none⟩) bl).trans k2))
  clear c1 c2 g1 P1 Q1 R1 s1
  go_wp2
  go_region_held3 (fun w' => w'.cell? ⟨b, 1, none⟩ = some (.slice (some ⟨g, 0, none⟩) n cap) ∧ w'.cell? ⟨b, 2, none⟩ = some (.int .i64 F)) (go_keep)
    (first | (refine step_copy_splice rfl (.tmp 29) (.tmp 38) 59 59 rfl 3 Try.underlying59 infoU (some ⟨w.heap.size, m1, none⟩) (some ⟨g, 0, none⟩) (N - m1) (N - m1) F cap (by simp [Act.eval]) (by simp [Act.eval]) w.heap.size m1 (splice (List.replicate N (.int .i64 0)) 0 X1) 3 ROW2.out X2 (by rw [hm2]; have := L1.out; show _ = min _ _; omega) (fun _ => ⟨rfl, _, rfl, fun j v hv => (g2.cell (p := (⟨g, 0, none⟩ : Addr).add j) (by rw [block_add]; exact gb.2)).trans (P2.out j v hv)⟩) (by rw [length_splice _ _ _ (by rw [hm1]; simp; omega), hm2]; have := L1.out; simp; omega) Q2.out w.heap.size w g2.drew (Nat.le_refl _) ?_; intro W3 ROW3 g3; have e1 := (g3.cell (p := ⟨b, 1, none⟩) bl).trans k1; have e2 := (g3.cell (p := ⟨b, 2, none⟩) bl).trans k2))
  have blk3 := (g3.block b bl).trans H0.out.blk
  have fb : ∀ o, W3.frozen? ⟨b, o, none⟩ = false := fun o => by simp [World.frozen?, blk3]
  have BLK : Hid (W3.heap[b]? = some (.cells #[.int .i64 room, .slice (some ⟨g, 0, none⟩) n cap, .int .i64 F, .int .i64 n] 126 (0, 0))) := blk3
  clear blk3
  go_wp2
  go_end0
  have sp := splice_two (List.replicate N (.int .i64 0)) X1 X2 n F (by rw [hm1]; exact L1.out.1) (by rw [hm2]; exact L1.out.2) (by omega)
  have row := ROW3.out
  rw [L1.out.1, sp, HX.out.1, HX.out.2, List.drop_replicate] at row
  exact ⟨N, rfl, h1, h2, Raw.laid (N := N) BLK.out row (by have := HN.out; simp; omega) (by omega) (by omega) (fun u hu => by
    rcases List.mem_append.1 hu with hu | hu
    · rcases List.mem_append.1 hu with hu | hu
      · exact H0.out.one u (List.mem_of_mem_drop hu)
      · exact H0.out.one u (List.mem_of_mem_take hu)
    · rw [List.eq_of_mem_replicate hu]; rfl), ((Below.only g3 [b]).setCell (p := ⟨b, 1, none⟩) (by simp) _).setCell (p := ⟨b, 2, none⟩) (by simp) _⟩

set_option maxHeartbeats 1000000 in
set_option maxRecDepth 100000 in
theorem grow_nil {b : Nat} {room : Int} (w : World) (h : Raw w b room 0 0 (.slice none 0 0) []) (hroom : 0 < room) (hr1 : room ≤ 1000) :
    Calls Try.prog 76 #[.pointer (some ⟨b, 0, none⟩)] w fun e w' => e = .returned (.tuple #[]) ∧ Raw w' b room 0 0 (.slice (some ⟨w.heap.size, 0, none⟩) 1 1) [.int .i64 0] ∧ Only [b] w w' := by
  have c0 := h.c0
  have c1 := h.c1
  have c2 := h.c2
  have c3 := h.c3
  have hN : ¬ room < 1 := by omega
  have mk : ∀ w : World, (Instr.makeSlice 59 (.int .i64 1) (.int .i64 1)).run Try.prog w = .ok (.slice (some ⟨w.heap.size, 0, none⟩) 1 1) (w.alloc (.cells #[.int .i64 0] 3)) := made 1 (by omega)
  have bl := h.lt
  have H0 : Hid (Raw w b room 0 0 (.slice none 0 0) []) := h
  clear h
  go_enter Try.func76, Try.ntmps76
  go_wp2
  go_region
  have g1 : Below w.heap.size w (w.alloc (.cells #[.int .i64 0] 3)).drew := ((Below.refl _ _).alloc (Nat.le_refl _) _).drew
  have row1 : (w.alloc (.cells #[.int .i64 0] 3)).drew.heap[w.heap.size]? = some (.cells ([.int .i64 0] : List Value).toArray 3 (0, 0)) := heap_alloc_new w (.cells #[.int .i64 0] 3)
  generalize (w.alloc (.cells #[.int .i64 0] 3)).drew = W1 at g1 row1 ⊢
  have r1 := H0.out.below g1
  have k1 := c1
  have k2 := c2
  clear c0 c1 c2 c3
  have c1 := r1.c1
  have c2 := r1.c2
  have ROW1 : Hid (W1.heap[w.heap.size]? = some (.cells ([.int .i64 0] : List Value).toArray 3 (0, 0))) := row1
  clear r1 row1 hN mk
  go_wp2
  go_region_held3 (fun w' => w'.cell? ⟨b, 1, none⟩ = some (.slice none 0 0) ∧ w'.cell? ⟨b, 2, none⟩ = some (.int .i64 0)) (go_keep)
    (first | (refine step_copy_splice rfl (.tmp 16) (.tmp 25) 59 59 rfl 3 Try.underlying59 infoU (some ⟨w.heap.size, 0, none⟩) none 1 1 0 0 (by simp [Act.eval]) (by simp [Act.eval]) w.heap.size 0 [.int .i64 0] 3 ROW1.out [] rfl (by intro h; simp at h) (by simp) (by simp) w.heap.size w g1.drew (Nat.le_refl _) ?_; intro W2 ROW2 g2; have d1 := (g2.cell (p := ⟨b, 1, none⟩) bl).trans k1; have d2 := (g2.cell (p := ⟨b, 2, none⟩) bl).trans k2))
  clear c1 c2 g1
  go_wp2
  go_region_held3 (fun w' => w'.cell? ⟨b, 1, none⟩ = some (.slice none 0 0) ∧ w'.cell? ⟨b, 2, none⟩ = some (.int .i64 0)) (go_keep)
    (first | (refine step_copy_splice rfl (.tmp 29) (.tmp 38) 59 59 rfl 3 Try.underlying59 infoU (some ⟨w.heap.size, 0, none⟩) none 1 1 0 0 (by simp [Act.eval]) (by simp [Act.eval]) w.heap.size 0 (splice [.int .i64 0] 0 []) 3 ROW2.out [] rfl (by intro h; simp at h) (by simp) (by simp) w.heap.size w g2.drew (Nat.le_refl _) ?_; intro W3 ROW3 g3; have e1 := (g3.cell (p := ⟨b, 1, none⟩) bl).trans k1; have e2 := (g3.cell (p := ⟨b, 2, none⟩) bl).trans k2))
  have blk3 := (g3.block b bl).trans H0.out.blk
  have fb : ∀ o, W3.frozen? ⟨b, o, none⟩ = false := fun o => by simp [World.frozen?, blk3]
  have BLK : Hid (W3.heap[b]? = some (.cells #[.int .i64 room, .slice none 0 0, .int .i64 0, .int .i64 0] 126 (0, 0))) := blk3
  clear blk3
  go_wp2
  go_end0
  have row := ROW3.out
  simp only [splice, List.take_zero, List.nil_append, List.length_nil, Nat.add_zero, List.drop_zero] at row
  exact ⟨rfl, Raw.laid (N := 1) BLK.out row (by simp) (by omega) (by omega) (fun u hu => by simp at hu; subst hu; rfl), ((Below.only g3 [b]).setCell (p := ⟨b, 1, none⟩) (by simp) _).setCell (p := ⟨b, 2, none⟩) (by simp) _⟩
end Go.Proofs.Ytbfbijfedamgaaa.RI
