/- The contracts of the line's Next and remove at int. -/
import Derived.Test.YtbfbijfedamgaaaLineI
namespace Go.Proofs.Ytbfbijfedamgaaa.LI
open Go.RowKit
variable {w w' : World} {lb hb : Nat} {room puts : Int} {hv av : Value} {A : List (Nat × Int)} {Z : List (Ent (Nat × Int))}

/-- What turns the heap's blocks alone leaves the rest of the line. -/
theorem Lines.kept (h : Lines w lb hb room puts hv av A Z) (o : Only (foot hb hv) w w') :
    w'.heap[lb]? = some (.cells #[.pointer (some ⟨hb, 0, none⟩), av] 110 (0, 0)) ∧ w'.ownsRow (lb + 1) 107 1 av A.length (ptrs A) ∧ ∀ p ∈ A, w'.heap[p.1]? = some (.cells #[mkI p.2] 113 (0, 0)) := by
  have hk := heap_kind h.heap
  have n1 : lb ∉ foot hb hv := fun m => by
    rcases hk lb m with q | q
    · exact Kind.ne ⟨_, _, h.blk⟩ q (by decide) rfl
    · exact Kind.ne ⟨_, _, h.blk⟩ q (by decide) rfl
  refine ⟨by rw [o.block lb h.lt n1]; exact h.blk, ?_, fun p hp => ?_⟩
  · obtain ⟨h1, h2⟩ := h.own
    refine ⟨h1, ?_⟩
    rcases h2 with h2 | ⟨gb, cap, cur, rfl, hb', hh, r⟩
    · exact .inl h2
    · have n2 : gb ∉ foot hb hv := fun m => by
        rcases hk gb m with q | q
        · exact Kind.ne ⟨_, _, hh⟩ q (by decide) rfl
        · exact Kind.ne ⟨_, _, hh⟩ q (by decide) rfl
      exact .inr ⟨gb, cap, cur, rfl, hb', by rw [o.block gb (Array.getElem?_eq_some_iff.1 hh).1 n2]; exact hh, r⟩
  · have e := h.things p hp
    have n3 : p.1 ∉ foot hb hv := fun m => by
      rcases hk p.1 m with q | q
      · exact Kind.ne ⟨_, _, e⟩ q (by decide) rfl
      · exact Kind.ne ⟨_, _, e⟩ q (by decide) rfl
    rw [o.block p.1 (Array.getElem?_eq_some_iff.1 e).1 n3]
    exact e
theorem Lines.okp (h : Lines w lb hb room puts hv av A Z) {p : Nat × Int} (hp : p ∈ A) : okP w [] p.1 := ⟨⟨_, _, h.things p hp⟩, by simp⟩
/-- Of one block there is one thing. -/
theorem Lines.one (h : Lines w lb hb room puts hv av A Z) {p q : Nat × Int} (hp : p ∈ A) (hq : q ∈ A) (e : p.1 = q.1) : p = q := by
  obtain ⟨es, r, x⟩ := h.heap
  obtain ⟨z, hz, rfl⟩ := List.mem_map.1 (h.perm.mem_iff.1 hp)
  obtain ⟨y, hy, rfl⟩ := List.mem_map.1 (h.perm.mem_iff.1 hq)
  have := pair_same x.2.2.1.dis (List.mem_map.2 ⟨z, hz, rfl⟩) (List.mem_map.2 ⟨y, hy, rfl⟩) e
  have it := x.2.2.1
  have dd : (Z.map lo).Pairwise (fun x y => x.t < y.t) := it.inc
  have tt : z.t = y.t := congrArg (Ent.t (α := Nat)) this
  have zz : z = y := by
    rw [List.pairwise_map] at dd
    obtain ⟨i, hi'⟩ := List.getElem?_of_mem hz
    obtain ⟨j, hj⟩ := List.getElem?_of_mem hy
    obtain ⟨li, ei⟩ := List.getElem?_eq_some_iff.1 hi'
    obtain ⟨lj, ej⟩ := List.getElem?_eq_some_iff.1 hj
    rcases Nat.lt_trichotomy i j with hlt | heq | hlt
    · have := List.pairwise_iff_getElem.1 dd i j li lj hlt
      rw [ei, ej] at this
      simp [lo] at this; omega
    · subst heq; rw [ei] at ej; exact ej
    · have := List.pairwise_iff_getElem.1 dd j i lj li hlt
      rw [ei, ej] at this
      simp [lo] at this; omega
  rw [zz]
theorem Lines.dist (h : Lines w lb hb room puts hv av A Z) : (A.map (·.1)).Pairwise (· ≠ ·) := by
  rw [List.pairwise_map]
  have d := h.dis
  have : ∀ p ∈ A, ∀ q ∈ A, p.1 = q.1 → p = q := fun p hp q hq e => h.one hp hq e
  clear h
  induction A with
  | nil => exact .nil
  | cons a A ih =>
    rw [List.pairwise_cons] at d ⊢
    refine ⟨fun b hb e => d.1 b hb ?_, ih d.2 (fun p hp q hq => this p (by simp [hp]) q (by simp [hq]))⟩
    rw [this a (by simp) b (by simp [hb]) e]
theorem Lines.less_lo (h : Lines w lb hb room puts hv av A Z) {p : Nat × Int} (hp : p ∈ A) : (less Z p).map lo = less (Z.map lo) p.1 := by
  unfold less
  rw [List.filter_map]
  congr 1
  apply List.filter_congr
  intro z hz
  have hz' : z.v ∈ A := h.perm.mem_iff.2 (List.mem_map.2 ⟨z, hz, rfl⟩)
  show decide (z.v ≠ p) = decide (z.v.1 ≠ p.1)
  rw [decide_eq_decide]
  exact not_congr ⟨fun e => by rw [e], fun e => h.one hz' hp e⟩
theorem less_v (Z : List (Ent (Nat × Int))) (p : Nat × Int) : (less Z p).map (·.v) = (Z.map (·.v)).filter (fun q => decide (q ≠ p)) := by
  unfold less
  rw [List.filter_map]
  rfl
theorem Lines.erase (h : Lines w lb hb room puts hv av A Z) {i : Nat} {p : Nat × Int} (hp : A[i]? = some p) : (A.eraseIdx i).Perm ((less Z p).map (·.v)) := by
  rw [less_v]
  refine List.Perm.trans ?_ (h.perm.filter _)
  have li := (List.getElem?_eq_some_iff.1 hp).1
  have hx : A[i] = p := (List.getElem?_eq_some_iff.1 hp).2
  have es_eq : A = A.take i ++ p :: A.drop (i + 1) := by rw [← hx, List.getElem_cons_drop, List.take_append_drop]
  have d := h.dis
  rw [es_eq, List.pairwise_append, List.pairwise_cons] at d
  obtain ⟨n1, ⟨n2, n3⟩, n4⟩ := d
  have f1 : (A.take i).filter (fun q => decide (q ≠ p)) = A.take i := by
    rw [List.filter_eq_self]; intro q hq; have := n4 q hq p (by simp); simp; intro e; rw [e] at this; exact this rfl
  have f2 : (A.drop (i + 1)).filter (fun q => decide (q ≠ p)) = A.drop (i + 1) := by
    rw [List.filter_eq_self]; intro q hq; have := n2 q hq; simp; intro e; rw [e] at this; exact this rfl
  have : A.filter (fun q => decide (q ≠ p)) = A.eraseIdx i := by
    rw [List.eraseIdx_eq_take_drop_succ]
    have e := congrArg (List.filter (fun q => decide (q ≠ p))) es_eq
    rw [e, List.filter_append, List.filter_cons, f1, f2]
    simp
  rw [this]

theorem firstHi {z : Ent (Nat × Int)} : IsFirst (Z.map lo) (lo z) → z ∈ Z → IsFirst (Z.map hi) (hi z) := by
  intro h hz
  refine ⟨List.mem_map.2 ⟨z, hz, rfl⟩, fun y hy => ?_⟩
  obtain ⟨u, hu, rfl⟩ := List.mem_map.1 hy
  have := h.2 (lo u) (List.mem_map.2 ⟨u, hu, rfl⟩)
  unfold Le Lt lo at this
  unfold Le Lt hi
  exact this

set_option maxHeartbeats 400000 in
theorem next_none (w : World) (h : Lines w lb hb room puts hv av A ([] : List (Ent (Nat × Int)))) :
    Calls Try.prog 33 #[.pointer (some ⟨lb, 0, none⟩)] w fun e w' => e = .returned (.tuple #[.int .i64 0, .bool false]) ∧ Below w.heap.size w w' := by
  have c0 := h.c0
  have hh : HP.Heaps w hb room puts hv [] := h.heap
  go_enter Try.func33, Try.ntmps33
  go_wp2_with (go_at_call 71; refine (HP.first_none _ hh).mono ?_; rintro e w1 ⟨rfl, g1⟩)
  go_ret2
  exact ⟨rfl, g1⟩
set_option maxHeartbeats 400000 in
theorem next_some (w : World) (h : Lines w lb hb room puts hv av A Z) (hz : Z ≠ []) :
    Calls Try.prog 33 #[.pointer (some ⟨lb, 0, none⟩)] w fun e w' => ∃ z ∈ Z, IsFirst (Z.map hi) (hi z) ∧ e = .returned (.tuple #[.int .i64 z.a, .bool true]) ∧ Below w.heap.size w w' := by
  have c0 := h.c0
  have hh := h.heap
  have hne : Z.map lo ≠ [] := by simpa using hz
  have H0 : Hid (Lines w lb hb room puts hv av A Z) := h
  clear h hz
  go_enter Try.func33, Try.ntmps33
  go_wp2_with (first | (go_at_call 71; refine (HP.first_some _ hh hne).mono ?_; rintro e w1 ⟨x, hx, rfl, hw⟩; subst w1; obtain ⟨z, hz, hzx⟩ := List.mem_map.1 hx.1; subst hzx; have okz : okP w [] z.v.1 := H0.out.okp (H0.out.perm.mem_iff.2 (List.mem_map.2 ⟨z, hz, rfl⟩)); have HX : Hid (IsFirst (Z.map lo) (lo z) ∧ z ∈ Z) := ⟨hx, hz⟩; clear hx hz) | (go_at_call 73; refine (HP.key_some (lo z) _ hh okz HX.out.1.1).mono ?_; rintro e w2 ⟨rfl, g2⟩))
  go_ret2
  exact ⟨z, HX.out.2, firstHi HX.out.1 HX.out.2, rfl, g2⟩

theorem heaps_only {l : List (Ent Nat)} (h : HP.Heaps w hb room puts hv l) {S : List Nat} (o : Only S w w') (hS : ∀ k ∈ foot hb hv, k ∉ S) (ht : ∀ e ∈ l, e.v ∉ S) : HP.Heaps w' hb room puts hv l := by
  obtain ⟨es, r, x⟩ := h
  refine ⟨es, r.only o hS (fun e he => ?_), x⟩
  have ok := r.ok e he
  have l := ok.1.lt
  obtain ⟨⟨c, t, e1⟩, n⟩ := ok
  exact ⟨⟨c, t, by rw [o.block e.v l (ht e (x.2.1.mem_iff.1 he))]; exact e1⟩, n⟩

set_option maxHeartbeats 1000000 in
set_option maxRecDepth 100000 in
theorem remove_any {i : Nat} {p : Nat × Int} (w : World) (h : Lines w lb hb room puts hv av A Z) (hp : A[i]? = some p) :
    Calls Try.prog 70 #[.pointer (some ⟨lb, 0, none⟩), .int .i64 i] w fun e w' => ∃ hv' av', e = .returned (.tuple #[]) ∧ Lines w' lb hb room puts hv' av' (A.eraseIdx i) (less Z p) ∧ foot hb hv' = foot hb hv ∧ foot lb av' = foot lb av ∧ Only (footL lb hb hv av A) w w' := by
  have hf := h.few
  have pA := List.mem_of_getElem? hp
  have il := (List.getElem?_eq_some_iff.1 hp).1
  have c0 := h.c0
  have c1 := h.c1
  have bl := h.lt
  rcases h.own.2 with ⟨rfl, hn⟩ | ⟨g, cap, cur, hv2, -⟩
  · omega
  obtain ⟨n, hn⟩ : ∃ n, A.length = n := ⟨_, rfl⟩
  rw [hn] at hv2 il hf
  subst hv2
  have gl := (h.av_kind g rfl)
  have cp : w.cell? ⟨g, i, none⟩ = some (.pointer (some ⟨p.1, 0, none⟩)) := by
    have o := h.own
    rw [hn] at o
    have := o.cellAt i (by omega)
    rw [ptrs, List.getElem?_map, hp] at this
    exact this
  obtain ⟨z, hz, hzp⟩ := List.mem_map.1 (h.perm.mem_iff.1 pA)
  have da := fun w h hx => HP.drop_some (b := hb) (room := room) (puts := puts) (v := hv) (l := Z.map lo) p.1 w h (F := []) hx ⟨lo z, List.mem_map.2 ⟨z, hz, rfl⟩, by show z.v.1 = _; rw [hzp]⟩
  have hh := h.heap.below (Below.refl _ _).drew
  have okp : okP w.drew [] p.1 := h.okp pA
  have H0 : Hid (Lines w lb hb room puts hv (.slice (some ⟨g, 0, none⟩) n cap) A Z) := h
  have HP : Hid (A[i]? = some p ∧ A.length = n) := ⟨hp, hn⟩
  have i1 : (i : Int) + 1 = ((i + 1 : Nat) : Int) := by omega
  have hi1 : i ≤ 1000 := by omega
  clear h hn hp hz hzp i1
  go_enter Try.func70, Try.ntmps70
  go_wp2
  go_region_held3 (fun w' => w'.cell? ⟨lb, 0, none⟩ = some (.pointer (some ⟨hb, 0, none⟩)) ∧ w'.cell? ⟨lb, 1, none⟩ = some (.slice (some ⟨g, 0, none⟩) n cap) ∧ w'.cell? ⟨g, i, none⟩ = some (.pointer (some ⟨p.1, 0, none⟩))) (go_keep)
    (first | (go_at_call 94; refine (da _ hh okp).mono ?_; rintro e w1 ⟨hv', rfl, hh1, hf1, o1⟩; obtain ⟨k1, k2, k3⟩ := H0.out.kept (Only.trans (Only.refl _ w).drew o1 (fun k hk => .inl hk)); have d0 : w1.cell? ⟨lb, 0, none⟩ = some (.pointer (some ⟨hb, 0, none⟩)) := (by simp [World.cell?, k1]); have d1 : w1.cell? ⟨lb, 1, none⟩ = some (.slice (some ⟨g, 0, none⟩) n cap) := (by simp [World.cell?, k1]); have dp : w1.cell? ⟨g, i, none⟩ = some (.pointer (some ⟨p.1, 0, none⟩)) := (by have := (HP.out.2 ▸ k2).cellAt i (by omega); rw [ptrs, List.getElem?_map, HP.out.1] at this; exact this); have K : Hid (w1.heap[lb]? = some (.cells #[.pointer (some ⟨hb, 0, none⟩), .slice (some ⟨g, 0, none⟩) n cap] 110 (0, 0)) ∧ w1.ownsRow (lb + 1) 107 1 (.slice (some ⟨g, 0, none⟩) n cap) n (ptrs A) ∧ ∀ p ∈ A, w1.heap[p.1]? = some (.cells #[mkI p.2] 113 (0, 0))) := ⟨k1, HP.out.2 ▸ k2, k3⟩; clear k1 k2 k3))
  have one : ∀ u ∈ ptrs A, u.oneCell' = true := fun u hu => by obtain ⟨q, _, rfl⟩ := List.mem_map.1 hu; rfl
  have de := fun w h => delete_any (base := lb + 1) (g := g) (n := n) (cap := cap) (i := i) (xs := ptrs A) w h one il
  have lg : lb ≠ g := by have := gl.2.1; omega
  clear d0 dp cp c0 c1
  go_wp2_with (go_at_call 95; refine (de _ K.out.2.1).mono ?_; rintro e w2 ⟨rfl, own2, o2⟩; have b2 := (o2.block lb (Nat.lt_of_lt_of_le bl (Only.trans (Only.refl _ w).drew o1 (fun k hk => .inl hk)).size) (by simpa using lg)).trans K.out.1; have e1 : w2.cell? ⟨lb, 1, none⟩ = some (.slice (some ⟨g, 0, none⟩) n cap) := (by simp [World.cell?, b2]); have ef : w2.frozen? ⟨lb, 1, none⟩ = false := (by simp [World.frozen?, b2]); have B2 : Hid (w2.heap[lb]? = some (.cells #[.pointer (some ⟨hb, 0, none⟩), .slice (some ⟨g, 0, none⟩) n cap] 110 (0, 0)) ∧ w2.ownsRow (lb + 1) 107 1 (.slice (some ⟨g, 0, none⟩) (n - 1) cap) (n - 1) ((ptrs A).eraseIdx i)) := ⟨b2, own2⟩; clear b2 own2)
  go_end0
  obtain ⟨p1, p2⟩ := HP.out
  obtain ⟨b2, own2⟩ := B2.out
  obtain ⟨k1, k2, k3⟩ := K.out
  have o1' : Only (foot hb hv) w w1 := Only.trans (Only.refl _ w).drew o1 (fun k hk => .inl hk)
  have o3 : Only [lb, g] w1 (w2.setCell ⟨lb, 1, none⟩ (.slice (some ⟨g, 0, none⟩) (n - 1) cap)) := (o2.mono (by simp)).setCell (p := ⟨lb, 1, none⟩) (by simp) _
  have kd := heap_kind hh1
  have kg : Kind w1 g 107 := by
    rcases k2.2 with ⟨e, _⟩ | ⟨g', _, _, e, _, hh, _⟩
    · simp at e
    · simp at e; rw [← e.1] at hh; exact ⟨_, _, hh⟩
  have le : (ptrs A).eraseIdx i = ptrs (A.eraseIdx i) := by simp only [ptrs, List.eraseIdx_eq_take_drop_succ, List.map_append, List.map_take, List.map_drop]
  have ln : (A.eraseIdx i).length = n - 1 := by rw [List.length_eraseIdx_of_lt (by omega), p2]
  have tS : ∀ q ∈ A, q.1 ∉ [lb, g] := fun q hq => by
    have e := k3 q hq
    have a1 : q.1 ≠ lb := Kind.ne ⟨_, _, e⟩ ⟨_, _, k1⟩ (by decide)
    have a2 : q.1 ≠ g := Kind.ne ⟨_, _, e⟩ kg (by decide)
    simp [a1, a2]
  refine ⟨hv', .slice (some ⟨g, 0, none⟩) (n - 1) cap, rfl, ⟨?_, ?_, ?_, H0.out.erase p1, fun q hq => ?_, H0.out.dis.sublist (List.eraseIdx_sublist _ _)⟩, hf1, rfl, ?_⟩
  · have := heap_setCell_same w2 lb 1 _ _ (.slice (some ⟨g, 0, none⟩) (n - 1) cap) b2
    simpa using this
  · rw [H0.out.less_lo (List.mem_of_getElem? p1)]
    refine heaps_only hh1 o3 (fun k hk => ?_) (fun e he => ?_)
    · rcases kd k hk with q | q
      · have a1 := q.ne ⟨_, _, k1⟩ (by decide); have a2 := q.ne kg (by decide); simp [a1, a2]
      · have a1 := q.ne ⟨_, _, k1⟩ (by decide); have a2 := q.ne kg (by decide); simp [a1, a2]
    · obtain ⟨z, hz, rfl⟩ := List.mem_map.1 (mem_less.1 he).1
      exact tS z.v (H0.out.perm.mem_iff.2 (List.mem_map.2 ⟨z, hz, rfl⟩))
  · rw [ln, ← le]
    exact ownsRow_setCell_below own2 (a := ⟨lb, 1, none⟩) (show lb < lb + 1 by omega) _
  · have hq' := List.mem_of_mem_eraseIdx hq
    have e := k3 q hq'
    rw [o3.block q.1 (Array.getElem?_eq_some_iff.1 e).1 (tS q hq')]
    exact e
  · refine (o1'.mono (fun k hk => by simp [footL, hk])).trans o3 (fun k hk => .inl ?_)
    simp at hk
    rcases hk with rfl | rfl
    · simp [footL, foot]
    · simp [footL, foot, Value.ownBlock]
end Go.Proofs.Ytbfbijfedamgaaa.LI
