/- The contracts of the line's Put and Drop at int. -/
import Derived.Test.YtbfbijfedamgaaaLineOpsI
namespace Go.Proofs.Ytbfbijfedamgaaa.LI
open Go.RowKit
variable {w w' : World} {lb hb : Nat} {room puts d : Int} {hv av : Value} {A : List (Nat × Int)} {Z : List (Ent (Nat × Int))}

theorem find_none (x : Int) (w : World) (h : Lines w lb hb room puts hv av A Z) (hno : ∀ p ∈ A, p.2 ≠ x) :
    Calls Try.prog 68 #[.pointer (some ⟨lb, 0, none⟩), mkI x] w fun e w' => e = .returned (.int .i64 (-1)) ∧ Below w.heap.size w w' :=
  (find_any x w h).mono fun e w' ⟨r, he, hc, hb⟩ => by
    rcases hc with ⟨rfl, _⟩ | ⟨i, p, _, hp, hv⟩
    · exact ⟨he, hb⟩
    · exact absurd hv (hno p (List.mem_of_getElem? hp))
theorem find_at {i : Nat} {p : Nat × Int} (w : World) (h : Lines w lb hb room puts hv av A Z) (hp : A[i]? = some p) :
    Calls Try.prog 68 #[.pointer (some ⟨lb, 0, none⟩), mkI p.2] w fun e w' => e = .returned (.int .i64 i) ∧ Below w.heap.size w w' :=
  (find_any p.2 w h).mono fun e w' ⟨r, he, hc, hb⟩ => by
    rcases hc with ⟨_, hno⟩ | ⟨j, q, rfl, hq, hv⟩
    · exact absurd rfl (hno p (List.mem_of_getElem? hp))
    · have : j = i := by
        obtain ⟨lj, ej⟩ := List.getElem?_eq_some_iff.1 hq
        obtain ⟨li, ei⟩ := List.getElem?_eq_some_iff.1 hp
        rcases Nat.lt_trichotomy j i with hlt | e | hlt
        · have := List.pairwise_iff_getElem.1 h.dis j i lj li hlt
          rw [ej, ei] at this; exact absurd hv this
        · exact e
        · have := List.pairwise_iff_getElem.1 h.dis i j li lj hlt
          rw [ej, ei] at this; exact absurd hv.symm this
      subst this
      exact ⟨he, hb⟩

theorem Lines.put_perm (h : Lines w lb hb room puts hv av A Z) {i : Nat} {p : Nat × Int} (hp : A[i]? = some p) (d t : Int) : A.Perm ((less Z p ++ [(⟨p, d, 0, t⟩ : Ent (Nat × Int))]).map (·.v)) := by
  rw [List.map_append]
  have e1 : A.Perm (p :: A.eraseIdx i) := by
    obtain ⟨li, ei⟩ := List.getElem?_eq_some_iff.1 hp
    rw [List.eraseIdx_eq_take_drop_succ]
    have : A = A.take i ++ p :: A.drop (i + 1) := by rw [← ei, List.getElem_cons_drop, List.take_append_drop]
    exact (List.Perm.of_eq this).trans List.perm_middle
  exact e1.trans (((h.erase hp).cons p).trans (List.perm_append_singleton p _).symm)

set_option maxHeartbeats 1000000 in
set_option maxRecDepth 100000 in
theorem put_there {i : Nat} {p : Nat × Int} (d : Int) (w : World) (h : Lines w lb hb room puts hv av A Z) (hp : A[i]? = some p) (hp0 : 0 ≤ puts) (hp1 : puts ≤ 1000000000) :
    Calls Try.prog 30 #[.pointer (some ⟨lb, 0, none⟩), mkI p.2, .int .i64 d] w fun e w' => e = .returned (.bool true) ∧ Lines w' lb hb room (puts + 1) hv av A (less Z p ++ [⟨p, d, 0, puts + 1⟩]) ∧ Only (foot hb hv) w w' := by
  have hf := h.few
  have fa := fun w h => find_at (lb := lb) (hb := hb) (room := room) (puts := puts) (hv := hv) (av := av) (A := A) (Z := Z) w h hp
  have pA := List.mem_of_getElem? hp
  have il := (List.getElem?_eq_some_iff.1 hp).1
  rcases h.own.2 with ⟨rfl, hn⟩ | ⟨g, cap, cur, hv2, -⟩
  · omega
  obtain ⟨n, hn⟩ : ∃ n, A.length = n := ⟨_, rfl⟩
  rw [hn] at hv2 il hf
  subst hv2
  obtain ⟨z, hz, hzp⟩ := List.mem_map.1 (h.perm.mem_iff.1 pA)
  have pa := fun w h hx => HP.put_there (b := hb) (room := room) (puts := puts) (v := hv) (l := Z.map lo) p.1 d 0 w h (F := []) hx ⟨lo z, List.mem_map.2 ⟨z, hz, rfl⟩, by show z.v.1 = _; rw [hzp]⟩ hp0 hp1
  have HP : Hid (A[i]? = some p ∧ A.length = n) := ⟨hp, hn⟩
  clear hn hp hz hzp
  go_enter Try.func30, Try.ntmps30
  go_wp2_with (go_at_call 68; refine (fa _ h).mono ?_; rintro e w1 ⟨rfl, g1⟩; have h1 := h.below g1; have c0 := h1.c0; have c1 := h1.c1; have cp : w1.cell? ⟨g, i, none⟩ = some (.pointer (some ⟨p.1, 0, none⟩)) := (by have o := h1.own; rw [HP.out.2] at o; have := o.cellAt i (by omega); rw [ptrs, List.getElem?_map, HP.out.1] at this; exact this); have hh := h1.heap.below (Below.refl _ _).drew; have okp : okP w1.drew [] p.1 := h1.okp pA; have H1 : Hid (Lines w1 lb hb room puts hv (.slice (some ⟨g, 0, none⟩) n cap) A Z) := h1; clear h1)
  go_region_held3 (fun w' => w'.cell? ⟨lb, 0, none⟩ = some (.pointer (some ⟨hb, 0, none⟩)) ∧ w'.cell? ⟨lb, 1, none⟩ = some (.slice (some ⟨g, 0, none⟩) n cap) ∧ w'.cell? ⟨g, i, none⟩ = some (.pointer (some ⟨p.1, 0, none⟩))) (go_keep)
    (first | (go_at_call 69; refine (pa _ hh okp).mono ?_; rintro e w2 ⟨rfl, hh2, o2⟩; obtain ⟨k1, k2, k3⟩ := H1.out.kept (Only.trans (Only.refl _ w1).drew o2 (fun k hk => .inl hk)); have d0 : w2.cell? ⟨lb, 0, none⟩ = some (.pointer (some ⟨hb, 0, none⟩)) := (by simp [World.cell?, k1]); have d1 : w2.cell? ⟨lb, 1, none⟩ = some (.slice (some ⟨g, 0, none⟩) n cap) := (by simp [World.cell?, k1]); have dp : w2.cell? ⟨g, i, none⟩ = some (.pointer (some ⟨p.1, 0, none⟩)) := (by have := (HP.out.2 ▸ k2).cellAt i (by omega); rw [ptrs, List.getElem?_map, HP.out.1] at this; exact this); have K : Hid (w2.heap[lb]? = some (.cells #[.pointer (some ⟨hb, 0, none⟩), .slice (some ⟨g, 0, none⟩) n cap] 110 (0, 0)) ∧ w2.ownsRow (lb + 1) 107 1 (.slice (some ⟨g, 0, none⟩) n cap) A.length (ptrs A) ∧ ∀ p ∈ A, w2.heap[p.1]? = some (.cells #[mkI p.2] 113 (0, 0))) := ⟨k1, k2, k3⟩; clear k1 k2 k3))
  go_wp2
  go_ret
  obtain ⟨k1, k2, k3⟩ := K.out
  refine ⟨rfl, ⟨k1, ?_, k2, H1.out.put_perm HP.out.1 d (puts + 1), k3, H1.out.dis⟩, (Below.only g1 _).trans (Only.trans (Only.refl _ w1).drew o2 (fun k hk => .inl hk)) (fun k hk => .inl hk)⟩
  rw [List.map_append, H1.out.less_lo pA]
  exact hh2

set_option maxHeartbeats 1000000 in
set_option maxRecDepth 100000 in
theorem put_full (x : Int) (d : Int) (w : World) (h : Lines w lb hb room puts hv av A Z) (hno : ∀ p ∈ A, p.2 ≠ x) (hfull : room ≤ A.length) :
    Calls Try.prog 30 #[.pointer (some ⟨lb, 0, none⟩), mkI x, .int .i64 d] w fun e w' => e = .returned (.bool false) ∧ Below w.heap.size w w' := by
  have fa := fun w h => find_none (lb := lb) (hb := hb) (room := room) (puts := puts) (hv := hv) (av := av) (A := A) (Z := Z) x w h hno
  have hl := h.len
  have lz : (Z.map lo).length = A.length := by rw [List.length_map, hl]
  have pf := fun t w h hx hn => HP.put_full (b := hb) (room := room) (puts := puts) (v := hv) (l := Z.map lo) t d 0 w h (F := []) hx hn (by rw [lz]; exact hfull)
  have H0 : Hid (Lines w lb hb room puts hv av A Z) := h
  clear hno hl lz hfull
  unfold mkI
  go_enter Try.func30, Try.ntmps30
  go_wp2_with (first | (go_at_call 69; refine (pf _ _ H2.out.heap okt nt).mono ?_; rintro e w3 ⟨rfl, g3⟩) | (go_at_call 68; refine (fa _ h).mono ?_; rintro e w1 ⟨rfl, g1⟩; have h1 := h.below g1; have h2 := h1.below ((Below.refl _ _).alloc (Nat.le_refl _) (.cells #[.int .i64 x] 113)); have c0 := h2.c0; have okt : okP (w1.alloc (.cells #[.int .i64 x] 113)) [] w1.heap.size := ⟨⟨_, _, heap_alloc_new _ _⟩, by simp⟩; have nt : ∀ y ∈ Z.map lo, y.v ≠ w1.heap.size := (fun y hy e => by obtain ⟨z, hz, rfl⟩ := List.mem_map.1 hy; have := (Array.getElem?_eq_some_iff.1 (h1.things z.v (h1.perm.mem_iff.2 (List.mem_map.2 ⟨z, hz, rfl⟩)))).1; simp only [lo] at e; omega); have H2 : Hid (Lines (w1.alloc (.cells #[.int .i64 x] 113)) lb hb room puts hv av A Z) := h2; clear h1 h2))
  go_ret
  exact ⟨rfl, g1.trans ((((Below.refl _ _).alloc (Nat.le_refl _) _).mono g1.size).trans (g3.mono (by have := g1.size; simp; omega)))⟩

theorem own_some {w : World} {base n : Nat} {e : TypeId} {v : Value} {xs : List Value} (h : w.ownsRow base e 1 v (n + 1) xs) : ∃ g cap, v = .slice (some ⟨g, 0, none⟩) (n + 1) cap := by
  rcases h.2 with ⟨_, hz⟩ | ⟨g, cap, cur, hv, _⟩
  · omega
  · exact ⟨g, cap, hv⟩
/-- What lies there behind the append of a new thing to the list. -/
theorem line_grow {W1 w2 : World} {n cap t : Nat} {ad : Option Addr} {v2 : Value} {o : Obj} {x : Int} {puts' : Int} (h1 : W1.heap[lb]? = some (.cells #[.pointer (some ⟨hb, 0, none⟩), .slice ad n cap] 110 (0, 0))) (h2 : HP.Heaps W1 hb room puts' hv ((Z ++ [(⟨(t, x), d, 0, puts'⟩ : Ent (Nat × Int))]).map lo))
    (h3 : W1.ownsRow (lb + 1) 107 1 (.slice ad n cap) n (ptrs A)) (h4 : ∀ p ∈ A, W1.heap[p.1]? = some (.cells #[mkI p.2] 113 (0, 0))) (h5 : W1.heap[t]? = some (.cells #[mkI x] 113 (0, 0))) (hn : A.length = n)
    (perm : A.Perm (Z.map (·.v))) (dis : A.Pairwise (fun x y => x.2 ≠ y.2)) (hno : ∀ p ∈ A, p.2 ≠ x)
    (own2 : w2.ownsRow (lb + 1) 107 1 v2 (n + 1) (ptrs A ++ [.pointer (some ⟨t, 0, none⟩)])) (grow2 : (W1.alloc o).grownBy w2 (Value.slice ad n cap).ownBlock) (at2 : v2.ownBlock = (Value.slice ad n cap).ownBlock ∨ v2.ownBlock = some (W1.alloc o).heap.size) :
    Lines (w2.setCell ⟨lb, 1, none⟩ v2) lb hb room puts' hv v2 (A ++ [(t, x)]) (Z ++ [⟨(t, x), d, 0, puts'⟩]) ∧ Only (foot lb (.slice ad n cap)) W1 (w2.setCell ⟨lb, 1, none⟩ v2) ∧ (∀ k ∈ foot lb v2, k ∈ foot lb (.slice ad n cap) ∨ W1.heap.size ≤ k) ∧
      w2.cell? ⟨lb, 1, none⟩ = some (.slice ad n cap) ∧ w2.frozen? ⟨lb, 1, none⟩ = false := by
  subst hn
  have l1 : lb < W1.heap.size := (Array.getElem?_eq_some_iff.1 h1).1
  have gr := (World.grownBy_alloc W1 o (Value.slice ad A.length cap).ownBlock).trans grow2
  have kg : ∀ k, (Value.slice ad A.length cap).ownBlock = some k → Kind W1 k 107 := by
    intro k hk
    rcases h3.2 with ⟨e, _⟩ | ⟨g', _, _, e, _, hh, _⟩
    · simp at e; rw [e.1] at hk; simp [Value.ownBlock] at hk
    · simp at e; rw [e.1] at hk; simp [Value.ownBlock] at hk; subst hk; exact ⟨_, _, hh⟩
  have hb0 : some lb ≠ (Value.slice ad A.length cap).ownBlock := fun e => Kind.ne ⟨_, _, h1⟩ (kg lb e.symm) (by decide) rfl
  have blk := (gr.block lb l1 hb0).trans h1
  have on : Only (foot lb (.slice ad A.length cap)) W1 (w2.setCell ⟨lb, 1, none⟩ v2) := ((Only.refl _ W1).grown gr (fun k hk => .inl (by simp [foot, hk]))).setCell (p := ⟨lb, 1, none⟩) mem_foot _
  have fS : ∀ k ∈ foot lb (.slice ad A.length cap), Kind W1 k 110 ∨ Kind W1 k 107 := by
    intro k hk
    simp only [foot, List.mem_cons, Option.mem_toList] at hk
    rcases hk with rfl | hk
    · exact .inl ⟨_, _, h1⟩
    · exact .inr (kg k hk)
  have tS : ∀ p ∈ A ++ [(t, x)], p.1 ∉ foot lb (.slice ad A.length cap) := fun p hp m => by
    have e : W1.heap[p.1]? = some (.cells #[mkI p.2] 113 (0, 0)) := by
      rcases List.mem_append.1 hp with hp | hp
      · exact h4 p hp
      · simp at hp; subst hp; exact h5
    rcases fS p.1 m with q | q
    · exact Kind.ne ⟨_, _, e⟩ q (by decide) rfl
    · exact Kind.ne ⟨_, _, e⟩ q (by decide) rfl
  have pm : (A ++ [(t, x)]).Perm ((Z ++ [(⟨(t, x), d, 0, puts'⟩ : Ent (Nat × Int))]).map (·.v)) := by rw [List.map_append]; exact perm.append_right _
  refine ⟨⟨?_, ?_, ?_, pm, fun p hp => ?_, ?_⟩, on, ?_, by simp [World.cell?, blk], by simp [World.frozen?, blk]⟩
  · have := heap_setCell_same w2 lb 1 _ _ v2 blk
    simpa using this
  · have kd := heap_kind h2
    refine heaps_only h2 on (fun k hk m => ?_) (fun e he => ?_)
    · rcases kd k hk with q | q <;> rcases fS k m with r | r <;> exact q.ne r (by decide) rfl
    · obtain ⟨z, hz, rfl⟩ := List.mem_map.1 he
      exact tS z.v (pm.mem_iff.2 (List.mem_map.2 ⟨z, hz, rfl⟩))
  · have := ownsRow_setCell_below own2 (a := ⟨lb, 1, none⟩) (show lb < lb + 1 by omega) v2
    have e : (A ++ [(t, x)]).length = A.length + 1 := by simp
    rw [e]
    have e2 : ptrs (A ++ [(t, x)]) = ptrs A ++ [.pointer (some ⟨t, 0, none⟩)] := by simp [ptrs]
    rw [e2]
    exact this
  · have e : W1.heap[p.1]? = some (.cells #[mkI p.2] 113 (0, 0)) := by
      rcases List.mem_append.1 hp with hp | hp
      · exact h4 p hp
      · simp at hp; subst hp; exact h5
    rw [on.block p.1 (Array.getElem?_eq_some_iff.1 e).1 (tS p hp)]
    exact e
  · rw [List.pairwise_append]
    exact ⟨dis, by simp, fun a ha b hb => by simp at hb; subst hb; exact hno a ha⟩
  · intro k hk
    simp only [foot, List.mem_cons, Option.mem_toList] at hk ⊢
    rcases hk with rfl | hk
    · exact .inl (.inl rfl)
    · rcases at2 with e | e
      · exact .inl (.inr (e ▸ hk))
      · rw [e] at hk; simp at hk; exact .inr (by omega)

set_option maxHeartbeats 1000000 in
set_option maxRecDepth 100000 in
theorem put_new (x : Int) (d : Int) (w : World) (h : Lines w lb hb room puts hv av A Z) (hno : ∀ p ∈ A, p.2 ≠ x) (hroom : (A.length : Int) < room) (hp0 : 0 ≤ puts) (hp1 : puts ≤ 1000000000) :
    Calls Try.prog 30 #[.pointer (some ⟨lb, 0, none⟩), mkI x, .int .i64 d] w fun e w' => ∃ t hv' av', e = .returned (.bool true) ∧ w.heap.size ≤ t ∧ Lines w' lb hb room (puts + 1) hv' av' (A ++ [(t, x)]) (Z ++ [⟨(t, x), d, 0, puts + 1⟩]) ∧ Only (footL lb hb hv av A) w w' ∧ (∀ k ∈ foot hb hv', k ∈ foot hb hv ∨ w.heap.size ≤ k) ∧ ∀ k ∈ foot lb av', k ∈ foot lb av ∨ w.heap.size ≤ k := by
  have fa := fun w h => find_none (lb := lb) (hb := hb) (room := room) (puts := puts) (hv := hv) (av := av) (A := A) (Z := Z) x w h hno
  have hl := h.len
  have hf := h.few
  have lz : ((Z.map lo).length : Int) < room := by rw [List.length_map, ← hl]; exact hroom
  have pn := fun t w h hx hn => HP.put_new (b := hb) (room := room) (puts := puts) (v := hv) (l := Z.map lo) t d 0 w h hx hn lz hp0 hp1
  obtain ⟨ad, cap, hv2⟩ := h.slice
  obtain ⟨n, hn⟩ : ∃ n, A.length = n := ⟨_, rfl⟩
  rw [hn] at hv2
  subst hv2
  obtain ⟨i0, hi0, hz0, hz1, hz2⟩ := info_parts infoT
  have HA : Hid (A.length = n ∧ (∀ p ∈ A, p.2 ≠ x)) := ⟨hn, hno⟩
  have hn1 : n < 1000 := by omega
  have bl := h.lt
  clear hno hl lz hn hf hroom
  unfold mkI
  go_enter Try.func30, Try.ntmps30
  go_wp2_with (first | (go_at_call 69; refine (pn _ _ H2.out.heap okt nt).mono ?_; rintro e w3 ⟨hv', rfl, hh3, o3, f3⟩; obtain ⟨k1, k2, k3⟩ := H2.out.kept o3; have d1 : w3.cell? ⟨lb, 1, none⟩ = some (.slice ad n cap) := (by simp [World.cell?, k1]); have d2 : w3.frozen? ⟨lb, 1, none⟩ = false := (by simp [World.frozen?, k1]); have own3 : w3.ownsRow (lb + 1) 107 1 (.slice ad n cap) n (ptrs A) := (HA.out.1 ▸ k2); have s3 : lb < w3.heap.size := ((Array.getElem?_eq_some_iff.1 k1).1); have kt : w3.heap[w1.heap.size]? = some (.cells #[.int .i64 x] 113 (0, 0)) := ((o3.block w1.heap.size (by simp) okt.2).trans (heap_alloc_new _ _)); have K : Hid (w3.heap[lb]? = some (.cells #[.pointer (some ⟨hb, 0, none⟩), .slice ad n cap] 110 (0, 0)) ∧ (∀ p ∈ A, w3.heap[p.1]? = some (.cells #[mkI p.2] 113 (0, 0))) ∧ w3.heap[w1.heap.size]? = some (.cells #[.int .i64 x] 113 (0, 0))) := ⟨k1, k3, kt⟩; clear k1 k2 k3 kt) | (go_at_call 68; refine (fa _ h).mono ?_; rintro e w1 ⟨rfl, g1⟩; have h1 := h.below g1; have h2 := h1.below ((Below.refl _ _).alloc (Nat.le_refl _) (.cells #[.int .i64 x] 113)); have c0 := h2.c0; have okt : okP (w1.alloc (.cells #[.int .i64 x] 113)) (foot hb hv) w1.heap.size := ⟨⟨_, _, heap_alloc_new _ _⟩, fun m => by have := h1.heap.foot_lt _ m; omega⟩; have nt : ∀ y ∈ Z.map lo, y.v ≠ w1.heap.size := (fun y hy e => by obtain ⟨z, hz, rfl⟩ := List.mem_map.1 hy; have := (Array.getElem?_eq_some_iff.1 (h1.things z.v (h1.perm.mem_iff.2 (List.mem_map.2 ⟨z, hz, rfl⟩)))).1; simp only [lo] at e; omega); have H2 : Hid (Lines (w1.alloc (.cells #[.int .i64 x] 113)) lb hb room puts hv (.slice ad n cap) A Z) := h2; clear h1 h2) | (at_builtin; refine wpList_append_own_at _ rfl (.tmp 44) (.tmp 46) 108 rfl (lb + 1) 107 i0 (.pointer none) 1 8 Try.underlying108 hi0 hz0 hz1 hz2 rfl (by decide) _ _ _ rfl (own3.alloc _) ⟨w3.heap.size, 0, none⟩ 1 1 [.pointer (some ⟨w1.heap.size, 0, none⟩)] rfl rfl (cell_one_new _ _ _) (by intro u hu; simp at hu; subst hu; rfl) (by unfold maxLen; omega) (by omega) (by simp; omega) ?_; intro v4 w4 own4 grow4 nil4 at4; obtain ⟨g4, cap4, hv4⟩ := own_some own4; subst hv4; obtain ⟨L4, o4, f4, e1, e2⟩ := line_grow (Z := Z) (d := d) (puts' := puts + 1) (t := w1.heap.size) (x := x) (hv := hv') (room := room) K.out.1 (by rw [List.map_append]; exact hh3) own3 K.out.2.1 K.out.2.2 HA.out.1 H2.out.perm H2.out.dis HA.out.2 own4 grow4 at4; have K4 : Hid (Lines (w4.setCell ⟨lb, 1, none⟩ (.slice (some ⟨g4, 0, none⟩) (n + 1) cap4)) lb hb room (puts + 1) hv' (.slice (some ⟨g4, 0, none⟩) (n + 1) cap4) (A ++ [(w1.heap.size, x)]) (Z ++ [⟨(w1.heap.size, x), d, 0, puts + 1⟩])) := L4; clear L4 own4 grow4 nil4 at4 own3))
  go_ret
  have s1 := g1.size
  have ow : Only (footL lb hb hv (.slice ad n cap) A) w (w1.alloc (.cells #[.int .i64 x] 113)) := (Below.only g1 _).alloc _
  have o3s := o3.size
  simp at o3s
  refine ⟨w1.heap.size, hv', _, rfl, s1, K4.out, ?_, ?_, ?_⟩
  · exact (ow.trans o3 (fun k hk => .inl (by simp [footL, hk]))).trans o4 (fun k hk => .inl (by simp [footL, hk]))
  · intro k hk
    rcases f3 k hk with q | q
    · exact .inl q
    · simp at q; exact .inr (by omega)
  · intro k hk
    rcases f4 k hk with q | q
    · exact .inl q
    · exact .inr (by omega)

set_option maxHeartbeats 400000 in
theorem drop_none (x : Int) (w : World) (h : Lines w lb hb room puts hv av A Z) (hno : ∀ p ∈ A, p.2 ≠ x) :
    Calls Try.prog 31 #[.pointer (some ⟨lb, 0, none⟩), mkI x] w fun e w' => e = .returned (.bool false) ∧ Below w.heap.size w w' := by
  have fa := find_none x w h hno
  clear hno
  go_enter Try.func31, Try.ntmps31
  go_wp2_with (go_at_call 68; refine fa.mono ?_; rintro e w1 ⟨rfl, g1⟩)
  go_ret
  exact ⟨rfl, g1⟩
set_option maxHeartbeats 400000 in
theorem drop_some {i : Nat} {p : Nat × Int} (w : World) (h : Lines w lb hb room puts hv av A Z) (hp : A[i]? = some p) :
    Calls Try.prog 31 #[.pointer (some ⟨lb, 0, none⟩), mkI p.2] w fun e w' => ∃ hv' av', e = .returned (.bool true) ∧ Lines w' lb hb room puts hv' av' (A.eraseIdx i) (less Z p) ∧ foot hb hv' = foot hb hv ∧ foot lb av' = foot lb av ∧ Only (footL lb hb hv av A) w w' := by
  have fa := find_at w h hp
  have ra := fun w h => remove_any (lb := lb) (hb := hb) (room := room) (puts := puts) (hv := hv) (av := av) (A := A) (Z := Z) w h hp
  clear hp
  go_enter Try.func31, Try.ntmps31
  go_wp2_with (first | (go_at_call 70; refine (ra _ (h.below g1)).mono ?_; rintro e w2 ⟨hv', av', rfl, L2, f1, f2, o2⟩) | (go_at_call 68; refine fa.mono ?_; rintro e w1 ⟨rfl, g1⟩))
  go_ret
  exact ⟨hv', av', rfl, L2, f1, f2, (Below.only g1 _).trans o2 (fun k hk => .inl hk)⟩
end Go.Proofs.Ytbfbijfedamgaaa.LI
