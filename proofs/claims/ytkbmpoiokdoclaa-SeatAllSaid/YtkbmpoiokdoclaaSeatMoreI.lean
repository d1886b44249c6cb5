/- The contracts of the seats' Set, Get, Ids at int. -/
import Derived.Test.YtkbmpoiokdoclaaSeatOpsI
import Derived.Test.YtkbmpoiokdoclaaSameI
namespace Go.Proofs.Ytkbmpoiokdoclaa.SI
open Go.RowKit

set_option maxHeartbeats 400000 in
theorem set_no {b : Nat} {room : Int} {v : Value} {ps : List (Int × Bool)} (id : Int) (x : Int) (w : World)
    (ha : Calls Try.prog 65 #[.pointer (some ⟨b, 0, none⟩), .int .i64 id] w fun e w' => e = .returned (.bool false) ∧ w' = w) (_h : Seats w b room v ps) :
    Calls Try.prog 33 #[.pointer (some ⟨b, 0, none⟩), .int .i64 id, mkI x] w fun e w' => e = .returned (.bool false) ∧ w' = w := by
  go_enter Try.func33, Try.ntmps33
  go_wp2_with (go_at_call 65; refine ha.mono ?_; rintro e w' ⟨rfl, hw⟩; subst w')
  go_ret
  exact ⟨rfl, rfl⟩
set_option maxHeartbeats 400000 in
theorem get_no {b : Nat} {room : Int} {v : Value} {ps : List (Int × Bool)} (id : Int) (w : World)
    (ha : Calls Try.prog 65 #[.pointer (some ⟨b, 0, none⟩), .int .i64 id] w fun e w' => e = .returned (.bool false) ∧ w' = w) (_h : Seats w b room v ps) :
    Calls Try.prog 21 #[.pointer (some ⟨b, 0, none⟩), .int .i64 id] w fun e w' => e = .returned (.tuple #[.int .i64 0, .bool false]) ∧ Below w.heap.size w w' := by
  go_enter Try.func21, Try.ntmps21
  go_wp2_with (go_at_call 65; refine ha.mono ?_; rintro e w' ⟨rfl, hw⟩; subst w')
  go_ret2
  exact ⟨rfl, (Below.refl _ _).alloc (Nat.le_refl _) _⟩
/-- A place has another thing. -/
theorem Seats.put1 {w : World} {b g n cap : Nat} {room : Int} {ps : List (Int × Bool)} (h : Seats w b room (.slice (some ⟨g, 0, none⟩) n cap) ps) (i : Nat) (x y : Int) (hp : ps[i]? = some (y, true)) :
    Seats (w.setCell ⟨g, i * 2, none⟩ (mkI x)) b room (.slice (some ⟨g, 0, none⟩) n cap) (ps.set i (x, true)) ∧ Only (foot b (.slice (some ⟨g, 0, none⟩) n cap)) w (w.setCell ⟨g, i * 2, none⟩ (mkI x)) := by
  have hg := h.gt g rfl
  have m : g ∈ foot b (.slice (some ⟨g, 0, none⟩) n cap) := mem_foot_slice
  have o := h.own
  rw [← h.len] at o
  have o2 := (o.stored (i * 2) (mkI x)).1
  have e : (cellsP ps).set (i * 2) (mkI x) = cellsP (ps.set i (x, true)) := by
    rw [cellsP_set]
    apply List.ext_getElem?
    intro j
    by_cases hj : i * 2 + 1 = j
    · subst hj
      have c := (cellsP_get hp).2
      have hl := (List.getElem?_eq_some_iff.1 c).1
      rw [List.getElem?_set_ne (by omega), List.getElem?_set_self (by simpa using hl), c]
    · rw [List.getElem?_set_ne hj]
  rw [e] at o2
  refine ⟨⟨?_, by simpa [h.len] using o2, by simpa using h.few, h.most⟩, (Only.refl _ w).setCell (p := ⟨g, i * 2, none⟩) m _⟩
  rw [Below.heap_setCell _ _ _ _ (by show b ≠ g; omega)]
  exact h.blk
set_option maxHeartbeats 1000000 in
set_option maxRecDepth 100000 in
theorem set_yes {b : Nat} {room : Int} {v : Value} {ps : List (Int × Bool)} {y : Int} (i : Nat) (id : Int) (x : Int) (w : World) (h : Seats w b room v ps) (hp : ps[i]? = some (y, true)) (hid : id = i + 1) :
    Calls Try.prog 33 #[.pointer (some ⟨b, 0, none⟩), .int .i64 id, mkI x] w fun e w' => e = .returned (.bool true) ∧ Seats w' b room v (ps.set i (x, true)) ∧ Only (foot b v) w w' := by
  have ha := has_in i id w h hp hid
  have hfew := h.few
  have hmost := h.most
  have il := (List.getElem?_eq_some_iff.1 hp).1
  rcases h.own.2 with ⟨rfl, hz⟩ | ⟨g, cap, cur, hv, -⟩
  · omega
  obtain ⟨n, hn⟩ : ∃ n, ps.length = n := ⟨_, rfl⟩
  rw [hn] at hv il hfew
  subst hv
  have c1 := h.c1
  obtain ⟨p0, p1, fz⟩ := h.at hp
  have h3 : id - 1 = (i : Int) := by omega
  have h4 : 1 ≤ id := by omega
  have h5 : id ≤ 100 := by omega
  have HS : Hid (Seats w b room (.slice (some ⟨g, 0, none⟩) n cap) ps ∧ ps[i]? = some (y, true)) := ⟨h, hp⟩
  clear hn h hp hid
  unfold mkI at p0 ⊢
  go_enter Try.func33, Try.ntmps33
  go_wp2_with (go_at_call 65; refine ha.mono ?_; rintro e w' ⟨rfl, hw⟩; subst w')
  go_ret
  obtain ⟨r, o⟩ := HS.out.1.put1 i x y HS.out.2
  exact ⟨rfl, r, o⟩
set_option maxHeartbeats 1000000 in
set_option maxRecDepth 100000 in
theorem get_yes {b : Nat} {room : Int} {v : Value} {ps : List (Int × Bool)} {y : Int} (i : Nat) (id : Int) (w : World) (h : Seats w b room v ps) (hp : ps[i]? = some (y, true)) (hid : id = i + 1) :
    Calls Try.prog 21 #[.pointer (some ⟨b, 0, none⟩), .int .i64 id] w fun e w' => e = .returned (.tuple #[mkI y, .bool true]) ∧ w' = w := by
  have ha := has_in i id w h hp hid
  have hfew := h.few
  have hmost := h.most
  have il := (List.getElem?_eq_some_iff.1 hp).1
  rcases h.own.2 with ⟨rfl, hz⟩ | ⟨g, cap, cur, hv, -⟩
  · omega
  obtain ⟨n, hn⟩ : ∃ n, ps.length = n := ⟨_, rfl⟩
  rw [hn] at hv il hfew
  subst hv
  have c1 := h.c1
  obtain ⟨p0, p1, fz⟩ := h.at hp
  have h3 : id - 1 = (i : Int) := by omega
  have h4 : 1 ≤ id := by omega
  have h5 : id ≤ 100 := by omega
  clear hn h hp hid
  unfold mkI at p0 ⊢
  go_enter Try.func21, Try.ntmps21
  go_wp2_with (go_at_call 65; refine ha.mono ?_; rintro e w' ⟨rfl, hw⟩; subst w')
  go_ret2
  exact ⟨rfl, rfl⟩

/-- The numbers taken among the first so many. -/
def idsTo (ps : List (Int × Bool)) : Nat → List Int
  | 0 => []
  | k + 1 => idsTo ps k ++ (match ps[k]? with | some (_, true) => [(k : Int) + 1] | _ => [])
theorem idsTo_len (ps : List (Int × Bool)) (k : Nat) : (idsTo ps k).length ≤ k := by
  induction k with
  | zero => simp [idsTo]
  | succ k ih => unfold idsTo; split <;> simp <;> omega
theorem infoI : (Try.prog.info? 3).map (fun i => (i.zero, i.size, i.bytes)) = some (some (.int .i64 0), 1, 8) := by kernel_rfl
theorem cell_one (w : World) (x : Value) (t : TypeId) : ∀ (j : Nat) (q : Value), [x][j]? = some q → (w.alloc (.cells #[x] t)).cell? ((⟨w.heap.size, 0, none⟩ : Addr).add j) = some q := by
  intro j q hj
  match j, hj with
  | 0, hj => simp at hj; subst hj; simp [Addr.add]
theorem ids_grow {w0 w1 w3 : World} {b n : Nat} {room : Int} {v u : Value} {ps : List (Int × Bool)} {o : Obj} {xs : List Value} (h : Seats w1 b room v ps) (hlt : ∀ k ∈ foot b v, k < w0.heap.size) (g : Below w0.heap.size w0 w1)
    (own1 : w1.ownsRow w0.heap.size 3 1 u n xs) (grow3 : (w1.alloc o).grownBy w3 u.ownBlock) : Seats w3 b room v ps ∧ Below w0.heap.size w0 w3 := by
  have on : Only (u.ownBlock.toList) w1 w3 := ((Only.refl _ w1).alloc o).grown grow3 (fun k hk => .inl (by simp [hk]))
  refine ⟨h.only on (fun k hk m => ?_), g.trans (on.below g.size (fun k hk => (own1.lt k (by simpa using hk)).1))⟩
  have := own1.lt k (by simpa using m)
  have := hlt k hk
  omega

set_option maxHeartbeats 4000000 in
set_option maxRecDepth 100000 in
theorem ids_any {b : Nat} {room : Int} {v : Value} {ps : List (Int × Bool)} (w : World) (h : Seats w b room v ps) :
    Calls Try.prog 35 #[.pointer (some ⟨b, 0, none⟩)] w fun e w' => ∃ u, e = .returned u ∧ w'.ownsRow w.heap.size 3 1 u (idsTo ps ps.length).length ((idsTo ps ps.length).map mkI) ∧ Below w.heap.size w w' := by
  obtain ⟨ad, cap, hv⟩ := h.slice
  have hfew := h.few
  have hmost := h.most
  obtain ⟨i0, hi0, hz0, hz1, hz2⟩ := info_parts infoI
  obtain ⟨n, hn⟩ : ∃ n, ps.length = n := ⟨_, rfl⟩
  rw [hn] at hv ⊢
  subst hv
  have c1 := h.c1
  have HF : Hid (∀ k ∈ foot b (.slice ad n cap), k < w.heap.size) := h.foot_lt
  have HN : Hid (ps.length = n) := hn
  have hn1 : n ≤ 100 := by omega
  clear hn hfew hmost
  go_enter Try.func35, Try.ntmps35
  go_wp2
  go_loopw [3, 12] (fun u i wr => ∃ k : Nat, k ≤ n ∧ i = .int .i64 k ∧ wr.ownsRow w.heap.size 3 1 u (idsTo ps k).length ((idsTo ps k).map mkI) ∧ Seats wr b room (.slice ad n cap) ps ∧ Below w.heap.size w wr) (fun _ i _ => n - (intOf i).toNat)
  case atStart => exact ⟨0, by omega, rfl, World.ownsRow_nil _ _ _ _, h, Below.refl _ _⟩
  case round =>
    obtain ⟨k, hk, rfl, own, hS, hB⟩ := hrel
    have hlen := idsTo_len ps k
    have hsz : w.heap.size ≤ wr.heap.size := hB.size
    by_cases hlt : k < n
    · rcases hS.own.2 with ⟨e, hz⟩ | ⟨g, cap', cur, e, -⟩
      · have := HN.out; omega
      simp only [Value.slice.injEq] at e
      obtain ⟨rfl, -, -⟩ := e
      obtain ⟨p, hp⟩ : ∃ p, ps[k]? = some p := ⟨_, List.getElem?_eq_getElem (by rw [HN.out]; exact hlt)⟩
      have ct := (hS.at hp).2.1
      have cr := hS.c1
      have HP : Hid (ps[k]? = some p) := hp
      clear hp
      cases ht : p.2
      · rw [ht] at ct
        have HT : Hid (p.2 = false) := ht
        clear ht
        go_wp2
        go_round
        case rel =>
          have e : idsTo ps (k + 1) = idsTo ps k := by
            obtain ⟨p1, p2⟩ := p
            have := HT.out
            subst this
            rw [idsTo, HP.out]; simp
          exact ⟨k + 1, hlt, by go_num, by rw [e]; exact own, hS, hB⟩
        case measure => simp [intOf]; omega
      · rw [ht] at ct
        have HT : Hid (p.2 = true) := ht
        have e : idsTo ps (k + 1) = idsTo ps k ++ [(k : Int) + 1] := by
          obtain ⟨p1, p2⟩ := p
          subst ht
          rw [idsTo, HP.out]
        have HE : Hid (idsTo ps (k + 1) = idsTo ps k ++ [(k : Int) + 1]) := e
        clear ht e
        go_wp2_with (at_builtin; refine wpList_append_own_at _ rfl (.tmp 23) (.tmp 26) 42 rfl w.heap.size 3 i0 (.int .i64 0) 1 8 Try.underlying42 hi0 hz0 hz1 hz2 rfl (by decide) _ _ _ rfl (own.alloc _) ⟨wr.heap.size, 0, none⟩ 1 1 [.int .i64 ((k : Int) + 1)] rfl rfl (cell_one _ _ _) (by intro u hu; simp at hu; subst hu; rfl) (by unfold maxLen; omega) (by omega) (by simp; omega) ?_; intro v3 w3 own3 grow3 nil3 at3; have L3 : Hid (Seats w3 b room (.slice (some ⟨g, 0, none⟩) n cap) ps ∧ Below w.heap.size w w3 ∧ w3.ownsRow w.heap.size 3 1 v3 ((idsTo ps k).length + 1) ((idsTo ps k).map mkI ++ [.int .i64 ((k : Int) + 1)])) := (by obtain ⟨l3, s3⟩ := ids_grow hS HF.out hB own grow3; exact ⟨l3, s3, own3⟩); clear own3 grow3 nil3 at3 own hS hB)
        go_round
        case rel =>
          obtain ⟨l3, s3, o3⟩ := L3.out
          refine ⟨k + 1, hlt, by go_num, ?_, l3, s3⟩
          rw [HE.out]
          have e1 : (idsTo ps k ++ [(k : Int) + 1]).length = (idsTo ps k).length + 1 := by simp
          rw [e1, List.map_append]
          exact o3
        case measure => simp [intOf]; omega
    · have hkn : k = n := by omega
      subst hkn
      go_wp2
      go_ret
      exact ⟨_, rfl, own, hB⟩
end Go.Proofs.Ytkbmpoiokdoclaa.SI
