/- The contracts of slices.Index and slices.Delete at the line's things of int. -/
import Derived.Test.YtbfbijfedamgaaaHeapTakeP
import Derived.Test.YtbfbijfedamgaaaSameI
import Derived.Lib.SliceRun
import Derived.LaidEqlPtr
namespace Go.Proofs.Ytbfbijfedamgaaa.LI
open Go.RowKit

/-- 'append' into a row of one's own that has the room, as one step of a region that draws. -/
theorem step_append_fits {P : Program} {ops : Array Oper} {o : Oper} {a : Act} {w : World} {K : Act → World → Prop} {Q : Exit → Act → World → Prop} {E : Prop}
    (hg : o.guard = none) (s x : Operand) (t : TypeId) (hop : o.op = Op.call { callee := Callee.builtin Builtin.append, args := #[s, x], argTypes := #[t, t] })
    (base : Nat) (e : TypeId) (i : TypeInfo) (size : Nat) (ht : P.underlying t = some (.slice e)) (hi : P.info? e = some i) (hsize : i.size = size)
    (g n cap : Nat) (xs : List Value) (hs : a.eval s = .slice (some ⟨g, 0, none⟩) n cap) (hown : w.ownsRow base e size (.slice (some ⟨g, 0, none⟩) n cap) n xs)
    (ad : Addr) (m c : Nat) (news : List Value) (hx : a.eval x = .slice (some ad) m c) (hl : news.length = m * size) (hnews : ∀ j u, news[j]? = some u → w.cell? (ad.add j) = some u) (h1 : ∀ u ∈ news, u.oneCell' = true)
    (hroom : n + m ≤ cap)
    (hK : ∀ w', w'.ownsRow base e size (.slice (some ⟨g, 0, none⟩) (n + m) cap) (n + m) (xs ++ news) → w.grownBy w' (some g) → K (a.put o.dst (.slice (some ⟨g, 0, none⟩) (n + m) cap)) w') :
    if Region.wanted o (yielded ops a.tmps) = true then Oper.wp P o a w K Q else E := by
  have hw : Region.wanted o (yielded ops a.tmps) = true := by simp [Region.wanted, hg]
  rw [if_pos hw]
  obtain ⟨w', hr, h2, h3⟩ := run_append_fits (P := P) w base t o.type e i size ht hi hsize g n cap xs hown ad m c news hl hnews h1 hroom
  unfold Oper.wp
  simp [execOp, hop, resolve, invoke, builtin, hs, hx, hr, Result.andThen]
  exact hK w' h2 h3

theorem own_prefix {w : World} {base g n cap i : Nat} {e : TypeId} {xs : List Value} (h : w.ownsRow base e 1 (.slice (some ⟨g, 0, none⟩) n cap) n xs) (hi : i ≤ n) : w.ownsRow base e 1 (.slice (some ⟨g, 0, none⟩) i cap) i (xs.take i) := by
  obtain ⟨h1, h2⟩ := h
  rcases h2 with ⟨h2, _⟩ | ⟨g', cap', cur, e', hb, hh, hn, hm, hs, ht⟩
  · simp at h2
  · simp only [Value.slice.injEq, Option.some.injEq, Addr.mk.injEq, and_true, true_and] at e'
    obtain ⟨rfl, rfl⟩ := e'
    refine ⟨by simp; omega, .inr ⟨g, cap, cur, rfl, hb, hh, by omega, hm, hs, ?_⟩⟩
    rw [← ht, List.take_take]
    congr 1
    omega
theorem own_cap {w : World} {base g n cap : Nat} {e : TypeId} {xs : List Value} (h : w.ownsRow base e 1 (.slice (some ⟨g, 0, none⟩) n cap) n xs) : n ≤ cap ∧ cap ≤ 9223372036854775807 ∧ ∀ j, j < cap → (w.cell? ⟨g, j, none⟩).isSome = true := by
  obtain ⟨h1, h2⟩ := h
  rcases h2 with ⟨h2, _⟩ | ⟨g', cap', cur, e', hb, hh, hn, hm, hs, ht⟩
  · simp at h2
  · simp only [Value.slice.injEq, Option.some.injEq, Addr.mk.injEq, and_true, true_and] at e'
    obtain ⟨rfl, rfl⟩ := e'
    refine ⟨hn, by unfold maxLen at hm; omega, fun j hj => ?_⟩
    have : j < cur.size := by omega
    simp [World.cell?, hh, this]

theorem infoT : (Try.prog.info? 107).map (fun i => (i.zero, i.size, i.bytes)) = some (some (.pointer none), 1, 8) := by kernel_rfl
theorem zeroT (w : World) : (zeroValue 107).run Try.prog w = .ok (.pointer none) w := by kernel_rfl

set_option maxHeartbeats 2000000 in
set_option maxRecDepth 100000 in
theorem delete_any {base g n cap i : Nat} {xs : List Value} (w : World) (h : w.ownsRow base 107 1 (.slice (some ⟨g, 0, none⟩) n cap) n xs) (one : ∀ u ∈ xs, u.oneCell' = true) (hi : i < n) :
    Calls Try.prog 95 #[.slice (some ⟨g, 0, none⟩) n cap, .int .i64 i, .int .i64 (i + 1)] w fun e w' => e = .returned (.slice (some ⟨g, 0, none⟩) (n - 1) cap) ∧ w'.ownsRow base 107 1 (.slice (some ⟨g, 0, none⟩) (n - 1) cap) (n - 1) (xs.eraseIdx i) ∧ Only [g] w w' := by
  obtain ⟨hnc, hcm, hsome⟩ := own_cap h
  have hlen : xs.length = n := by have := h.1; omega
  obtain ⟨j, hj⟩ : ∃ j, j = i + 1 := ⟨_, rfl⟩
  have hj' : (i : Int) + 1 = (j : Int) := by omega
  obtain ⟨news, hnews⟩ : ∃ news, news = xs.drop j := ⟨_, rfl⟩
  have nlen : news.length = n - j := by rw [hnews, List.length_drop, hlen]
  obtain ⟨A, hA, hsrc⟩ : ∃ A : Addr, (if cap = j then some (⟨g, 0, none⟩ : Addr) else some ⟨g, j, none⟩) = some A ∧ Hid (∀ t u, news[t]? = some u → w.drew.cell? (A.add t) = some u) := by
    by_cases hc : cap = j
    · refine ⟨⟨g, 0, none⟩, by simp [hc], fun t u hu => ?_⟩
      have h0 : news.length = 0 := by omega
      rw [List.length_eq_zero_iff.1 h0] at hu
      simp at hu
    · refine ⟨⟨g, j, none⟩, by simp [hc], fun t u hu => ?_⟩
      have ht := (List.getElem?_eq_some_iff.1 hu).1
      have := h.cellAt (j + t) (by omega)
      rw [hnews, List.getElem?_drop] at hu
      rw [hu] at this
      rw [Addr.add_lit]
      exact this
  have s1 : Hid (news.length = (n - j) * 1) := by show _ = _; omega
  have s2 : Hid (∀ u ∈ news, u.oneCell' = true) := fun u hu => one u (by rw [hnews] at hu; exact List.mem_of_mem_drop hu)
  have own1 : Hid (w.drew.ownsRow base 107 1 (.slice (some ⟨g, 0, none⟩) i cap) i (xs.take i)) := own_prefix (i := i) h (by omega)
  obtain ⟨i0, hi0, hz0, hz1, hz2⟩ := info_parts infoT
  have HX : Hid (news = xs.drop j ∧ j = i + 1 ∧ xs.length = n) := ⟨hnews, hj, hlen⟩
  have hji : i < j := by omega
  have hjn : j ≤ n := by omega
  have hne : ¬ (i : Int) = (j : Int) := by omega
  have hne' : ¬ i = j := by omega
  have b1 : (j : Int) ≤ (n : Int) := by omega
  have b2 : (i : Int) ≤ (j : Int) := by omega
  have b3 : (n : Int) ≤ (cap : Int) := by omega
  have b4 : (i : Int) ≤ (cap : Int) := by omega
  have b5 : (j : Int) ≤ (cap : Int) := by omega
  obtain ⟨m, hm⟩ : ∃ m, i + (n - j) = m := ⟨_, rfl⟩
  have HM : Hid (i + (n - j) = m ∧ m = n - 1) := ⟨hm, by omega⟩
  have b6 : m < n := by omega
  have b7 : (m : Int) ≤ (n : Int) := by omega
  have b8 : ¬ cap = m := by omega
  have b9 : n - m = 1 := by omega
  clear hnews nlen hlen hj h one hsome
  go_enter Try.func95, Try.ntmps95
  go_wp2
  go_region_held3 (fun _ => True) (trivial)
    (first | (refine step_append_fits rfl (.tmp 22) (.tmp 25) 108 rfl base 107 i0 1 Try.underlying108 hi0 hz1 g i cap (xs.take i) (by simp [Act.eval]) own1.out A (n - j) (cap - j) news (by simp [Act.eval]) s1.out hsrc.out s2.out (by omega) ?_; intro W2 own2 grow2))
  rw [HM.out.1] at own2
  have sm := (own_cap own2).2.2
  have hcl : ∀ ty, (Builtin.clear_ #[108] ty #[.slice (some ⟨g, m, none⟩) 1 (cap - m)]).run Try.prog W2 = .ok (.tuple #[]) (W2.setCell ⟨g, m, none⟩ (.pointer none)) := fun ty =>
    Lib.run_clear_slice W2 _ _ ty _ Try.underlying108 zeroT rfl rfl g m 1 (cap - m) (by omega) (fun t ht => sm (m + t) (by omega)) (fun t _ => own2.frozenAt _)
  have O2 : Hid (W2.ownsRow base 107 1 (.slice (some ⟨g, 0, none⟩) m cap) m (xs.take i ++ news) ∧ (w.drew.grownBy W2 (some g))) := ⟨own2, grow2⟩
  clear own2 grow2 sm
  go_wp2
  go_ret
  obtain ⟨o2, gr⟩ := O2.out
  have st := (o2.stored m (.pointer none)).1
  have ex : xs.take i ++ news = xs.eraseIdx i := by rw [HX.out.1, HX.out.2.1, List.eraseIdx_eq_take_drop_succ]
  rw [ex] at st
  rw [List.set_eq_of_length_le (by rw [List.length_eraseIdx_of_lt (by rw [HX.out.2.2]; exact hi), HX.out.2.2, HM.out.2]; omega)] at st
  rw [← HM.out.2]
  exact ⟨rfl, st, ((Only.refl [g] w).drew.grown gr (fun k hk => .inl (by simp at hk; simp [hk]))).setCell (p := ⟨g, m, none⟩) (by simp) _⟩

set_option maxHeartbeats 1000000 in
set_option maxRecDepth 100000 in
theorem index_any {base g n cap i t : Nat} {ts : List Nat} (w : World) (h : w.ownsRow base 107 1 (.slice (some ⟨g, 0, none⟩) n cap) n (ts.map fun b => Value.pointer (some ⟨b, 0, none⟩))) (hn1 : n ≤ 1000)
    (ok : ∀ b ∈ ts, IsCells w b) (ht : ts[i]? = some t) (dis : ts.Pairwise (· ≠ ·)) :
    Calls Try.prog 72 #[.slice (some ⟨g, 0, none⟩) n cap, .pointer (some ⟨t, 0, none⟩)] w fun e w' => e = .returned (.int .i64 i) ∧ w' = w := by
  have hlen : ts.length = n := by have := h.1; simpa using this
  have il := (List.getElem?_eq_some_iff.1 ht).1
  obtain ⟨j0, hj0, hsz⟩ : ∃ j, Try.prog.info? 113 = some j ∧ j.size = 1 := by
    have h : (Try.prog.info? 113).map (fun i => i.size) = some 1 := by kernel_rfl
    cases e : Try.prog.info? 113 with
    | none => rw [e] at h; simp at h
    | some j => rw [e] at h; exact ⟨j, rfl, by simpa using h⟩
  have okt := ok t (List.mem_of_getElem? ht)
  have HT : Hid (ts[i]? = some t ∧ ts.length = n) := ⟨ht, hlen⟩
  have hin : i < n := by omega
  clear ht hlen il
  go_enter Try.func72, Try.ntmps72
  go_wp2
  go_loop [8] (fun q => ∃ k : Nat, k ≤ i ∧ q = .int .i64 k) (fun q => n - (intOf q).toNat)
  case atStart => exact ⟨0, by omega, rfl⟩
  case round =>
    obtain ⟨k, hk, rfl⟩ := hrel
    have hkn : k < n := by omega
    obtain ⟨u, hu⟩ : ∃ u, ts[k]? = some u := ⟨_, List.getElem?_eq_getElem (by rw [HT.out.2]; exact hkn)⟩
    have cu : w.cell? ⟨g, k, none⟩ = some (.pointer (some ⟨u, 0, none⟩)) := by
      have := h.cellAt k (by omega)
      rw [List.getElem?_map, hu] at this
      exact this
    by_cases hki : k = i
    · subst hki
      have hut : u = t := by rw [HT.out.1] at hu; exact (Option.some.inj hu).symm
      subst hut
      have law := run_eql_ptr_same (P := Try.prog) w (⟨u, 0, none⟩ : Addr) Try.underlying107 hj0
      clear hj0 hsz okt hu
      go_wp2
      go_ret
      exact ⟨rfl, rfl⟩
    · have hut : ¬ t = u := by
        intro e; subst e
        have h1 := List.getElem?_eq_some_iff.1 hu
        have h2 := List.getElem?_eq_some_iff.1 HT.out.1
        obtain ⟨a1, a2⟩ := h1
        obtain ⟨b1, b2⟩ := h2
        have := List.pairwise_iff_getElem.1 dis k i a1 b1 (by omega)
        rw [a2, b2] at this
        exact this rfl
      obtain ⟨cx, tx, hx⟩ := okt
      obtain ⟨cy, ty, hy⟩ := ok u (List.mem_of_getElem? hu)
      have law := run_eql_ptr_other (P := Try.prog) w (a := ⟨t, 0, none⟩) (b := ⟨u, 0, none⟩) Try.underlying107 hj0 (by omega) (fun h => by cases h; exact hut rfl) hx hy
      clear hj0 hsz hx hy hut
      go_wp2
      go_round
      case rel => exact ⟨k + 1, by omega, by go_num⟩
      case measure => simp [intOf]; omega
end Go.Proofs.Ytbfbijfedamgaaa.LI
