/- The contract of the heap's rise at int. -/
import Derived.Test.YtbfbijfedamgaaaHeapSwapI
namespace Go.Proofs.Ytbfbijfedamgaaa.HI
open Go.RowKit

/-- Where a thing lies. -/
theorem Raw.at {w : World} {b g n cap : Nat} {room puts : Int} {es : List (Ent Int)} (h : Raw w b room puts (.slice (some ⟨g, 0, none⟩) n cap) es) {i : Nat} {x : Ent Int} (hx : es[i]? = some x) :
    w.cell? ⟨g, i * 4, none⟩ = some (mkI x.v) ∧ w.cell? ⟨g, i * 4 + 1, none⟩ = some (.int .i64 x.a) ∧ w.cell? ⟨g, i * 4 + 2, none⟩ = some (.int .i64 x.b) ∧ w.cell? ⟨g, i * 4 + 3, none⟩ = some (.int .i64 x.t) := by
  have hn : n = es.length := by rcases h.own.2 with ⟨e, _⟩ | ⟨_, _, _, e, _⟩ <;> simp at e; exact e.2.1
  subst hn
  have hi := lt_of_some hx
  obtain ⟨a0, a1, a2, a3⟩ := cellsOf_get mkI hx
  exact ⟨(h.own.cellAt (i * 4) (by omega)).trans a0, (h.own.cellAt (i * 4 + 1) (by omega)).trans a1, (h.own.cellAt (i * 4 + 2) (by omega)).trans a2, (h.own.cellAt (i * 4 + 3) (by omega)).trans a3⟩
theorem Raw.len {w : World} {b g n cap : Nat} {room puts : Int} {es : List (Ent Int)} (h : Raw w b room puts (.slice (some ⟨g, 0, none⟩) n cap) es) : n = es.length := by
  rcases h.own.2 with ⟨e, _⟩ | ⟨_, _, _, e, _⟩ <;> simp at e; exact e.2.1

theorem lt_of_ltB {x y : Ent Int} (h : ltB x.a x.b x.t y.a y.b y.t = true) : Lt x y := by unfold ltB at h; unfold Lt; simpa using h
theorem le_of_ltB {x y : Ent Int} (h : ltB x.a x.b x.t y.a y.b y.t = false) : Le y x := by unfold ltB at h; unfold Le Lt; simpa using h

set_option maxHeartbeats 2000000 in
theorem rise_any {b : Nat} {room puts : Int} {v : Value} {es : List (Ent Int)} (i : Nat) (w : World) (h : Raw w b room puts v es) (hi : i < es.length) (hn : Near es i) :
    Calls Try.prog 84 #[.pointer (some ⟨b, 0, none⟩), .int .i64 i] w fun e w' => ∃ (k : Nat) (fs : List (Ent Int)), e = .returned (.int .i64 k) ∧ k < fs.length ∧ Down fs k ∧ fs.Perm es ∧ Raw w' b room puts v fs ∧ Only (foot b v) w w' := by
  rcases h.own.2 with ⟨rfl, hz⟩ | ⟨g, cap, cur, hv, -⟩
  · omega
  generalize es.length = n at hv
  subst hv
  go_enter Try.func84, Try.ntmps84
  go_wp2
  go_loopw [1] (fun q wr => ∃ (k : Nat) (fs : List (Ent Int)), q = .int .i64 k ∧ k < fs.length ∧ Near fs k ∧ fs.Perm es ∧ Raw wr b room puts (.slice (some ⟨g, 0, none⟩) n cap) fs ∧ Only (foot b (.slice (some ⟨g, 0, none⟩) n cap)) w wr) (fun q _ => (intOf q).toNat)
  case atStart => exact ⟨i, es, rfl, hi, hn, List.Perm.refl _, h, Only.refl _ _⟩
  case round =>
    obtain ⟨k, fs, rfl, hk, hnear, hperm, hr, hon⟩ := hrel
    have hl := hr.few
    by_cases h0 : 0 < k
    · obtain ⟨m, hm⟩ : ∃ m : Nat, (k - 1) / 2 = m := ⟨_, rfl⟩
      have hm' : ((k : Int) - 1) / 2 = (m : Int) := by omega
      have hmk : m < k := by omega
      have hmn : m < fs.length := by omega
      obtain ⟨x, hx⟩ : ∃ x, fs[k]? = some x := ⟨_, List.getElem?_eq_getElem hk⟩
      obtain ⟨y, hy⟩ : ∃ y, fs[m]? = some y := ⟨_, List.getElem?_eq_getElem hmn⟩
      have c2 := hr.c2
      obtain ⟨-, x1, x2, x3⟩ := hr.at hx
      obtain ⟨-, y1, y2, y3⟩ := hr.at hy
      have bl := hr.lt
      have gl := (hr.gt g rfl).2
      have hlen := hr.len
      have H1 : Hid (Raw wr b room puts (.slice (some ⟨g, 0, none⟩) n cap) fs) := hr
      have H2 : Hid (Near fs k ∧ fs.Perm es ∧ fs[k]? = some x ∧ fs[m]? = some y ∧ (k - 1) / 2 = m ∧ n = fs.length) := ⟨hnear, hperm, hx, hy, hm, hlen⟩
      have hkn : k < n := by omega
      have hmn2 : m < n := by omega
      clear hr hnear hperm hx hy hm h hn hlen
      cases hlt : ltB x.a x.b x.t y.a y.b y.t
      · have K : Hid (ltB x.a x.b x.t y.a y.b y.t = false) := hlt
        clear hlt
        have sb := fun w : World => K.out ▸ before_any x.a x.b x.t y.a y.b y.t w
        go_wp2_with fail
        go_region_held3 (fun w' => w'.cell? ⟨b, 2, none⟩ = some (.slice (some ⟨g, 0, none⟩) n cap) ∧ w'.cell? ⟨g, k * 4 + 1, none⟩ = some (.int .i64 x.a) ∧ w'.cell? ⟨g, k * 4 + 2, none⟩ = some (.int .i64 x.b) ∧ w'.cell? ⟨g, k * 4 + 3, none⟩ = some (.int .i64 x.t) ∧ w'.cell? ⟨g, m * 4 + 1, none⟩ = some (.int .i64 y.a) ∧ w'.cell? ⟨g, m * 4 + 2, none⟩ = some (.int .i64 y.b) ∧ w'.cell? ⟨g, m * 4 + 3, none⟩ = some (.int .i64 y.t)) (go_keep)
          (first | (go_at_call 105; refine (sb _).mono ?_; rintro e w1 ⟨rfl, g1⟩; have d2 := (g1.cell (p := ⟨b, 2, none⟩) bl).trans c2; have dx1 := (g1.cell (p := ⟨g, k * 4 + 1, none⟩) gl).trans x1; have dx2 := (g1.cell (p := ⟨g, k * 4 + 2, none⟩) gl).trans x2; have dx3 := (g1.cell (p := ⟨g, k * 4 + 3, none⟩) gl).trans x3; have dy1 := (g1.cell (p := ⟨g, m * 4 + 1, none⟩) gl).trans y1; have dy2 := (g1.cell (p := ⟨g, m * 4 + 2, none⟩) gl).trans y2; have dy3 := (g1.cell (p := ⟨g, m * 4 + 3, none⟩) gl).trans y3))
        go_wp2
        go_ret
        obtain ⟨a1, a2, a3, a4, a5, a6⟩ := H2.out
        exact ⟨k, fs, rfl, hk, near_down a1 (.inr (by rw [a5]; intro u v hu hv; rw [a4] at hu; rw [a3] at hv; cases hu; cases hv; exact le_of_ltB K.out)), a2, H1.out.drew.below g1, hon.drew.trans (Below.only g1 []) (by simp)⟩
      · have K : Hid (ltB x.a x.b x.t y.a y.b y.t = true) := hlt
        clear hlt
        have sb := fun w : World => K.out ▸ before_any x.a x.b x.t y.a y.b y.t w
        go_wp2_with fail
        go_region_held3 (fun w' => w'.cell? ⟨b, 2, none⟩ = some (.slice (some ⟨g, 0, none⟩) n cap) ∧ w'.cell? ⟨g, k * 4 + 1, none⟩ = some (.int .i64 x.a) ∧ w'.cell? ⟨g, k * 4 + 2, none⟩ = some (.int .i64 x.b) ∧ w'.cell? ⟨g, k * 4 + 3, none⟩ = some (.int .i64 x.t) ∧ w'.cell? ⟨g, m * 4 + 1, none⟩ = some (.int .i64 y.a) ∧ w'.cell? ⟨g, m * 4 + 2, none⟩ = some (.int .i64 y.b) ∧ w'.cell? ⟨g, m * 4 + 3, none⟩ = some (.int .i64 y.t)) (go_keep)
          (first | (go_at_call 105; refine (sb _).mono ?_; rintro e w1 ⟨rfl, g1⟩; have d2 := (g1.cell (p := ⟨b, 2, none⟩) bl).trans c2; have dx1 := (g1.cell (p := ⟨g, k * 4 + 1, none⟩) gl).trans x1; have dx2 := (g1.cell (p := ⟨g, k * 4 + 2, none⟩) gl).trans x2; have dx3 := (g1.cell (p := ⟨g, k * 4 + 3, none⟩) gl).trans x3; have dy1 := (g1.cell (p := ⟨g, m * 4 + 1, none⟩) gl).trans y1; have dy2 := (g1.cell (p := ⟨g, m * 4 + 2, none⟩) gl).trans y2; have dy3 := (g1.cell (p := ⟨g, m * 4 + 3, none⟩) gl).trans y3))
        go_wp2_with (go_at_call 106; refine (swap_any k m _ (H1.out.drew.below g1) hk hmn (by omega)).mono ?_; rintro e w2 ⟨rfl, r2, o2⟩)
        go_roundw
        case rel =>
          obtain ⟨a1, a2, a3, a4, a5, a6⟩ := H2.out
          subst a5
          exact ⟨_, swp fs k ((k - 1) / 2), rfl, by rw [swp_length]; omega, near_rise a1 h0 a3 a4 (lt_of_ltB K.out), (swp_perm _ _ _).trans a2, r2, (hon.drew.trans (Below.only g1 []) (by simp)).trans o2 (fun k hk => .inl hk)⟩
        case measure => simp [intOf]; omega
    · have hk0 : k = 0 := by omega
      subst hk0
      go_wp2
      go_ret
      exact ⟨0, fs, rfl, hk, near_down hnear (.inl rfl), hperm, hr, hon⟩
end Go.Proofs.Ytbfbijfedamgaaa.HI
