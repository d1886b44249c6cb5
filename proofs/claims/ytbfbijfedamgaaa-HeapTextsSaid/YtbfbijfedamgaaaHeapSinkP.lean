/- The contract of the heap's sink at *hortator/line.thing[int]. -/
import Derived.Test.YtbfbijfedamgaaaHeapRiseP
namespace Go.Proofs.Ytbfbijfedamgaaa.HP
open Go.RowKit

/-- Behind j of the two below the one at k: the first of it and them stands at l. -/
structure SinkL (fs : List (Ent Nat)) (k j l : Nat) : Prop where
  from_ : l = k ∨ 0 < l ∧ (l - 1) / 2 = k
  ahead : ∀ x y, l ≠ k → fs[l]? = some x → fs[k]? = some y → Lt x y
  all : ∀ c, 0 < c → (c - 1) / 2 = k → c ≤ 2 * k + j → At fs l c
theorem sinkL_start {fs : List (Ent Nat)} (k : Nat) : SinkL fs k 0 k := ⟨.inl rfl, fun _ _ h => absurd rfl h, fun c h1 h2 h3 => by omega⟩
theorem sinkL_stay {fs : List (Ent Nat)} {k j l c : Nat} {y z : Ent Nat} (h : SinkL fs k j l) (hy : fs[l]? = some y) (hz : fs[c]? = some z) (hc : c = 2 * k + 1 + j) (hle : Le y z) : SinkL fs k (j + 1) l :=
  ⟨h.from_, h.ahead, fun d h1 h2 h3 => by
    by_cases e : d = c
    · subst e; intro u v hu hv; rw [hy] at hu; rw [hz] at hv; cases hu; cases hv; exact hle
    · exact h.all d h1 h2 (by omega)⟩
theorem sinkL_turn {fs : List (Ent Nat)} {k j l c : Nat} {y z : Ent Nat} (h : SinkL fs k j l) (hy : fs[l]? = some y) (hz : fs[c]? = some z) (hc : c = 2 * k + 1 + j) (hlt : Lt z y) (hj : j ≤ 1 := by omega) : SinkL fs k (j + 1) c := by
  refine ⟨.inr ⟨by omega, by omega⟩, fun u v _ hu hv => ?_, fun d h1 h2 h3 => ?_⟩
  · rw [hz] at hu; cases hu
    by_cases e : l = k
    · subst e; rw [hy] at hv; cases hv; exact hlt
    · have := h.ahead y v e hy hv; unfold Lt at *; omega
  · by_cases e : d = c
    · subst e; intro u v hu hv; rw [hu] at hv; cases hv; exact Le.refl _
    · intro u v hu hv; rw [hz] at hu; cases hu; exact hlt.le.trans (h.all d h1 h2 (by omega) y v hy hv)
theorem sinkL_past {fs : List (Ent Nat)} {k j l c : Nat} (h : SinkL fs k j l) (hn : fs.length ≤ c) (hc : c = 2 * k + 1 + j) : SinkL fs k (j + 1) l :=
  ⟨h.from_, h.ahead, fun d h1 h2 h3 => by
    by_cases e : d = c
    · subst e; intro u v hu hv; have := lt_of_some hv; omega
    · exact h.all d h1 h2 (by omega)⟩

theorem ix0 (x y : Int) (w : World) : (Instr.index 69 (.agg #[.int .i64 x, .int .i64 y]) (.int .i64 0)).run Try.prog w = .ok (.int .i64 x) w := by kernel_rfl
theorem ix1 (x y : Int) (w : World) : (Instr.index 69 (.agg #[.int .i64 x, .int .i64 y]) (.int .i64 1)).run Try.prog w = .ok (.int .i64 y) w := by kernel_rfl

set_option maxHeartbeats 4000000 in
set_option maxRecDepth 100000 in
theorem sink_any {b : Nat} {room puts : Int} {v : Value} {es : List (Ent Nat)} (i : Nat) (w : World) (h : Raw w b room puts v es) (hi : i < es.length) (hd : Down es i) :
    Calls Try.prog 112 #[.pointer (some ⟨b, 0, none⟩), .int .i64 i] w fun e w' => ∃ fs : List (Ent Nat), e = .returned (.tuple #[]) ∧ Heap fs ∧ fs.Perm es ∧ Raw w' b room puts v fs ∧ Only (foot b v) w w' := by
  rcases h.own.2 with ⟨rfl, hz⟩ | ⟨g, cap, cur, hv, -⟩
  · omega
  generalize es.length = n at hv
  subst hv
  go_enter Try.func112, Try.ntmps112
  go_wp2
  go_loopw [1] (fun q wr => ∃ (k : Nat) (fs : List (Ent Nat)), q = .int .i64 k ∧ k < n ∧ Down fs k ∧ fs.Perm es ∧ Raw wr b room puts (.slice (some ⟨g, 0, none⟩) n cap) fs ∧ Only (foot b (.slice (some ⟨g, 0, none⟩) n cap)) w wr) (fun q _ => n - (intOf q).toNat)
  case atStart => exact ⟨i, es, rfl, by rw [h.len]; exact hi, hd, List.Perm.refl _, h, Only.refl _ _⟩
  case round =>
    obtain ⟨k, fs, rfl, hk, hdown, hperm, hr, hon⟩ := hrel
    have hl := hr.few
    have hlen := hr.len
    obtain ⟨cl, hc1⟩ : ∃ c : Nat, c = 2 * k + 1 := ⟨_, rfl⟩
    obtain ⟨cr, hc2⟩ : ∃ c : Nat, c = 2 * k + 2 := ⟨_, rfl⟩
    have E1 : 2 * (k : Int) + 1 = (cl : Int) := by omega
    have E2 : 2 * (k : Int) + 2 = (cr : Int) := by omega
    have E : Hid (True ∧ cl = 2 * k + 1 + 0 ∧ cr = 2 * k + 1 + 1) := ⟨trivial, hc1, hc2⟩
    have H2 : Hid (Down fs k ∧ fs.Perm es) := ⟨hdown, hperm⟩
    have hn1 : n ≤ 1000 := by omega
    have HN : Hid (n = fs.length) := hlen
    clear hc1 hc2 hdown hperm h hd hi hlen
    go_wp2
    go_loopw [4, 15] (fun sl sj wr2 => ∃ j l : Nat, j ≤ 2 ∧ sj = .int .i64 j ∧ sl = .int .i64 l ∧ l < n ∧ SinkL fs k j l ∧ Raw wr2 b room puts (.slice (some ⟨g, 0, none⟩) n cap) fs ∧ Only (foot b (.slice (some ⟨g, 0, none⟩) n cap)) w wr2) (fun _ sj _ => 2 - (intOf sj).toNat)
    case atStart => exact ⟨0, k, by omega, rfl, rfl, hk, sinkL_start k, hr, hon⟩
    case round =>
      obtain ⟨j, l, hj, rfl, rfl, hln, hL, hr2, hon2⟩ := hrel
      obtain ⟨y, hy⟩ : ∃ y, fs[l]? = some y := ⟨_, List.getElem?_eq_getElem (by have := HN.out; omega)⟩
      clear hr hon E1 E2
      have ix0 := ix0 cl cr
      have ix1 := ix1 cl cr
      rcases (by omega : j = 0 ∨ j = 1 ∨ j = 2) with rfl | rfl | rfl
      · -- the one below at cl
        by_cases hcn : cl < n
        · obtain ⟨z, hz⟩ : ∃ z, fs[cl]? = some z := ⟨_, List.getElem?_eq_getElem (by have := HN.out; omega)⟩
          obtain ⟨-, z1, z2, z3⟩ := hr2.at hz
          obtain ⟨-, y1, y2, y3⟩ := hr2.at hy
          have c2 := hr2.c2
          have bl := hr2.lt
          have gl := (hr2.gt g rfl).2
          have H3 : Hid (Raw wr b room puts (.slice (some ⟨g, 0, none⟩) n cap) fs) := hr2
          have H4 : Hid (fs[l]? = some y ∧ fs[cl]? = some z) := ⟨hy, hz⟩
          have hcn' : (cl : Int) < (n : Int) := by omega
          have hcd : decide ((cl : Int) < (n : Int)) = true := decide_eq_true hcn'
          clear hr2 hy hz
          cases hlt : ltB z.a z.b z.t y.a y.b y.t
          · have K : Hid (ltB z.a z.b z.t y.a y.b y.t = false) := hlt
            clear hlt
            have sb := fun w : World => K.out ▸ before_any z.a z.b z.t y.a y.b y.t w
            go_wp2_with fail
            go_region_held3 (fun w' => w'.cell? ⟨b, 2, none⟩ = some (.slice (some ⟨g, 0, none⟩) n cap) ∧ w'.cell? ⟨g, cl * 4 + 1, none⟩ = some (.int .i64 z.a) ∧ w'.cell? ⟨g, cl * 4 + 2, none⟩ = some (.int .i64 z.b) ∧ w'.cell? ⟨g, cl * 4 + 3, none⟩ = some (.int .i64 z.t) ∧ w'.cell? ⟨g, l * 4 + 1, none⟩ = some (.int .i64 y.a) ∧ w'.cell? ⟨g, l * 4 + 2, none⟩ = some (.int .i64 y.b) ∧ w'.cell? ⟨g, l * 4 + 3, none⟩ = some (.int .i64 y.t)) (go_keep)
              (first | (go_at_call 105; refine (sb _).mono ?_; rintro e w1 ⟨rfl, g1⟩; have d2 := (g1.cell (p := ⟨b, 2, none⟩) bl).trans c2; have dz1 := (g1.cell (p := ⟨g, cl * 4 + 1, none⟩) gl).trans z1; have dz2 := (g1.cell (p := ⟨g, cl * 4 + 2, none⟩) gl).trans z2; have dz3 := (g1.cell (p := ⟨g, cl * 4 + 3, none⟩) gl).trans z3; have dy1 := (g1.cell (p := ⟨g, l * 4 + 1, none⟩) gl).trans y1; have dy2 := (g1.cell (p := ⟨g, l * 4 + 2, none⟩) gl).trans y2; have dy3 := (g1.cell (p := ⟨g, l * 4 + 3, none⟩) gl).trans y3))
            go_wp2
            go_roundw
            case rel =>
              exact ⟨0 + 1, l, by omega, by go_num, rfl, hln, sinkL_stay hL H4.out.1 H4.out.2 (E.out.2.1) (le_of_ltB K.out), H3.out.drew.below g1, hon2.drew.trans (Below.only g1 []) (by simp)⟩
            case measure => simp [intOf]
          · have K : Hid (ltB z.a z.b z.t y.a y.b y.t = true) := hlt
            clear hlt
            have sb := fun w : World => K.out ▸ before_any z.a z.b z.t y.a y.b y.t w
            go_wp2_with fail
            go_region_held3 (fun w' => w'.cell? ⟨b, 2, none⟩ = some (.slice (some ⟨g, 0, none⟩) n cap) ∧ w'.cell? ⟨g, cl * 4 + 1, none⟩ = some (.int .i64 z.a) ∧ w'.cell? ⟨g, cl * 4 + 2, none⟩ = some (.int .i64 z.b) ∧ w'.cell? ⟨g, cl * 4 + 3, none⟩ = some (.int .i64 z.t) ∧ w'.cell? ⟨g, l * 4 + 1, none⟩ = some (.int .i64 y.a) ∧ w'.cell? ⟨g, l * 4 + 2, none⟩ = some (.int .i64 y.b) ∧ w'.cell? ⟨g, l * 4 + 3, none⟩ = some (.int .i64 y.t)) (go_keep)
              (first | (go_at_call 105; refine (sb _).mono ?_; rintro e w1 ⟨rfl, g1⟩; have d2 := (g1.cell (p := ⟨b, 2, none⟩) bl).trans c2; have dz1 := (g1.cell (p := ⟨g, cl * 4 + 1, none⟩) gl).trans z1; have dz2 := (g1.cell (p := ⟨g, cl * 4 + 2, none⟩) gl).trans z2; have dz3 := (g1.cell (p := ⟨g, cl * 4 + 3, none⟩) gl).trans z3; have dy1 := (g1.cell (p := ⟨g, l * 4 + 1, none⟩) gl).trans y1; have dy2 := (g1.cell (p := ⟨g, l * 4 + 2, none⟩) gl).trans y2; have dy3 := (g1.cell (p := ⟨g, l * 4 + 3, none⟩) gl).trans y3))
            go_wp2
            go_roundw
            case rel =>
              exact ⟨0 + 1, cl, by omega, by go_num, rfl, hcn, sinkL_turn hL H4.out.1 H4.out.2 (E.out.2.1) (lt_of_ltB K.out), H3.out.drew.below g1, hon2.drew.trans (Below.only g1 []) (by simp)⟩
            case measure => simp [intOf]
        · have hcn' : decide ((cl : Int) < (n : Int)) = false := decide_eq_false (by omega)
          have c2 := hr2.c2
          have H3 : Hid (Raw wr b room puts (.slice (some ⟨g, 0, none⟩) n cap) fs) := hr2
          clear hr2 hy
          go_wp2_with fail
          go_quiet (fail)
          go_wp2
          go_roundw
          case rel =>
            exact ⟨0 + 1, l, by omega, by go_num, rfl, hln, sinkL_past hL (by have := HN.out; omega) (E.out.2.1), H3.out.below (below_drewN _ _), hon2.trans (Below.only (below_drewN _ _) []) (by simp)⟩
          case measure => simp [intOf]
      · -- the one below at cr
        by_cases hcn : cr < n
        · obtain ⟨z, hz⟩ : ∃ z, fs[cr]? = some z := ⟨_, List.getElem?_eq_getElem (by have := HN.out; omega)⟩
          obtain ⟨-, z1, z2, z3⟩ := hr2.at hz
          obtain ⟨-, y1, y2, y3⟩ := hr2.at hy
          have c2 := hr2.c2
          have bl := hr2.lt
          have gl := (hr2.gt g rfl).2
          have H3 : Hid (Raw wr b room puts (.slice (some ⟨g, 0, none⟩) n cap) fs) := hr2
          have H4 : Hid (fs[l]? = some y ∧ fs[cr]? = some z) := ⟨hy, hz⟩
          have hcn' : (cr : Int) < (n : Int) := by omega
          have hcd : decide ((cr : Int) < (n : Int)) = true := decide_eq_true hcn'
          clear hr2 hy hz
          cases hlt : ltB z.a z.b z.t y.a y.b y.t
          · have K : Hid (ltB z.a z.b z.t y.a y.b y.t = false) := hlt
            clear hlt
            have sb := fun w : World => K.out ▸ before_any z.a z.b z.t y.a y.b y.t w
            go_wp2_with fail
            go_region_held3 (fun w' => w'.cell? ⟨b, 2, none⟩ = some (.slice (some ⟨g, 0, none⟩) n cap) ∧ w'.cell? ⟨g, cr * 4 + 1, none⟩ = some (.int .i64 z.a) ∧ w'.cell? ⟨g, cr * 4 + 2, none⟩ = some (.int .i64 z.b) ∧ w'.cell? ⟨g, cr * 4 + 3, none⟩ = some (.int .i64 z.t) ∧ w'.cell? ⟨g, l * 4 + 1, none⟩ = some (.int .i64 y.a) ∧ w'.cell? ⟨g, l * 4 + 2, none⟩ = some (.int .i64 y.b) ∧ w'.cell? ⟨g, l * 4 + 3, none⟩ = some (.int .i64 y.t)) (go_keep)
              (first | (go_at_call 105; refine (sb _).mono ?_; rintro e w1 ⟨rfl, g1⟩; have d2 := (g1.cell (p := ⟨b, 2, none⟩) bl).trans c2; have dz1 := (g1.cell (p := ⟨g, cr * 4 + 1, none⟩) gl).trans z1; have dz2 := (g1.cell (p := ⟨g, cr * 4 + 2, none⟩) gl).trans z2; have dz3 := (g1.cell (p := ⟨g, cr * 4 + 3, none⟩) gl).trans z3; have dy1 := (g1.cell (p := ⟨g, l * 4 + 1, none⟩) gl).trans y1; have dy2 := (g1.cell (p := ⟨g, l * 4 + 2, none⟩) gl).trans y2; have dy3 := (g1.cell (p := ⟨g, l * 4 + 3, none⟩) gl).trans y3))
            go_wp2
            go_roundw
            case rel =>
              exact ⟨1 + 1, l, by omega, by go_num, rfl, hln, sinkL_stay hL H4.out.1 H4.out.2 (E.out.2.2) (le_of_ltB K.out), H3.out.drew.below g1, hon2.drew.trans (Below.only g1 []) (by simp)⟩
            case measure => simp [intOf]
          · have K : Hid (ltB z.a z.b z.t y.a y.b y.t = true) := hlt
            clear hlt
            have sb := fun w : World => K.out ▸ before_any z.a z.b z.t y.a y.b y.t w
            go_wp2_with fail
            go_region_held3 (fun w' => w'.cell? ⟨b, 2, none⟩ = some (.slice (some ⟨g, 0, none⟩) n cap) ∧ w'.cell? ⟨g, cr * 4 + 1, none⟩ = some (.int .i64 z.a) ∧ w'.cell? ⟨g, cr * 4 + 2, none⟩ = some (.int .i64 z.b) ∧ w'.cell? ⟨g, cr * 4 + 3, none⟩ = some (.int .i64 z.t) ∧ w'.cell? ⟨g, l * 4 + 1, none⟩ = some (.int .i64 y.a) ∧ w'.cell? ⟨g, l * 4 + 2, none⟩ = some (.int .i64 y.b) ∧ w'.cell? ⟨g, l * 4 + 3, none⟩ = some (.int .i64 y.t)) (go_keep)
              (first | (go_at_call 105; refine (sb _).mono ?_; rintro e w1 ⟨rfl, g1⟩; have d2 := (g1.cell (p := ⟨b, 2, none⟩) bl).trans c2; have dz1 := (g1.cell (p := ⟨g, cr * 4 + 1, none⟩) gl).trans z1; have dz2 := (g1.cell (p := ⟨g, cr * 4 + 2, none⟩) gl).trans z2; have dz3 := (g1.cell (p := ⟨g, cr * 4 + 3, none⟩) gl).trans z3; have dy1 := (g1.cell (p := ⟨g, l * 4 + 1, none⟩) gl).trans y1; have dy2 := (g1.cell (p := ⟨g, l * 4 + 2, none⟩) gl).trans y2; have dy3 := (g1.cell (p := ⟨g, l * 4 + 3, none⟩) gl).trans y3))
            go_wp2
            go_roundw
            case rel =>
              exact ⟨1 + 1, cr, by omega, by go_num, rfl, hcn, sinkL_turn hL H4.out.1 H4.out.2 (E.out.2.2) (lt_of_ltB K.out), H3.out.drew.below g1, hon2.drew.trans (Below.only g1 []) (by simp)⟩
            case measure => simp [intOf]
        · have hcn' : decide ((cr : Int) < (n : Int)) = false := decide_eq_false (by omega)
          have c2 := hr2.c2
          have H3 : Hid (Raw wr b room puts (.slice (some ⟨g, 0, none⟩) n cap) fs) := hr2
          clear hr2 hy
          go_wp2_with fail
          go_quiet (fail)
          go_wp2
          go_roundw
          case rel =>
            exact ⟨1 + 1, l, by omega, by go_num, rfl, hln, sinkL_past hL (by have := HN.out; omega) (E.out.2.2), H3.out.below (below_drewN _ _), hon2.trans (Below.only (below_drewN _ _) []) (by simp)⟩
          case measure => simp [intOf]
      · have HL : Hid (SinkL fs k 2 l) := hL
        clear hL
        by_cases hlk : l = k
        · subst hlk
          go_wp2
          refine bodyPost_ret (results_none rfl _ _ _) rfl ?_
          exact ⟨fs, rfl, down_heap H2.out.1 (fun c h1 h2 => HL.out.all c h1 h2 (by omega)), H2.out.2, hr2, hon2⟩
        · have hlk' : ¬ (l : Int) = (k : Int) := by omega
          go_wp2_with (go_at_call 122; refine (swap_any k l _ hr2 (by have := HN.out; omega) (by have := HN.out; omega) (by omega)).mono ?_; rintro e w2 ⟨rfl, r2, o2⟩)
          go_roundw
          case rel =>
            obtain ⟨q1, q2⟩ : 0 < l ∧ (l - 1) / 2 = k := by rcases HL.out.from_ with e | e; exact absurd e hlk; exact e
            obtain ⟨x, hx⟩ : ∃ x, fs[k]? = some x := ⟨_, List.getElem?_eq_getElem (by have := HN.out; omega)⟩
            exact ⟨l, swp fs k l, rfl, hln, down_sink H2.out.1 q1 q2 hx hy (HL.out.ahead _ _ hlk hy hx) (fun c h1 h2 => HL.out.all c h1 h2 (by omega)), (swp_perm _ _ _).trans H2.out.2, r2, hon2.trans o2 (fun k hk => .inl hk)⟩
          case measure =>
            have q : 0 < l ∧ (l - 1) / 2 = k := by rcases HL.out.from_ with e | e; exact absurd e hlk; exact e
            simp [intOf]; omega
end Go.Proofs.Ytbfbijfedamgaaa.HP
