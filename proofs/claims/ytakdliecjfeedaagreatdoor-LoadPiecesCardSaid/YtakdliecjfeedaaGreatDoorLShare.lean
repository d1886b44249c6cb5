/- The contracts of load.part, load.shareOf, load.Share. -/
import Derived.Test.YtakdliecjfeedaaGreatDoorLMay
import Derived.Test.YtakdliecjfeedaaGreatDoorDem2
import Derived.Deep.QuietTactic
import Derived.BigQuiet
namespace Go.Proofs.YtakdliecjfeedaaGreatDoor
open Go Go.RowKit

theorem ret_uu {a b c d : Int} (h : a = b) (g : c = d) : Ending.returned (.tuple #[.int .u64 a, .int .u64 c]) = .returned (.tuple #[.int .u64 b, .int .u64 d]) := by rw [h, g]
set_option maxHeartbeats 1000000 in
theorem div64_low (x y : Int) (w : World) (h0 : 0 ≤ x) (h1 : x ≤ 18446744073709551615) (hy : 1 ≤ y) (hy1 : y ≤ 18446744073709551615) :
    Calls Tryz.prog 69 #[.int .u64 0, .int .u64 x, .int .u64 y] w fun e w' => e = .returned (.tuple #[.int .u64 (x / y), .int .u64 (x % y)]) ∧ Below w.heap.size w w' := by
  have e0 : ¬ y = 0 := by omega
  have e1 : ¬ y ≤ 0 := by omega
  have e2 : x.tdiv y = x / y := Int.tdiv_eq_ediv_of_nonneg h0
  have e3 : x.tmod y = x % y := Int.tmod_eq_emod_of_nonneg h0
  have b0 : 0 ≤ x / y := Int.ediv_nonneg h0 (by omega)
  have b1 : x / y ≤ x := Int.ediv_le_self _ h0
  have b2 : 0 ≤ x % y := Int.emod_nonneg _ (by omega)
  have b3 : x % y < y := Int.emod_lt_of_pos _ (by omega)
  have W1 : IntKind.u64.wrap (x / y) = x / y := by rw [IntKind.wrap_u64]; omega
  have W2 : IntKind.u64.wrap (x % y) = x % y := by rw [IntKind.wrap_u64]; omega
  go_enter Tryz.func69, Tryz.ntmps69
  go_wp2_with fail
  go_big_quiet (fail)
  go_wp2_with fail
  go_ret2
  exact ⟨ret_uu (by first | rfl | omega) (by first | rfl | omega), bdrewN _ _⟩
theorem mul64_low (x y p : Int) (w : World) (hx0 : 0 ≤ x) (hx : x ≤ 1000000) (hy0 : 0 ≤ y) (hy : y ≤ 1000000) (hp : x * y = p) :
    Calls Tryz.prog 68 #[.int .u64 x, .int .u64 y] w fun e w' => e = .returned (.tuple #[.int .u64 0, .int .u64 p]) ∧ w' = w := by
  have h := T.mul64_any x y w hx0 (by omega) hy0 (by omega)
  have a := Int.mul_nonneg hx0 hy0
  have b : x * y ≤ 1000000 * 1000000 := Int.mul_le_mul hx hy hy0 (by omega)
  rw [hp] at h a b
  rw [show p / 18446744073709551616 = 0 by omega, show p % 18446744073709551616 = p by omega] at h
  exact h
set_option maxHeartbeats 1000000 in
theorem part_any (r t : Int) (w : World) (h0 : 0 ≤ r) (h1 : r < t) (h2 : t ≤ 200) :
    Calls Tryz.prog 55 #[.int .i64 r, .int .i64 t] w fun e w' => e = .returned (.int .i64 (r * 10000 / t + if 0 < r * 10000 % t then 1 else 0)) ∧ Below w.heap.size w w' := by
  have e1 : max r (-r) = r := by omega
  have b0 : 0 ≤ r * 10000 / t := Int.ediv_nonneg (by omega) (by omega)
  have b1 : r * 10000 / t ≤ r * 10000 := Int.ediv_le_self _ (by omega)
  have b2 : 0 ≤ r * 10000 % t := Int.emod_nonneg _ (by omega)
  have b3 : r * 10000 % t < t := Int.emod_lt_of_pos _ (by omega)
  obtain ⟨P, hP⟩ : ∃ P, r * 10000 = P := ⟨_, rfl⟩
  have HP : Hid (r * 10000 = P) := hP
  rw [hP] at b0 b1 b2 b3 ⊢
  have p0 : 0 ≤ P ∧ P ≤ 2000000 := by omega
  clear hP
  obtain ⟨Q, hQ⟩ : ∃ Q, P / t = Q := ⟨_, rfl⟩
  obtain ⟨R, hR⟩ : ∃ R, P % t = R := ⟨_, rfl⟩
  have HQ : Hid (P / t = Q) := hQ
  have HR : Hid (P % t = R) := hR
  rw [hQ] at b0 b1 ⊢
  rw [hR] at b2 b3 ⊢
  clear hQ hR
  by_cases hc : 0 < R
  · rw [if_pos hc]
    go_enter Tryz.func55, Tryz.ntmps55
    go_wp2_with (first | (go_at_call 68; refine (mul64_low _ _ P _ (by omega) (by omega) (by omega) (by omega) HP.out).mono ?_; rintro e w1 ⟨rfl, rfl⟩) | (go_at_call 69; refine (div64_low P t _ (by omega) (by omega) (by omega) (by omega)).mono ?_; rintro e w2 ⟨rfl, g2⟩; rw [HQ.out, HR.out]; have G2 := g2; clear g2))
    go_ret
    exact ⟨ret_int (by first | rfl | omega), G2⟩
  · rw [if_neg hc]
    go_enter Tryz.func55, Tryz.ntmps55
    go_wp2_with (first | (go_at_call 68; refine (mul64_low _ _ P _ (by omega) (by omega) (by omega) (by omega) HP.out).mono ?_; rintro e w1 ⟨rfl, rfl⟩) | (go_at_call 69; refine (div64_low P t _ (by omega) (by omega) (by omega) (by omega)).mono ?_; rintro e w2 ⟨rfl, g2⟩; rw [HQ.out, HR.out]; have G2 := g2; clear g2))
    go_ret
    exact ⟨ret_int (by first | rfl | omega), G2⟩
theorem ret_ib {a b : Int} {c d : Bool} (h : a = b) (g : c = d) : Ending.returned (.tuple #[.int .i64 a, .bool c]) = .returned (.tuple #[.int .i64 b, .bool d]) := by rw [h, g]
theorem tmul_at (a b p : Int) (w : World) (h1 : -9223372036854775808 ≤ a) (h2 : a ≤ 9223372036854775807) (h3 : -9223372036854775808 ≤ b) (h4 : b ≤ 9223372036854775807) (hp : a * b = p) (h5 : -9223372036854775808 ≤ p) (h6 : p ≤ 9223372036854775807) :
    Calls Tryz.prog 53 #[.int .i64 a, .int .i64 b] w fun e w' => e = .returned (.tuple #[.int .i64 p, .bool true]) ∧ w' = w := by
  have h := T.mul_any a b w h1 h2 h3 h4
  rw [hp, T.fitV_yes h5 h6, T.fitB_yes h5 h6] at h
  exact h
theorem tadd_at (a b p : Int) (w : World) (h1 : -9223372036854775808 ≤ a) (h2 : a ≤ 9223372036854775807) (h3 : -9223372036854775808 ≤ b) (h4 : b ≤ 9223372036854775807) (hp : a + b = p) (h5 : -9223372036854775808 ≤ p) (h6 : p ≤ 9223372036854775807) :
    Calls Tryz.prog 54 #[.int .i64 a, .int .i64 b] w fun e w' => e = .returned (.tuple #[.int .i64 p, .bool true]) ∧ w' = w := by
  have h := T.add_any a b w h1 h2 h3 h4
  rw [hp, T.fitV_yes h5 h6, T.fitB_yes h5 h6] at h
  exact h
set_option maxHeartbeats 2000000 in
theorem shareOf_any (c d t : Int) (w : World) (h0 : 1 ≤ c) (h1 : c ≤ 20000) (h2 : 1 ≤ t) (h3 : t ≤ 200) :
    Calls Tryz.prog 46 #[.agg #[.int .i64 c, .int .i64 d, .int .i64 t]] w fun e w' => e = .returned (.tuple #[.int .i64 (shareF c t), .bool true]) ∧ Below w.heap.size w w' := by
  have S0 := share_parts (c := c) h2
  have B0 := share_bd h0 h1 h2
  obtain ⟨z, hz⟩ : ∃ z, shareF c t = z := ⟨_, rfl⟩
  rw [hz] at S0 B0 ⊢
  have q0 : 0 ≤ c / t := Int.ediv_nonneg (by omega) (by omega)
  have q1 : c / t ≤ c := Int.ediv_le_self _ (by omega)
  have r0 : 0 ≤ c % t := Int.emod_nonneg _ (by omega)
  have r1 : c % t < t := Int.emod_lt_of_pos _ (by omega)
  have e0 : ¬ t = 0 := by omega
  have e2 : c.tdiv t = c / t := Int.tdiv_eq_ediv_of_nonneg (by omega)
  have e3 : c.tmod t = c % t := Int.tmod_eq_emod_of_nonneg (by omega)
  obtain ⟨Q, hQ⟩ : ∃ Q, c / t = Q := ⟨_, rfl⟩
  obtain ⟨R, hR⟩ : ∃ R, c % t = R := ⟨_, rfl⟩
  rw [hQ] at S0 q0 q1 e2
  rw [hR] at S0 r0 r1 e3
  have W1 : IntKind.i64.wrap Q = Q := IntWalk.i64_in _ (by omega)
  have W2 : IntKind.i64.wrap R = R := IntWalk.i64_in _ (by omega)
  obtain ⟨Z, hZ⟩ : ∃ Z, (R * 10000 / t + if 0 < R * 10000 % t then 1 else 0) = Z := ⟨_, rfl⟩
  rw [hZ] at S0
  have HZ : Hid ((R * 10000 / t + if 0 < R * 10000 % t then 1 else 0) = Z) := hZ
  clear hZ hQ hR hz
  have z0 : 0 ≤ z ∧ z ≤ 200000000 := B0
  have K0 : Hid (Bx w w.heap.size #[.int .i64 c, .int .i64 d, .int .i64 t] 55 (w.alloc (.cells #[.int .i64 c, .int .i64 d, .int .i64 t] 55))) := Bx.alloc _ _ (Below.refl _ _)
  go_enter Tryz.func46, Tryz.ntmps46
  go_wp2_with (first | (go_at_call 53; refine (tmul_at _ _ (Q * 10000) _ (by omega) (by omega) (by omega) (by omega) rfl (by omega) (by omega)).mono ?_; rintro e w1 ⟨rfl, rfl⟩) | fail)
  generalize hW : w.alloc _ = W1 at K0 ⊢
  clear hW
  have c0 := K0.out.blk.cell 0
  have c1 := K0.out.blk.cell 1
  have c2 := K0.out.blk.cell 2
  simp at c0 c1 c2
  go_region_held3 (fun w' => w'.cell? ⟨w.heap.size, 0, none⟩ = some (.int .i64 c) ∧ w'.cell? ⟨w.heap.size, 1, none⟩ = some (.int .i64 d) ∧ w'.cell? ⟨w.heap.size, 2, none⟩ = some (.int .i64 t)) (first | exact ⟨c0, c1, c2⟩ | go_keep | exact ⟨r0', r1', r2'⟩)
    (first | (go_at_call 55; refine (part_any R t _ (by omega) (by omega) (by omega)).mono ?_; rintro e w3 ⟨rfl, g3⟩; rw [HZ.out]; have P3 : Hid (Bx w w.heap.size #[.int .i64 c, .int .i64 d, .int .i64 t] 55 w3) := (by first | exact K0.out.below g3 | exact K0.out.drew.below g3); have r0' := P3.out.blk.cell 0; have r1' := P3.out.blk.cell 1; have r2' := P3.out.blk.cell 2; simp at r0' r1' r2'; clear g3) | (go_at_call 54; refine (tadd_at _ _ z _ (by omega) (by omega) (by omega) (by omega) (by omega) (by omega) (by omega)).mono ?_; rintro e w4 ⟨rfl, rfl⟩))
  go_wp2_with fail
  go_ret2
  exact ⟨ret_ib (by first | rfl | omega) rfl, P3.out.bel⟩

theorem mkJ (N : Nat) (hN : N ≤ 1000) (w : World) : (Instr.makeSlice 68 (.int .i64 (N : Int)) (.int .i64 (N : Int))).run Tryz.prog w = .ok (.slice (some ⟨w.heap.size, 0, none⟩) N N) (w.alloc (.cells (Array.replicate N (.int .i64 0)) 2)) := by
  have infoJ : (Tryz.prog.info? 2).map (fun i => (i.zero, i.size, i.bytes)) = some (some (.int .i64 0), 1, 8) := by kernel_rfl
  obtain ⟨i0, hi0, hz0, hz1, hz2⟩ := info_parts infoJ
  have h := run_makeSlice (P := Tryz.prog) w 68 2 i0 (.int .i64 0) Tryz.underlying68 hi0 hz0 .i64 .i64 (N : Int) (N : Int) (by omega) (by omega) (by rw [hz1]; simp; omega) (by rw [hz2]; omega) (by omega)
  rw [hz1] at h
  have e : madeCells (Value.cells (.int .i64 0)) (N * 1) = Array.replicate N (.int .i64 0) := by
    have := toList_madeCells_one (.int .i64 0) N
    apply Array.toList_inj.1
    rw [Nat.mul_one]
    show (madeCells #[.int .i64 0] N).toList = _
    rw [this]
    simp
  simp only [Int.toNat_natCast] at h
  rw [e] at h
  exact h
/-- The shares told so far, in their block; the rest as it was. -/
structure Shs (w0 : World) (n : Nat) (l : List Sec) (k : Nat) (w : World) : Prop where
  blk : ∃ cs, Blk w w0.heap.size cs 2 ∧ cs.size = n ∧ ∀ (j : Nat) s, j < k → l[j]? = some s → cs[j]? = some (.int .i64 (shareF s.res s.len))
  bel : Below w0.heap.size w0 w
theorem Shs.below {w0 w w' : World} {n k : Nat} {l : List Sec} (h : Shs w0 n l k w) (g : Below w.heap.size w w') : Shs w0 n l k w' := by
  obtain ⟨cs, h1, h2, h3⟩ := h.blk
  exact ⟨⟨cs, h1.below g, h2, h3⟩, btrans h.bel g⟩
theorem Shs.set {w0 w : World} {n k : Nat} {l : List Sec} {s : Sec} (h : Shs w0 n l k w) (hk : l[k]? = some s) (hn : l.length = n) : Shs w0 n l (k + 1) (w.setCell ⟨w0.heap.size, k, none⟩ (.int .i64 (shareF s.res s.len))) := by
  obtain ⟨cs, h1, h2, h3⟩ := h.blk
  have hkn := (List.getElem?_eq_some_iff.1 hk).1
  refine ⟨⟨_, (h1.set k _).1, by simpa using h2, fun j s' hj hs' => ?_⟩, h.bel.setCell (p := ⟨w0.heap.size, k, none⟩) (Nat.le_refl _) _⟩
  rw [Array.getElem?_setIfInBounds]
  by_cases e : k = j
  · subst e
    rw [hk] at hs'
    simp only [Option.some.injEq] at hs'
    subst hs'
    simp; omega
  · rw [if_neg e]
    exact h3 j s' (by omega) hs'
set_option maxHeartbeats 8000000 in
theorem share_any (v : Value) (l : List Sec) (w : World) (hv : Secs w v l) (hl : l.length ≤ 24) (ha : ∀ s ∈ l, ldB s = true) :
    Calls Tryz.prog 30 #[v] w fun e w' => e = .returned (.int .i64 (shareL l)) ∧ Below w.heap.size w w' := by
  obtain ⟨a, cap, rfl⟩ := hv.form
  obtain ⟨n, hn⟩ : ∃ n, n = l.length := ⟨_, rfl⟩
  have HV : Hid (Secs w (.slice a l.length cap) l) := hv
  have HA : Hid (∀ s ∈ l, ldB s = true) := ha
  clear hv ha
  rw [← hn] at HV hl ⊢
  have HN : Hid (l.length = n) := hn.symm
  clear hn
  have mk := mkJ n (by omega)
  have S0 : Hid (Shs w n l 0 (w.alloc (.cells (Array.replicate n (.int .i64 0)) 2))) := ⟨⟨_, heap_alloc_new _ _, by simp, fun j s hj => by omega⟩, balloc _ _⟩
  go_enter Tryz.func30, Tryz.ntmps30
  go_wp2_with fail
  generalize hW : w.alloc _ = W at S0 ⊢
  clear hW mk
  go_loopw [15] (fun i wr => ∃ k : Nat, k ≤ n ∧ i = .int .i64 k ∧ Hid (Shs w n l k wr)) (fun i _ => n - (intOf i).toNat)
  case atStart => exact ⟨0, Nat.zero_le _, rfl, S0.out⟩
  case round =>
    obtain ⟨k, hk, rfl, hS⟩ := hrel
    have S1 : Hid (Shs w n l k wr) := hS
    clear hS S0
    by_cases hlt : k < n
    · obtain ⟨⟨c, d, t⟩, hx⟩ : ∃ x, l[k]? = some x := ⟨_, List.getElem?_eq_getElem (by rw [HN.out]; exact hlt)⟩
      have HX : Hid (l[k]? = some ⟨c, d, t⟩) := hx
      obtain ⟨b, e, hb, x0, x1, x2⟩ := secs_at (HV.out.below S1.out.bel) hx
      subst e
      obtain ⟨⟨l1, l2⟩, ⟨l3, l4⟩, -⟩ := ldB_iff.1 (HA.out _ (List.mem_of_getElem? hx))
      simp only at x0 x1 x2 l1 l2 l3 l4
      clear hx
      have S2 : Hid (Shs w n l k (wr.alloc (.cells #[.int .i64 c, .int .i64 d, .int .i64 t] 55))) := S1.out.below (balloc _ _)
      go_wp2_with fail
      refine (shareOf_any c d t _ l1 l2 l3 l4).mono ?_
      rintro e w3 ⟨rfl, g3⟩
      have S3 : Hid (Shs w n l k w3) := S2.out.below g3
      obtain ⟨cs, ch, cn, -⟩ := S3.out.blk
      have y0 := ch.cell k
      rw [Array.getElem?_eq_getElem (by omega)] at y0
      have y1 := ch.frozen k
      have y2 := ch.lt
      generalize cs[k] = old at y0
      have S4 : Hid (Shs w n l (k + 1) (w3.setCell ⟨w.heap.size, k, none⟩ (.int .i64 (shareF c t)))) := S3.out.set HX.out HN.out
      clear ch cn g3 S2 x0 x1 x2
      go_wp2_with fail
      go_round
      case rel => exact ⟨k + 1, by omega, by go_num, S4.out⟩
      case measure => simp [intOf]; omega
    · have e : k = n := by omega
      subst e
      obtain ⟨cs, ch, cn, cv⟩ := S1.out.blk
      obtain ⟨zs, hz⟩ : ∃ zs, zs = l.map fun s => shareF s.res s.len := ⟨_, rfl⟩
      have hzl : zs.length = k := by rw [hz, List.length_map]; exact HN.out
      have hsum : T.sumL zs = shareL l := by rw [hz]; exact shareL_map l
      have hrow : T.RowAt wr (some ⟨w.heap.size, 0, none⟩) zs := .inr ⟨_, _, rfl, fun i hi => by
        obtain ⟨s, hs⟩ : ∃ s, l[i]? = some s := ⟨_, List.getElem?_eq_getElem (by rw [HN.out]; omega)⟩
        rw [Nat.zero_add, ch.cell i, cv i s (by omega) hs, hz]
        simp [hs]⟩
      have hall : T.AllIn zs := fun i => by
        by_cases hi : i < l.length
        · obtain ⟨s, hs⟩ : ∃ s, l[i]? = some s := ⟨_, List.getElem?_eq_getElem hi⟩
          obtain ⟨⟨l1, l2⟩, ⟨l3, l4⟩, -⟩ := ldB_iff.1 (HA.out _ (List.mem_of_getElem? hs))
          have := share_bd l1 l2 l3
          rw [hz]
          simp [hs]
          omega
        · rw [hz]
          simp [List.getElem?_eq_none (show l.length ≤ i by omega)]
      have hb := shareL_bd HA.out
      rw [HN.out] at hb
      have HS : Hid (Calls Tryz.prog 47 #[.slice (some ⟨w.heap.size, 0, none⟩) k k] wr fun e w' => e = .returned (.tuple #[.int .i64 (shareL l), .bool true]) ∧ w' = wr) := by
        have := T.sum_any (some ⟨w.heap.size, 0, none⟩) k zs wr hrow hall (by omega)
        rw [hzl, hsum, T.fitV_yes (by omega) (by omega), T.fitB_yes (by omega) (by omega)] at this
        exact this
      clear ch cn cv hz hzl hsum hrow hall hb
      go_wp2_with fail
      refine HS.out.mono ?_
      rintro e w3 ⟨rfl, rfl⟩
      go_wp2_with fail
      go_ret
      exact ⟨rfl, S1.out.bel⟩
end Go.Proofs.YtakdliecjfeedaaGreatDoor
