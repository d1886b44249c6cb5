/- The contract of the reference's sum of two numbers of 128 bits and a sign. -/
import Derived.Test.YtkalbnhhgobheaaRef
namespace Go.Proofs.Ytkalbnhhgobheaa
open Go.RowKit

theorem wu_over {x : Int} (h1 : 18446744073709551616 ≤ x) (h2 : x ≤ 36893488147419103230) : IntKind.u64.wrap x = x - 18446744073709551616 := by rw [IntKind.wrap_u64]; omega
theorem wu_under {x : Int} (h1 : -18446744073709551615 ≤ x) (h2 : x < 0) : IntKind.u64.wrap x = x + 18446744073709551616 := by rw [IntKind.wrap_u64]; omega

set_option maxHeartbeats 400000 in
theorem add_same (n : Bool) (ha la hb lb : Int) (w : World) (a0 : 0 ≤ ha) (a1 : ha ≤ 4611686018427387904) (a2 : 0 ≤ la) (a3 : la ≤ 18446744073709551615)
    (b0 : 0 ≤ hb) (b1 : hb ≤ 4611686018427387904) (b2 : 0 ≤ lb) (b3 : lb ≤ 18446744073709551615) :
    Calls Try.prog 25 #[.agg #[.bool n, .int .u64 ha, .int .u64 la], .agg #[.bool n, .int .u64 hb, .int .u64 lb]] w fun e w' =>
      ∃ h l : Int, e = .returned (.agg #[.bool n, .int .u64 h, .int .u64 l]) ∧ (0 ≤ h ∧ h ≤ 9223372036854775809 ∧ 0 ≤ l ∧ l ≤ 18446744073709551615 ∧
        h * 18446744073709551616 + l = ha * 18446744073709551616 + la + (hb * 18446744073709551616 + lb)) ∧ Below w.heap.size w w' := by
  by_cases c : la + lb ≤ 18446744073709551615
  · go_enter Try.func25, Try.ntmps25
    go_wp2
    exact bodyPost_ret (v := .agg #[.bool n, .int .u64 (ha + hb), .int .u64 (la + lb)]) (by simp [results, Try.results25, go_sem]) rfl
      ⟨_, _, rfl, ⟨by omega, by omega, by omega, by omega, by omega⟩, (((Below.refl _ _).alloc (Nat.le_refl _) _).alloc (by simp) _).alloc (by simp; omega) _⟩
  · have hw := wu_over (x := la + lb) (by omega) (by omega)
    go_enter Try.func25, Try.ntmps25
    go_wp2
    exact bodyPost_ret (v := .agg #[.bool n, .int .u64 (ha + hb + 1), .int .u64 (la + lb - 18446744073709551616)]) (by simp [results, Try.results25, go_sem]) rfl
      ⟨_, _, rfl, ⟨by omega, by omega, by omega, by omega, by omega⟩, (((Below.refl _ _).alloc (Nat.le_refl _) _).alloc (by simp) _).alloc (by simp; omega) _⟩

theorem bcell {W w1 : World} (hb : Below W.heap.size W w1) : (∀ b o, b < W.heap.size → w1.cell? ⟨b, o, none⟩ = W.cell? ⟨b, o, none⟩) ∧ (∀ b o, b < W.heap.size → w1.frozen? ⟨b, o, none⟩ = W.frozen? ⟨b, o, none⟩) :=
  ⟨fun b o h => hb.cell (p := ⟨b, o, none⟩) h, fun b o h => hb.frozen (p := ⟨b, o, none⟩) h⟩


theorem set3 (W : World) (b : Nat) (x y z x' y' z' : Value) (h0 : W.cell? ⟨b, 0, none⟩ = some x') (h1 : W.cell? ⟨b, 1, none⟩ = some y') (h2 : W.cell? ⟨b, 2, none⟩ = some z') :
    ∀ V, V = ((W.setCell ⟨b, 0, none⟩ x).setCell ⟨b, 1, none⟩ y).setCell ⟨b, 2, none⟩ z →
      V.cell? ⟨b, 0, none⟩ = some x ∧ V.cell? ⟨b, 1, none⟩ = some y ∧ V.cell? ⟨b, 2, none⟩ = some z ∧
      (∀ c o, c ≠ b → V.cell? ⟨c, o, none⟩ = W.cell? ⟨c, o, none⟩) ∧ (∀ a, V.frozen? a = W.frozen? a) ∧ V.heap.size = W.heap.size ∧ (∀ B, B ≤ b → Below B W V) := by
  intro V hV
  have k1 : (W.setCell ⟨b, 0, none⟩ x).cell? ⟨b, 1, none⟩ = some y' := by rw [World.cell?_setCell_other _ _ _ _ (by simp)]; exact h1
  have k2 : ((W.setCell ⟨b, 0, none⟩ x).setCell ⟨b, 1, none⟩ y).cell? ⟨b, 2, none⟩ = some z' := by
    rw [World.cell?_setCell_other _ _ _ _ (by simp), World.cell?_setCell_other _ _ _ _ (by simp)]; exact h2
  subst hV
  refine ⟨?_, ?_, World.cell?_setCell_same _ _ _ k2, ?_, ?_, ?_, ?_⟩
  · rw [World.cell?_setCell_other _ _ _ _ (by simp), World.cell?_setCell_other _ _ _ _ (by simp)]; exact World.cell?_setCell_same _ _ _ h0
  · rw [World.cell?_setCell_other _ _ _ _ (by simp)]; exact World.cell?_setCell_same _ _ _ k1
  · intro c o hc
    have g : ∀ j : Nat, (⟨b, j, none⟩ : Addr) ≠ ⟨c, o, none⟩ := fun j e => hc (by injection e with e1; exact e1.symm)
    rw [World.cell?_setCell_other _ _ _ _ (g 2), World.cell?_setCell_other _ _ _ _ (g 1), World.cell?_setCell_other _ _ _ _ (g 0)]
  · intro a; simp
  · simp
  · intro B hB
    exact (((Below.refl _ _).setCell hB _).setCell hB _).setCell hB _

/-- The two numbers' boxes and the answer's, one behind the other from block s on. -/
structure Boxes (s : Nat) (U : World) (n1 : Bool) (h1 l1 : Int) (n2 : Bool) (h2 l2 : Int) : Prop where
  x0 : U.cell? ⟨s, 0, none⟩ = some (.bool n1)
  x1 : U.cell? ⟨s, 1, none⟩ = some (.int .u64 h1)
  x2 : U.cell? ⟨s, 2, none⟩ = some (.int .u64 l1)
  u0 : U.cell? ⟨s + 1, 0, none⟩ = some (.bool n2)
  u1 : U.cell? ⟨s + 1, 1, none⟩ = some (.int .u64 h2)
  u2 : U.cell? ⟨s + 1, 2, none⟩ = some (.int .u64 l2)
  y0 : U.cell? ⟨s + 1 + 1, 0, none⟩ = some (.bool false)
  y1 : U.cell? ⟨s + 1 + 1, 1, none⟩ = some (.int .u64 0)
  y2 : U.cell? ⟨s + 1 + 1, 2, none⟩ = some (.int .u64 0)
  f0 : ∀ o, U.frozen? ⟨s + 1 + 1, o, none⟩ = false
  f1 : ∀ o, U.frozen? ⟨s, o, none⟩ = false
  f2 : ∀ o, U.frozen? ⟨s + 1, o, none⟩ = false
  sz : s + 1 + 1 < U.heap.size
theorem Boxes.drewN {s : Nat} {U : World} {n1 : Bool} {h1 l1 : Int} {n2 : Bool} {h2 l2 : Int} (b : Boxes s U n1 h1 l1 n2 h2 l2) (k : Nat) : Boxes s (U.drewN k) n1 h1 l1 n2 h2 l2 :=
  ⟨b.x0, b.x1, b.x2, b.u0, b.u1, b.u2, b.y0, b.y1, b.y2, b.f0, b.f1, b.f2, b.sz⟩

theorem boxes_new (w w1 : World) (n1 : Bool) (h1 l1 : Int) (n2 : Bool) (h2 l2 : Int)
    (hbel : Below (((w.alloc (.cells #[.bool n1, .int .u64 h1, .int .u64 l1] 39)).alloc (.cells #[.bool n2, .int .u64 h2, .int .u64 l2] 39)).alloc (.cells #[.bool false, .int .u64 0, .int .u64 0] 39)).heap.size
      (((w.alloc (.cells #[.bool n1, .int .u64 h1, .int .u64 l1] 39)).alloc (.cells #[.bool n2, .int .u64 h2, .int .u64 l2] 39)).alloc (.cells #[.bool false, .int .u64 0, .int .u64 0] 39)) w1) :
    Boxes w.heap.size w1 n1 h1 l1 n2 h2 l2 ∧ Below w.heap.size w w1 := by
  obtain ⟨hc, hf⟩ := bcell hbel
  have hz := hbel.size
  simp at hz
  refine ⟨⟨?_, ?_, ?_, ?_, ?_, ?_, ?_, ?_, ?_, ?_, ?_, ?_, by omega⟩, ((((Below.refl _ _).alloc (Nat.le_refl _) _).alloc (by simp) _).alloc (by simp; omega) _).trans (hbel.mono (by simp; omega))⟩
  · rw [hc _ _ (by simp; omega)]; go_simp
  · rw [hc _ _ (by simp; omega)]; go_simp
  · rw [hc _ _ (by simp; omega)]; go_simp
  · rw [hc _ _ (by simp)]; go_simp
  · rw [hc _ _ (by simp)]; go_simp
  · rw [hc _ _ (by simp)]; go_simp
  · rw [hc _ _ (by simp)]; go_simp
  · rw [hc _ _ (by simp)]; go_simp
  · rw [hc _ _ (by simp)]; go_simp
  · intro o; rw [hf _ _ (by simp)]; go_simp
  · intro o; rw [hf _ _ (by simp; omega)]; go_simp
  · intro o; rw [hf _ _ (by simp)]; go_simp

theorem boxes_swap {w w1 : World} {s : Nat} {n1 : Bool} {h1 l1 : Int} {n2 : Bool} {h2 l2 : Int} (b : Boxes s w1 n1 h1 l1 n2 h2 l2) (hw : Below s w w1) :
    ∀ U, U = ((((((w1.setCell ⟨s, 0, none⟩ (.bool n2)).setCell ⟨s, 1, none⟩ (.int .u64 h2)).setCell ⟨s, 2, none⟩ (.int .u64 l2)).setCell ⟨s + 1, 0, none⟩ (.bool n1)).setCell ⟨s + 1, 1, none⟩ (.int .u64 h1)).setCell ⟨s + 1, 2, none⟩ (.int .u64 l1)) →
      Boxes s U n2 h2 l2 n1 h1 l1 ∧ Below s w U := by
  intro U hU
  obtain ⟨V, hV⟩ : ∃ V, V = ((w1.setCell ⟨s, 0, none⟩ (.bool n2)).setCell ⟨s, 1, none⟩ (.int .u64 h2)).setCell ⟨s, 2, none⟩ (.int .u64 l2) := ⟨_, rfl⟩
  rw [← hV] at hU
  obtain ⟨v0, v1, v2, vc, vf, vs, vb⟩ := set3 w1 s _ _ _ _ _ _ b.x0 b.x1 b.x2 V hV
  obtain ⟨u0, u1, u2, uc, uf, us, ub⟩ := set3 V (s + 1) _ _ _ _ _ _ (by rw [vc _ _ (by omega)]; exact b.u0) (by rw [vc _ _ (by omega)]; exact b.u1) (by rw [vc _ _ (by omega)]; exact b.u2) U hU
  exact ⟨⟨by rw [uc _ _ (by omega)]; exact v0, by rw [uc _ _ (by omega)]; exact v1, by rw [uc _ _ (by omega)]; exact v2, u0, u1, u2,
    by rw [uc _ _ (by omega), vc _ _ (by omega)]; exact b.y0, by rw [uc _ _ (by omega), vc _ _ (by omega)]; exact b.y1, by rw [uc _ _ (by omega), vc _ _ (by omega)]; exact b.y2,
    fun o => by rw [uf, vf]; exact b.f0 o, fun o => by rw [uf, vf]; exact b.f1 o, fun o => by rw [uf, vf]; exact b.f2 o, by rw [us, vs]; exact b.sz⟩, (hw.trans (vb _ (Nat.le_refl _))).trans (ub _ (by omega))⟩

set_option maxHeartbeats 400000 in
theorem add_more (n : Bool) (ha la hb lb : Int) (w : World) (a0 : 0 ≤ ha) (a1 : ha ≤ 4611686018427387904) (a2 : 0 ≤ la) (a3 : la ≤ 18446744073709551615)
    (b0 : 0 ≤ hb) (b1 : hb ≤ 4611686018427387904) (b2 : 0 ≤ lb) (b3 : lb ≤ 18446744073709551615)
    (hlt : ha * 18446744073709551616 + la < hb * 18446744073709551616 + lb) :
    Calls Try.prog 25 #[.agg #[.bool (!n), .int .u64 ha, .int .u64 la], .agg #[.bool n, .int .u64 hb, .int .u64 lb]] w fun e w' =>
      ∃ h l : Int, e = .returned (.agg #[.bool n, .int .u64 h, .int .u64 l]) ∧ (0 ≤ h ∧ h ≤ 9223372036854775809 ∧ 0 ≤ l ∧ l ≤ 18446744073709551615 ∧
        h * 18446744073709551616 + l = hb * 18446744073709551616 + lb - (ha * 18446744073709551616 + la)) ∧ Below w.heap.size w w' := by
  have hd : decide (ha * 18446744073709551616 + la < hb * 18446744073709551616 + lb) = true := decide_eq_true hlt
  have hn : ((!n) == n) = false := by cases n <;> rfl
  by_cases c : la ≤ lb
  · have k1 : ha ≤ hb := by omega
    have k2 : lb - la = 0 → hb - ha ≠ 0 := by omega
    clear hlt
    go_enter Try.func25, Try.ntmps25
    go_wp2_with (go_at_call 30; refine (above_any _ _ _ _ _ _ _ b2 b3 a2 a3).mono ?_; rintro e w1 ⟨rfl, hbel⟩; obtain ⟨bx, bw⟩ := boxes_new _ _ _ _ _ _ _ _ hbel; clear hbel; obtain ⟨p0, p1, p2, q0, q1, q2, r0, r1, r2, rf, rf1, rf2, rz⟩ := id bx)
    obtain ⟨U, hU⟩ : ∃ U, U = ((((((w1.setCell ⟨w.heap.size, 0, none⟩ (.bool n)).setCell ⟨w.heap.size, 1, none⟩ (.int .u64 hb)).setCell ⟨w.heap.size, 2, none⟩ (.int .u64 lb)).setCell ⟨w.heap.size + 1, 0, none⟩ (.bool !n)).setCell ⟨w.heap.size + 1, 1, none⟩ (.int .u64 ha)).setCell ⟨w.heap.size + 1, 2, none⟩ (.int .u64 la)) := ⟨_, rfl⟩
    rw [← hU]
    obtain ⟨bU, bwU⟩ := boxes_swap bx bw U hU
    clear hU bx bw p0 p1 p2 q0 q1 q2 r0 r1 r2 rf rf1 rf2 rz
    obtain ⟨p0, p1, p2, q0, q1, q2, r0, r1, r2, rf, rf1, rf2, rz⟩ := id bU
    go_quiet (fail)
    have bT := bU.drewN nq
    have bwT := below_drewN bwU nq
    clear p0 p1 p2 q0 q1 q2 r0 r1 r2 rf rf1 rf2 rz bU bwU
    generalize U.drewN nq = T at *
    obtain ⟨p0, p1, p2, q0, q1, q2, r0, r1, r2, rf, rf1, rf2, rz⟩ := id bT
    go_wp2
    · exact bodyPost_ret (v := .agg #[.bool n, .int .u64 0, .int .u64 (lb - la)]) (by simp [results, Try.results25, go_sem, r0, r1, r2, rz]) rfl
        ⟨_, _, rfl, ⟨by omega, by omega, by omega, by omega, by omega⟩, (((bwT.setCell (by simp; omega) _).setCell (by simp; omega) _).setCell (by simp; omega) _).alloc (by simp; omega) _⟩
    · exact bodyPost_ret (v := .agg #[.bool n, .int .u64 (hb - ha), .int .u64 (lb - la)]) (by simp [results, Try.results25, go_sem, r0, r1, r2, rz]) rfl
        ⟨_, _, rfl, ⟨by omega, by omega, by omega, by omega, by omega⟩, (((bwT.setCell (by simp; omega) _).setCell (by simp; omega) _).setCell (by simp; omega) _).alloc (by simp; omega) _⟩
  · have k1 : ha + 1 ≤ hb := by omega
    have hw := wu_under (x := lb - la) (by omega) (by omega)
    have k3 : (lb - la + 18446744073709551616 == 0) = false := by simp; omega
    clear hlt
    go_enter Try.func25, Try.ntmps25
    go_wp2_with (go_at_call 30; refine (above_any _ _ _ _ _ _ _ b2 b3 a2 a3).mono ?_; rintro e w1 ⟨rfl, hbel⟩; obtain ⟨bx, bw⟩ := boxes_new _ _ _ _ _ _ _ _ hbel; clear hbel; obtain ⟨p0, p1, p2, q0, q1, q2, r0, r1, r2, rf, rf1, rf2, rz⟩ := id bx)
    obtain ⟨U, hU⟩ : ∃ U, U = ((((((w1.setCell ⟨w.heap.size, 0, none⟩ (.bool n)).setCell ⟨w.heap.size, 1, none⟩ (.int .u64 hb)).setCell ⟨w.heap.size, 2, none⟩ (.int .u64 lb)).setCell ⟨w.heap.size + 1, 0, none⟩ (.bool !n)).setCell ⟨w.heap.size + 1, 1, none⟩ (.int .u64 ha)).setCell ⟨w.heap.size + 1, 2, none⟩ (.int .u64 la)) := ⟨_, rfl⟩
    rw [← hU]
    obtain ⟨bU, bwU⟩ := boxes_swap bx bw U hU
    clear hU bx bw p0 p1 p2 q0 q1 q2 r0 r1 r2 rf rf1 rf2 rz
    obtain ⟨p0, p1, p2, q0, q1, q2, r0, r1, r2, rf, rf1, rf2, rz⟩ := id bU
    go_quiet (fail)
    have bT := bU.drewN nq
    have bwT := below_drewN bwU nq
    clear p0 p1 p2 q0 q1 q2 r0 r1 r2 rf rf1 rf2 rz bU bwU
    generalize U.drewN nq = T at *
    obtain ⟨p0, p1, p2, q0, q1, q2, r0, r1, r2, rf, rf1, rf2, rz⟩ := id bT
    go_wp2
    · exact bodyPost_ret (v := .agg #[.bool n, .int .u64 (0), .int .u64 (lb - la + 18446744073709551616)]) (by simp [results, Try.results25, go_sem, r0, r1, r2, rz]) rfl
        ⟨_, _, rfl, ⟨by omega, by omega, by omega, by omega, by omega⟩, (((bwT.setCell (by simp; omega) _).setCell (by simp; omega) _).setCell (by simp; omega) _).alloc (by simp; omega) _⟩
    · exact bodyPost_ret (v := .agg #[.bool n, .int .u64 (hb - ha - 1), .int .u64 (lb - la + 18446744073709551616)]) (by simp [results, Try.results25, go_sem, r0, r1, r2, rz]) rfl
        ⟨_, _, rfl, ⟨by omega, by omega, by omega, by omega, by omega⟩, (((bwT.setCell (by simp; omega) _).setCell (by simp; omega) _).setCell (by simp; omega) _).alloc (by simp; omega) _⟩

set_option maxHeartbeats 400000 in
theorem add_less (n : Bool) (ha la hb lb : Int) (w : World) (a0 : 0 ≤ ha) (a1 : ha ≤ 4611686018427387904) (a2 : 0 ≤ la) (a3 : la ≤ 18446744073709551615)
    (b0 : 0 ≤ hb) (b1 : hb ≤ 4611686018427387904) (b2 : 0 ≤ lb) (b3 : lb ≤ 18446744073709551615)
    (hlt : hb * 18446744073709551616 + lb < ha * 18446744073709551616 + la) :
    Calls Try.prog 25 #[.agg #[.bool n, .int .u64 ha, .int .u64 la], .agg #[.bool (!n), .int .u64 hb, .int .u64 lb]] w fun e w' =>
      ∃ h l : Int, e = .returned (.agg #[.bool n, .int .u64 h, .int .u64 l]) ∧ (0 ≤ h ∧ h ≤ 9223372036854775809 ∧ 0 ≤ l ∧ l ≤ 18446744073709551615 ∧
        h * 18446744073709551616 + l = ha * 18446744073709551616 + la - (hb * 18446744073709551616 + lb)) ∧ Below w.heap.size w w' := by
  have hd : decide (ha * 18446744073709551616 + la < hb * 18446744073709551616 + lb) = false := decide_eq_false (by omega)
  have hn : (n == (!n)) = false := by cases n <;> rfl
  by_cases c : lb ≤ la
  · have k1 : hb ≤ ha := by omega
    have k2 : la - lb = 0 → ha - hb ≠ 0 := by omega
    clear hlt
    go_enter Try.func25, Try.ntmps25
    go_wp2_with (go_at_call 30; refine (above_any _ _ _ _ _ _ _ b2 b3 a2 a3).mono ?_; rintro e w1 ⟨rfl, hbel⟩; obtain ⟨bx, bw⟩ := boxes_new _ _ _ _ _ _ _ _ hbel; clear hbel; obtain ⟨p0, p1, p2, q0, q1, q2, r0, r1, r2, rf, rf1, rf2, rz⟩ := id bx)
    go_quiet (fail)
    have bT := bx.drewN nq
    have bwT := below_drewN bw nq
    clear p0 p1 p2 q0 q1 q2 r0 r1 r2 rf rf1 rf2 rz bx bw
    generalize w1.drewN nq = T at *
    obtain ⟨p0, p1, p2, q0, q1, q2, r0, r1, r2, rf, rf1, rf2, rz⟩ := id bT
    go_wp2
    · exact bodyPost_ret (v := .agg #[.bool n, .int .u64 (0), .int .u64 (la - lb)]) (by simp [results, Try.results25, go_sem, r0, r1, r2, rz]) rfl
        ⟨_, _, rfl, ⟨by omega, by omega, by omega, by omega, by omega⟩, (((bwT.setCell (by simp; omega) _).setCell (by simp; omega) _).setCell (by simp; omega) _).alloc (by simp; omega) _⟩
    · exact bodyPost_ret (v := .agg #[.bool n, .int .u64 (ha - hb), .int .u64 (la - lb)]) (by simp [results, Try.results25, go_sem, r0, r1, r2, rz]) rfl
        ⟨_, _, rfl, ⟨by omega, by omega, by omega, by omega, by omega⟩, (((bwT.setCell (by simp; omega) _).setCell (by simp; omega) _).setCell (by simp; omega) _).alloc (by simp; omega) _⟩
  · have k1 : hb + 1 ≤ ha := by omega
    have hw := wu_under (x := la - lb) (by omega) (by omega)
    have k3 : (la - lb + 18446744073709551616 == 0) = false := by simp; omega
    clear hlt
    go_enter Try.func25, Try.ntmps25
    go_wp2_with (go_at_call 30; refine (above_any _ _ _ _ _ _ _ b2 b3 a2 a3).mono ?_; rintro e w1 ⟨rfl, hbel⟩; obtain ⟨bx, bw⟩ := boxes_new _ _ _ _ _ _ _ _ hbel; clear hbel; obtain ⟨p0, p1, p2, q0, q1, q2, r0, r1, r2, rf, rf1, rf2, rz⟩ := id bx)
    go_quiet (fail)
    have bT := bx.drewN nq
    have bwT := below_drewN bw nq
    clear p0 p1 p2 q0 q1 q2 r0 r1 r2 rf rf1 rf2 rz bx bw
    generalize w1.drewN nq = T at *
    obtain ⟨p0, p1, p2, q0, q1, q2, r0, r1, r2, rf, rf1, rf2, rz⟩ := id bT
    go_wp2
    · exact bodyPost_ret (v := .agg #[.bool n, .int .u64 (0), .int .u64 (la - lb + 18446744073709551616)]) (by simp [results, Try.results25, go_sem, r0, r1, r2, rz]) rfl
        ⟨_, _, rfl, ⟨by omega, by omega, by omega, by omega, by omega⟩, (((bwT.setCell (by simp; omega) _).setCell (by simp; omega) _).setCell (by simp; omega) _).alloc (by simp; omega) _⟩
    · exact bodyPost_ret (v := .agg #[.bool n, .int .u64 (ha - hb - 1), .int .u64 (la - lb + 18446744073709551616)]) (by simp [results, Try.results25, go_sem, r0, r1, r2, rz]) rfl
        ⟨_, _, rfl, ⟨by omega, by omega, by omega, by omega, by omega⟩, (((bwT.setCell (by simp; omega) _).setCell (by simp; omega) _).setCell (by simp; omega) _).alloc (by simp; omega) _⟩

set_option maxHeartbeats 400000 in
theorem add_even (n : Bool) (ha la : Int) (w : World) (_a0 : 0 ≤ ha) (_a1 : ha ≤ 4611686018427387904) (a2 : 0 ≤ la) (a3 : la ≤ 18446744073709551615) :
    Calls Try.prog 25 #[.agg #[.bool n, .int .u64 ha, .int .u64 la], .agg #[.bool (!n), .int .u64 ha, .int .u64 la]] w fun e w' =>
      e = .returned (.agg #[.bool false, .int .u64 0, .int .u64 0]) ∧ Below w.heap.size w w' := by
  have hd : decide (ha * 18446744073709551616 + la < ha * 18446744073709551616 + la) = false := decide_eq_false (by omega)
  have hn : (n == (!n)) = false := by cases n <;> rfl
  go_enter Try.func25, Try.ntmps25
  go_wp2_with (go_at_call 30; refine (above_any _ _ _ _ _ _ _ a2 a3 a2 a3).mono ?_; rintro e w1 ⟨rfl, hbel⟩; obtain ⟨bx, bw⟩ := boxes_new _ _ _ _ _ _ _ _ hbel; clear hbel; obtain ⟨p0, p1, p2, q0, q1, q2, r0, r1, r2, rf, rf1, rf2, rz⟩ := id bx)
  go_quiet (fail)
  have bT := bx.drewN nq
  have bwT := below_drewN bw nq
  clear p0 p1 p2 q0 q1 q2 r0 r1 r2 rf rf1 rf2 rz bx bw
  generalize w1.drewN nq = T at *
  obtain ⟨p0, p1, p2, q0, q1, q2, r0, r1, r2, rf, rf1, rf2, rz⟩ := id bT
  go_wp2
  exact bodyPost_ret (v := .agg #[.bool false, .int .u64 0, .int .u64 0]) (by simp [results, Try.results25, go_sem, r0, r1, r2, rz]) rfl
    ⟨rfl, (((bwT.setCell (by simp; omega) _).setCell (by simp; omega) _).setCell (by simp; omega) _).alloc (by simp; omega) _⟩
end Go.Proofs.Ytkalbnhhgobheaa
