/-
PROVED: the statement hortatorlaw2.LineAgain answers true over the landed packages: what is put again is due at its new time alone.
  CONDITIONS: none beside the row's own.
-/
import Derived.ChangeOld
import Derived.Below
import Derived.Test.YtkbmpoiokdoclaaRows
import Derived.WalkKit
import Derived.ProofKit
import Derived.OpenShut
import Derived.ShutString
import Derived.Test.YtkbmpoiokdoclaaBegun
import Derived.Test.YtkbmpoiokdoclaaLineMoreS
import Derived.Test.YtkbmpoiokdoclaaMany2
namespace Go.Proofs.Ytkbmpoiokdoclaa.lineAgain
open Go.ChangeShapes Go.WideShapes Go.ChangeAt Go.RowKit
open Go.ChangeMaps (open_string shut_string)
set_option linter.unusedVariables false

theorem own : ownKnob Try.prog.godebug = none := by kernel_rfl

set_option maxHeartbeats 8000000 in
set_option maxRecDepth 100000 in
theorem walk (a0 : Int) (a1 : Int) (a2 : Int) (w0 : (Lit.int .i64 a0).wf = true) (w1 : (Lit.int .i64 a1).wf = true) (w2 : (Lit.int .i64 a2).wf = true) (w : World) :
    Calls Try.prog 6 #[.int .i64 a0, .int .i64 a1, .int .i64 a2] w fun e w' => e = .returned (.bool true) ∧ Below w.heap.size w w' := by
  by_cases hn : a1 ≤ a2
  all_goals
    go_enter Try.func6, Try.ntmps6
    go_wp2_with fail
    refine (begun2_any _).mono ?_
    rintro e W ⟨rfl, g0⟩
    have m0 := (Many.start w).below g0
    have M0 : Hid (Many w _ _ W) := m0
    clear g0 m0
    go_wp2_with fail
    refine (LS.new_any 2 W (by omega) (by omega)).mono ?_
    rintro e w1 ⟨lb, rfl, hlb, h1, g1⟩
    have M1 : Hid (Many w _ _ w1) := M0.out.add 0 (f := LS.footL lb W.heap.size (.slice none 0 0) (.slice none 0 0) []) (p := fun w' => LS.Lines w' lb W.heap.size 2 0 (.slice none 0 0) (.slice none 0 0) [] []) g1 h1 h1.foot_lt (by intro k hk; simp [LS.footL, foot, Value.ownBlock] at hk; omega) LS.keeps
    clear M0 g1 h1
    go_wp2_with fail
    refine (LS.put_new tx a0 w1 (M1.out.holds 0) (by simp) (by simp) (by omega) (by omega)).mono ?_
    rintro e w2 ⟨t1, hv2, av2, rfl, ht1, h2, o2, f2, f2'⟩
    have M2 : Hid (Many w _ _ w2) := M1.out.turn 0 (f := LS.footL lb W.heap.size hv2 av2 [(t1, tx)]) (p := fun w' => LS.Lines w' lb W.heap.size 2 1 hv2 av2 [(t1, tx)] [⟨(t1, tx), a0, 0, 1⟩]) o2 h2 h2.foot_lt (LS.foot_put (A := []) (x := tx) f2 f2' ht1) LS.keeps
    clear M1 h2 o2 f2 f2' ht1
    go_wp2_with fail
    refine (LS.put_new ty a1 w2 (M2.out.holds 0) (by intro y hy; simp at hy; subst hy; exact fun e => txy e.symm) (by simp) (by omega) (by omega)).mono ?_
    rintro e w3 ⟨t2, hv3, av3, rfl, ht2, h3, o3, f3, f3'⟩
    have M3 : Hid (Many w _ _ w3) := M2.out.turn 0 (f := LS.footL lb W.heap.size hv3 av3 [(t1, tx), (t2, ty)]) (p := fun w' => LS.Lines w' lb W.heap.size 2 2 hv3 av3 [(t1, tx), (t2, ty)] [⟨(t1, tx), a0, 0, 1⟩, ⟨(t2, ty), a1, 0, 2⟩]) o3 h3 h3.foot_lt (LS.foot_put (A := [(t1, tx)]) (x := ty) f3 f3' ht2) LS.keeps
    clear M2 h3 o3 f3 f3' ht2
    go_wp2_with fail
    refine (LS.put_there (i := 0) (p := (t1, tx)) a1 w3 (M3.out.holds 0) rfl (by omega) (by omega)).mono ?_
    rintro e w4 ⟨rfl, h4, o4⟩
    have hless : less [(⟨(t1, tx), a0, 0, 1⟩ : Ent (Nat × ByteArray)), ⟨(t2, ty), a1, 0, 2⟩] (t1, tx) = [⟨(t2, ty), a1, 0, 2⟩] := by
      have : (t2, ty) ≠ (t1, tx) := fun e => txy (congrArg Prod.snd e)
      simp [less, this]
    rw [hless] at h4
    have M4 : Hid (Many w _ _ w4) := M3.out.turn 0 (f := LS.footL lb W.heap.size hv3 av3 [(t1, tx), (t2, ty)]) (p := fun w' => LS.Lines w' lb W.heap.size 2 3 hv3 av3 [(t1, tx), (t2, ty)] [⟨(t2, ty), a1, 0, 2⟩, ⟨(t1, tx), a1, 0, 3⟩]) (o4.mono LS.foot_in) h4 h4.foot_lt (fun k hk => .inl hk) LS.keeps
    clear M3 h4 o4 hless
    go_wp2_with fail
    refine (LS.due_any a2 w4 (M4.out.holds 0)).mono ?_
    rintro e w5 ⟨dv, hv5, av5, A5, Z5, gs, rfl, own5, h5, hp5, he5, f5, f5', hA5, o5⟩
  · obtain ⟨rfl, rfl⟩ := LS.pops_two hp5 he5 (.inr ⟨rfl, .inr ⟨rfl, by show (2 : Int) < 3; omega⟩⟩) (fun e => txy (congrArg Prod.snd e)) hn hn
    obtain rfl : A5 = [] := List.Perm.eq_nil h5.perm
    have M5 : Hid (Many w _ _ w5) := M4.out.both 0 1 (f := LS.footL lb W.heap.size hv5 av5 []) (p := fun w' => LS.Lines w' lb W.heap.size 2 3 hv5 av5 [] []) o5 h5 (LS.foot_same f5 f5' hA5) LS.keeps (f2 := dv.ownBlock.toList) (q := fun w' => w'.ownsRow w4.heap.size 9 1 dv 2 [mkS ty, mkS tx]) own5 (fun k hk => own5.lt k (by simpa using hk)) rows_keep
    clear M4 own5 h5 hp5 he5 f5 f5' hA5 o5
    go_wp2_with fail
    refine (LS.next_none w5 (M5.out.holds 0)).mono ?_
    rintro e w6 ⟨rfl, g6⟩
    have M6 : Hid (Many w _ _ w6) := M5.out.below g6
    clear M5 g6
    obtain ⟨g, cap, rfl, c0, c1⟩ : ∃ g cap, dv = .slice (some ⟨g, 0, none⟩) 2 cap ∧ w6.cell? ⟨g, 0, none⟩ = some (.string ⟨#[121]⟩) ∧ w6.cell? ⟨g, 1, none⟩ = some (.string ⟨#[120]⟩) := by
      have o := M6.out.holds 1
      rcases o.2 with ⟨_, hz⟩ | ⟨g, cap, cur, hv, _⟩
      · omega
      · refine ⟨g, cap, hv, ?_⟩
        rw [hv] at o
        exact ⟨o.cellAt 0 (by omega), o.cellAt 1 (by omega)⟩
    go_wp2_with fail
    refine (LS.len_any (M6.out.holds 0)).mono ?_
    rintro e w' ⟨rfl, hw⟩
    subst w'
    go_wp2
    go_ret
    exact ⟨rfl, M6.out.bel⟩
  · obtain ⟨rfl, rfl⟩ := LS.pops_later hp5 (by intro z hz; simp at hz; rcases hz with rfl | rfl <;> (show a2 < a1; omega))
    have hz5 : ∃ i0 i1, A5[i0]? = some (t2, ty) ∧ A5.eraseIdx i0 = [(t1, tx)] ∧ A5.length = 2 ∧ i1 = A5 := by
      have p := h5.perm
      simp only [List.map_cons, List.map_nil] at p
      match A5, p with
      | [x, y], p =>
        have hne : (t2, ty) ≠ (t1, tx) := fun e => txy (congrArg Prod.snd e)
        have hx := p.mem_iff (a := x)
        have hy := p.mem_iff (a := y)
        have h2 := p.mem_iff (a := (t2, ty))
        have h1 := p.mem_iff (a := (t1, tx))
        simp only [List.mem_cons, List.not_mem_nil, or_false, true_or, or_true, true_iff, iff_true] at hx hy h1 h2
        rcases hx with rfl | rfl
        · rcases hy with rfl | rfl
          · rcases h1 with e | e <;> exact absurd e.symm hne
          · exact ⟨0, _, rfl, rfl, rfl, rfl⟩
        · rcases hy with rfl | rfl
          · exact ⟨1, _, rfl, rfl, rfl, rfl⟩
          · rcases h2 with e | e <;> exact absurd e hne
      | [], p => have := p.length_eq; simp at this
      | [x], p => have := p.length_eq; simp at this
      | x :: y :: z :: r, p => have := p.length_eq; simp at this
    obtain ⟨i0, _, hi0, her, hlen, -⟩ := hz5
    have HI0 : Hid (A5[i0]? = some (t2, ty) ∧ A5.eraseIdx i0 = [(t1, tx)]) := ⟨hi0, her⟩
    have HLEN : Hid (A5.length = 2) := hlen
    have M5 : Hid (Many w _ _ w5) := M4.out.both 0 1 (f := LS.footL lb W.heap.size hv5 av5 A5) (p := fun w' => LS.Lines w' lb W.heap.size 2 3 hv5 av5 A5 [⟨(t2, ty), a1, 0, 2⟩, ⟨(t1, tx), a1, 0, 3⟩]) o5 h5 (LS.foot_same f5 f5' hA5) LS.keeps (f2 := dv.ownBlock.toList) (q := fun w' => w'.ownsRow w4.heap.size 9 1 dv 0 []) own5 (fun k hk => own5.lt k (by simpa using hk)) rows_keep
    obtain ⟨na, ncap, rfl⟩ : ∃ a cap, dv = .slice a 0 cap := by
      rcases own5.2 with ⟨rfl, _⟩ | ⟨g, cap, cur, rfl, _⟩
      · exact ⟨none, 0, rfl⟩
      · exact ⟨_, _, rfl⟩
    clear M4 own5 h5 hp5 he5 f5 f5' hA5 o5 hi0 her hlen
    have hfirst : IsFirst ([(⟨(t2, ty), a1, 0, 2⟩ : Ent (Nat × ByteArray)), ⟨(t1, tx), a1, 0, 3⟩].map LS.lo) (LS.lo ⟨(t2, ty), a1, 0, 2⟩) := by
      refine ⟨by simp, fun y hy => ?_⟩
      simp only [List.map_cons, List.map_nil, List.mem_cons, List.not_mem_nil, or_false] at hy
      rcases hy with rfl | rfl
      · exact Le.refl _
      · unfold Le Lt LS.lo; simp
    go_wp2_with fail
    refine (LS.next_is (z := ⟨(t2, ty), a1, 0, 2⟩) (M5.out.holds 0) (by simp) hfirst).mono ?_
    rintro e w6 ⟨rfl, g6⟩
    have M6 : Hid (Many w _ _ w6) := M5.out.below g6
    clear M5 g6 hfirst
    go_wp2_with fail
    refine (LS.len_any (M6.out.holds 0)).mono ?_
    rw [HLEN.out]
    rintro e w' ⟨rfl, hw⟩
    subst w'
    go_wp2_with fail
    refine (LS.drop_some (i := i0) (p := (t2, ty)) w6 (M6.out.holds 0) HI0.out.1).mono ?_
    rintro e w7 ⟨hv7, av7, rfl, h7, f7, f7', o7⟩
    rw [HI0.out.2] at h7
    have hless : less [(⟨(t2, ty), a1, 0, 2⟩ : Ent (Nat × ByteArray)), ⟨(t1, tx), a1, 0, 3⟩] (t2, ty) = [⟨(t1, tx), a1, 0, 3⟩] := by
      have : (t1, tx) ≠ (t2, ty) := fun e => txy (congrArg Prod.snd e).symm
      simp [less, this]
    rw [hless] at h7
    have M7 : Hid (Many w _ _ w7) := M6.out.turn 0 (f := LS.footL lb W.heap.size hv7 av7 [(t1, tx)]) (p := fun w' => LS.Lines w' lb W.heap.size 2 3 hv7 av7 [(t1, tx)] [⟨(t1, tx), a1, 0, 3⟩]) o7 h7 h7.foot_lt (fun k hk => .inl (LS.foot_same f7 f7' (fun p hp => by rw [← HI0.out.2] at hp; exact List.mem_of_mem_eraseIdx hp) k hk)) LS.keeps
    clear M6 h7 f7 f7' o7 hless
    go_wp2_with fail
    refine (LS.drop_none ty w7 (M7.out.holds 0) (by intro y hy; simp at hy; subst hy; exact fun e => txy e.symm)).mono ?_
    rintro e w8 ⟨rfl, g8⟩
    have M8 : Hid (Many w _ _ w8) := M7.out.below g8
    clear M7 g8
    go_wp2_with fail
    refine (LS.len_any (M8.out.holds 0)).mono ?_
    rintro e w' ⟨rfl, hw⟩
    subst w'
    go_wp2
    go_ret
    exact ⟨rfl, M8.out.bel⟩

set_option maxRecDepth 100000 in
theorem lifted (os : Os) (started : os.Started) (H : Type) (enc : TypeId × Value → H) :
    ReturnsInHanded {} Try.checked os 6 .any (Rows.lineAgainSpec.pre6 enc Try.prog Try.f6 Rows.lineAgainRow.domain false) (Rows.lineAgainSpec.post enc Try.prog Try.f6 false true false false) := by
  refine returnsInHanded_of_change (C := Try.checked) own started (by kernel_rfl) Try.func6
    (ChangeSpec.witness6 (enc := enc) (C := Try.checked) false ⟨#[], #[.int .i64 0, .int .i64 0, .int .i64 0], []⟩ 8 (by kernel_rfl) (by kernel_rfl) (by kernel_rfl) (by kernel_rfl)) ?_
  intro W base args ds gs before hval0 hW hcnd _
  have hval : ∀ (j : Nat) t v, Try.f6.params[j]? = some t → args[j]? = some v → Value.okWide Try.prog W .any base t v := hval0
  have hW' := hW
  obtain ⟨p, q, hA0, hV, rfl, hfz, hnd⟩ := hW
  have hA : DataW.TrodAll enc Try.prog W 0 (fun _ => true) true Try.f6.params.toList args.toList ds p := hA0
  rw [Try.params6] at hA hval
  obtain ⟨v0, vs0, d0, ds0, p0, q0, hargs, rfl, rfl, h0, r0⟩ := trodAll_cons hA
  obtain ⟨v1, vs1, d1, ds1, p1, q1, rfl, rfl, rfl, h1, r1⟩ := trodAll_cons r0
  obtain ⟨v2, vs2, d2, ds2, p2, q2, rfl, rfl, rfl, h2, r2⟩ := trodAll_cons r1
  obtain ⟨rfl, rfl, rfl⟩ := trodAll_nil r2
  obtain rfl : args = #[v0, v1, v2] := by cases args; simp_all
  obtain ⟨rfl, rfl⟩ := trodVars_none hV
  obtain ⟨a0, rfl, rfl, rfl, w0⟩ := open_int Try.underlying2 (hval 0 2 v0 rfl rfl) h0
  obtain ⟨a1, rfl, rfl, rfl, w1⟩ := open_int Try.underlying2 (hval 1 2 v1 rfl rfl) h1
  obtain ⟨a2, rfl, rfl, rfl, w2⟩ := open_int Try.underlying2 (hval 2 2 v2 rfl rfl) h2
  clear hA0 hval0
  refine (walk a0 a1 a2 w0 w1 w2 W).mono fun e W' ⟨he, bel⟩ => ?_
  subst he
  exact ⟨_, rfl, _, _, _, [], _, [], hW', trodAll_mk1 (shut_bool Try.underlying4 _), (trodAll_cons_mk (shut_int Try.underlying2 w0) (trodAll_cons_mk (shut_int Try.underlying2 w1) (trodAll_cons_mk (shut_int Try.underlying2 w2) trodAll_mk0))), rfl, bel.frame _, fun h => by cases h⟩

theorem over : Rows.lineAgainRow.holds Try.pinned (OpenSpec.ofChange Rows.lineAgainSpec) :=
  OpenClaim.holds_of_wide 6 Try.f6 rfl rfl rfl rfl rfl rfl rfl ⟨rfl, rfl, rfl, rfl, rfl⟩ rfl rfl rfl rfl rfl (by kernel_rfl) Try.func6 (by kernel_rfl)
    (of_decide_eq_true (by kernel_rfl)) (by unfold Func.isWrapper; first | (rw [if_pos (by decide +kernel)]; kernel_rfl) | (rw [if_neg (by decide +kernel)]; exact ⟨rfl, rfl⟩))
    (fun os started H enc _ => lifted os started H enc)

theorem proved : Rows.LineAgainSaid :=
  over
end Go.Proofs.Ytkbmpoiokdoclaa.lineAgain
