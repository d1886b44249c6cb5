/- The contract of the laws' own beginning. -/
import Derived.Test.YtbfbijfedamgaaaMany
import Derived.Test.YtbfbijfedamgaaaHeapPutS
import Derived.Test.YtbfbijfedamgaaaRingTakeI
import Derived.Test.YtbfbijfedamgaaaSeatOpsS
import Derived.Test.YtbfbijfedamgaaaBoxOpsI
import Derived.Test.YtbfbijfedamgaaaLineDueI
import Derived.Test.YtbfbijfedamgaaaTBegun
namespace Go.Proofs.Ytbfbijfedamgaaa
open Go.RowKit

theorem HS.stable {b : Nat} {room puts : Int} {v : Value} {l : List (Ent ByteArray)} (w w' : World) (S : List Nat) (h : HS.Heaps w b room puts v l) (g : Only S w w') (hS : ∀ k ∈ foot b v, k ∉ S) : HS.Heaps w' b room puts v l := by
  obtain ⟨es, r, x⟩ := h
  exact ⟨es, r.only g hS (fun _ _ => trivial), x⟩
theorem RI.stable {b : Nat} {room : Int} {v : Value} {q : List Int} (w w' : World) (S : List Nat) (h : RI.Rings w b room v q) (g : Only S w w') (hS : ∀ k ∈ foot b v, k ∉ S) : RI.Rings w' b room v q := h.only g hS
theorem SS.stable {b : Nat} {room : Int} {v : Value} {ps : List (ByteArray × Bool)} (w w' : World) (S : List Nat) (h : SS.Seats w b room v ps) (g : Only S w w') (hS : ∀ k ∈ foot b v, k ∉ S) : SS.Seats w' b room v ps := h.only g hS
theorem BI.stable {b c cap : Nat} {q : List (Nat × Int)} (w w' : World) (S : List Nat) (h : BI.Boxes w b c cap q) (g : Only S w w') (hS : ∀ k ∈ BI.footB b c q, k ∉ S) : BI.Boxes w' b c cap q := h.only g hS
theorem LI.stable {lb hb : Nat} {room puts : Int} {hv av : Value} {A : List (Nat × Int)} {Z : List (Ent (Nat × Int))} (w w' : World) (S : List Nat) (h : LI.Lines w lb hb room puts hv av A Z) (g : Only S w w') (hS : ∀ k ∈ LI.footL lb hb hv av A, k ∉ S) : LI.Lines w' lb hb room puts hv av A Z := h.only g hS
theorem row_stable {base n : Nat} {e : TypeId} {v : Value} {xs : List Value} (w w' : World) (S : List Nat) (h : w.ownsRow base e 1 v n xs) (g : Only S w w') (hS : ∀ k ∈ v.ownBlock.toList, k ∉ S) : w'.ownsRow base e 1 v n xs := LI.own_only h g (fun k hk => hS k (by simp [hk]))
theorem BI.footB_lt {w : World} {b c cap : Nat} {q : List (Nat × Int)} (h : BI.Boxes w b c cap q) : ∀ k ∈ BI.footB b c q, k < w.heap.size := by
  intro k hk
  simp only [BI.footB, List.mem_cons, List.mem_map] at hk
  rcases hk with rfl | rfl | ⟨p, hp, rfl⟩
  · exact h.lt
  · exact h.clt
  · exact (Array.getElem?_eq_some_iff.1 (h.things p hp)).1

theorem pops_nil {now : Int} {gs : List Int} {Z' : List (Ent (Nat × Int))} (h : LI.Pops now [] gs Z') : gs = [] ∧ Z' = [] := by
  induction h with
  | nil => exact ⟨rfl, rfl⟩
  | snoc h hz _ _ ih => rw [ih.2] at hz; simp at hz
theorem pops_one {now : Int} {z : Ent (Nat × Int)} {gs : List Int} {Z' : List (Ent (Nat × Int))} (h : LI.Pops now [z] gs Z') : (gs = [] ∧ Z' = [z]) ∨ (gs = [z.v.2] ∧ Z' = []) := by
  induction h with
  | nil => exact .inl ⟨rfl, rfl⟩
  | snoc h hz hf hl ih =>
    rcases ih with ⟨e1, e⟩ | ⟨_, e⟩
    · subst e
      subst e1
      simp at hz
      subst hz
      exact .inr ⟨rfl, by simp [less]⟩
    · subst e; simp at hz

def tx : ByteArray := ⟨#[120]⟩
def ty : ByteArray := ⟨#[121]⟩
def tz : ByteArray := ⟨#[122]⟩
theorem txy : ty ≠ tx := by decide
theorem tzx : tz ≠ tx := by decide
theorem tzy : tz ≠ ty := by decide

set_option maxHeartbeats 8000000 in
set_option maxRecDepth 100000 in
theorem begun2_any (w : World) :
    Calls Try.prog 8 #[] w fun e w' => e = .returned (.bool true) ∧ Below w.heap.size w w' := by
  go_enter Try.func8, Try.ntmps8
  have m0 := Many.start w
  go_wp2_with fail
  refine (HS.new_any 2 w (by omega) (by omega)).mono ?_
  rintro e w1 ⟨rfl, h1, g1⟩
  have m1 := m0.add 0 (f := foot w.heap.size (.slice none 0 0)) (p := fun w' => HS.Heaps w' w.heap.size 2 0 (.slice none 0 0) []) g1 h1 h1.foot_lt h1.foot_ge HS.stable
  clear m0 g1 h1
  have M1 : Hid (Many w _ _ w1) := m1
  clear m1
  go_wp2_with fail
  refine (RI.new_any 2 w1 (by omega) (by omega)).mono ?_
  rintro e w2 ⟨rfl, h2, g2⟩
  have M2 : Hid (Many w _ _ w2) := M1.out.add 1 (f := foot w1.heap.size (.slice none 0 0)) (p := fun w' => RI.Rings w' w1.heap.size 2 (.slice none 0 0) []) g2 h2 h2.foot_lt h2.foot_ge RI.stable
  clear M1 g2 h2
  go_wp2_with fail
  refine (SS.new_any 3 w2 (by omega) (by omega)).mono ?_
  rintro e w3 ⟨rfl, h3, g3⟩
  have M3 : Hid (Many w _ _ w3) := M2.out.add 2 (f := foot w2.heap.size (.slice none 0 0)) (p := fun w' => SS.Seats w' w2.heap.size 3 (.slice none 0 0) []) g3 h3 h3.foot_lt h3.foot_ge SS.stable
  clear M2 g3 h3
  go_wp2_with fail
  refine (BI.new_any 1 w3 (by omega) (by omega)).mono ?_
  rintro e w4 ⟨rfl, h4, g4⟩
  have M4 : Hid (Many w _ _ w4) := M3.out.add 3 (f := BI.footB (w3.heap.size + 1) w3.heap.size []) (p := fun w' => BI.Boxes w' (w3.heap.size + 1) w3.heap.size 1 []) g4 h4 (BI.footB_lt h4) (by intro k hk; simp [BI.footB] at hk; omega) BI.stable
  clear M3 g4 h4
  go_wp2_with fail
  refine (LI.new_any 3 w4 (by omega) (by omega)).mono ?_
  rintro e w5 ⟨lb, rfl, hlb, h5, g5⟩
  have M5 : Hid (Many w _ _ w5) := M4.out.add 4 (f := LI.footL lb w4.heap.size (.slice none 0 0) (.slice none 0 0) []) (p := fun w' => LI.Lines w' lb w4.heap.size 3 0 (.slice none 0 0) (.slice none 0 0) [] []) g5 h5 h5.foot_lt (by intro k hk; simp [LI.footL, foot, Value.ownBlock] at hk; omega) LI.stable
  clear M4 g5 h5
  go_wp2_with fail
  refine (HS.put_new tx 5 1 w5 (M5.out.holds 0) trivial (by simp) (by simp) (by omega) (by omega)).mono ?_
  rintro e w6 ⟨hv6, rfl, h6, o6, f6⟩
  have M6 : Hid (Many w _ _ w6) := M5.out.turn 0 (f := foot w.heap.size hv6) (p := fun w' => HS.Heaps w' w.heap.size 2 1 hv6 [⟨tx, 5, 1, 1⟩]) o6 h6 h6.foot_lt f6 HS.stable
  clear M5 h6 o6 f6
  go_wp2_with fail
  refine (HS.put_new ty 3 9 w6 (M6.out.holds 0) trivial (by intro y hy; simp at hy; subst hy; exact fun e => txy e.symm) (by simp) (by omega) (by omega)).mono ?_
  rintro e w7 ⟨hv7, rfl, h7, o7, f7⟩
  have M7 : Hid (Many w _ _ w7) := M6.out.turn 0 (f := foot w.heap.size hv7) (p := fun w' => HS.Heaps w' w.heap.size 2 2 hv7 [⟨tx, 5, 1, 1⟩, ⟨ty, 3, 9, 2⟩]) o7 h7 h7.foot_lt f7 HS.stable
  clear M6 h7 o7 f7
  go_wp2_with fail
  refine (HS.put_full tz 1 1 w7 (M7.out.holds 0) (F := []) trivial (by intro y hy; simp at hy; rcases hy with rfl | rfl; exact fun e => tzx e.symm; exact fun e => tzy e.symm) (by simp)).mono ?_
  rintro e w8 ⟨rfl, g8⟩
  have M8 : Hid (Many w _ _ w8) := M7.out.below g8
  clear M7 g8
  go_wp2_with fail
  refine (HS.first_some w8 (M8.out.holds 0) (by simp)).mono ?_
  rintro e w' ⟨x, hx, rfl, hw⟩
  subst w'
  have hxy : x.v = ty := by
    have hm := hx.1
    simp at hm
    rcases hm with rfl | rfl
    · have := hx.2 ⟨ty, 3, 9, 2⟩ (by simp)
      unfold Le Lt at this
      simp at this
    · rfl
  have hxs : mkS x.v = .string ⟨#[121]⟩ := by rw [hxy]; rfl
  clear hx hxy
  go_wp2_with fail
  refine (RI.put_ok 4 w8 (M8.out.holds 1) (by simp)).mono ?_
  rintro e w9 ⟨rv9, rfl, h9, o9, f9⟩
  have M9 : Hid (Many w _ _ w9) := M8.out.turn 1 (f := foot w1.heap.size rv9) (p := fun w' => RI.Rings w' w1.heap.size 2 rv9 [4]) o9 h9 h9.foot_lt f9 RI.stable
  clear M8 h9 o9 f9
  go_wp2_with fail
  refine (RI.put_ok 5 w9 (M9.out.holds 1) (by simp)).mono ?_
  rintro e w10 ⟨rv10, rfl, h10, o10, f10⟩
  have M10 : Hid (Many w _ _ w10) := M9.out.turn 1 (f := foot w1.heap.size rv10) (p := fun w' => RI.Rings w' w1.heap.size 2 rv10 [4, 5]) o10 h10 h10.foot_lt f10 RI.stable
  clear M9 h10 o10 f10
  go_wp2_with fail
  refine (RI.take_some w10 (M10.out.holds 1)).mono ?_
  rintro e w11 ⟨rfl, h11, o11⟩
  have M11 : Hid (Many w _ _ w11) := M10.out.turn 1 (f := foot w1.heap.size rv10) (p := fun w' => RI.Rings w' w1.heap.size 2 rv10 [5]) o11 h11 h11.foot_lt (fun k hk => .inl hk) RI.stable
  clear M10 h11 o11
  go_wp2_with fail
  refine (SS.add_new ⟨#[97]⟩ w11 (M11.out.holds 2) ⟨by simp, by simp, by simp⟩ (by simp)).mono ?_
  rintro e w12 ⟨sv12, rfl, h12, o12, f12⟩
  have M12 : Hid (Many w _ _ w12) := M11.out.turn 2 (f := foot w2.heap.size sv12) (p := fun w' => SS.Seats w' w2.heap.size 3 sv12 [(⟨#[97]⟩, true)]) o12 h12 h12.foot_lt f12 SS.stable
  clear M11 h12 o12 f12
  go_wp2_with fail
  refine (SS.add_new ⟨#[98]⟩ w12 (M12.out.holds 2) ⟨by simp, by intro j p hj hp; simp at hj; subst hj; simp at hp; subst hp; rfl, by simp⟩ (by simp)).mono ?_
  rintro e w13 ⟨sv13, rfl, h13, o13, f13⟩
  have M13 : Hid (Many w _ _ w13) := M12.out.turn 2 (f := foot w2.heap.size sv13) (p := fun w' => SS.Seats w' w2.heap.size 3 sv13 [(⟨#[97]⟩, true), (⟨#[98]⟩, true)]) o13 h13 h13.foot_lt f13 SS.stable
  clear M12 h13 o13 f13
  go_wp2_with fail
  refine (SS.drop_yes 0 1 w13 (M13.out.holds 2) rfl (by omega)).mono ?_
  rintro e w14 ⟨rfl, h14, o14⟩
  have M14 : Hid (Many w _ _ w14) := M13.out.turn 2 (f := foot w2.heap.size sv13) (p := fun w' => SS.Seats w' w2.heap.size 3 sv13 [(⟨#[]⟩, false), (⟨#[98]⟩, true)]) o14 h14 h14.foot_lt (fun k hk => .inl hk) SS.stable
  clear M13 h14 o14
  go_wp2_with fail
  refine (BI.put_room 7 w14 (M14.out.holds 3) (by simp)).mono ?_
  rintro e w15 ⟨rfl, h15, o15⟩
  have M15 : Hid (Many w _ _ w15) := M14.out.turn 3 (f := BI.footB (w3.heap.size + 1) w3.heap.size [(w14.heap.size, 7)]) (p := fun w' => BI.Boxes w' (w3.heap.size + 1) w3.heap.size 1 [(w14.heap.size, 7)]) (o15.mono (by intro k hk; simp at hk; subst hk; show _ ∈ BI.footB _ _ _; simp [BI.footB])) h15 (BI.footB_lt h15) (by intro k hk; simp [BI.footB] at hk; rcases hk with rfl | rfl | rfl; exact .inl (by show _ ∈ BI.footB _ _ _; simp [BI.footB]); exact .inl (by show _ ∈ BI.footB _ _ _; simp [BI.footB]); exact .inr (Nat.le_refl _)) BI.stable
  clear M14 h15 o15
  go_wp2_with fail
  refine (BI.put_full 8 w15 (M15.out.holds 3) rfl).mono ?_
  rintro e w16 ⟨rfl, g16⟩
  have M16 : Hid (Many w _ _ w16) := M15.out.below g16
  clear M15 g16
  go_wp2_with fail
  refine (BI.new_any 1 w16 (by omega) (by omega)).mono ?_
  rintro e w17 ⟨rfl, h17, g17⟩
  have M17 : Hid (Many w _ _ w17) := M16.out.add 5 (f := BI.footB (w16.heap.size + 1) w16.heap.size []) (p := fun w' => BI.Boxes w' (w16.heap.size + 1) w16.heap.size 1 []) g17 h17 (BI.footB_lt h17) (by intro k hk; simp [BI.footB] at hk; omega) BI.stable
  clear M16 g17 h17
  go_wp2_with fail
  refine (BI.either_second w17 (M17.out.holds 5) (M17.out.holds 3)).mono ?_
  rintro e w18 ⟨rfl, h18, o18⟩
  have M18 : Hid (Many w _ _ w18) := M17.out.turn 3 (f := BI.footB (w3.heap.size + 1) w3.heap.size []) (p := fun w' => BI.Boxes w' (w3.heap.size + 1) w3.heap.size 1 []) (o18.mono (by intro k hk; simp at hk; subst hk; show _ ∈ BI.footB _ _ _; simp [BI.footB])) h18 (BI.footB_lt h18) (by intro k hk; exact .inl (by simp [BI.footB] at hk; show _ ∈ BI.footB _ _ _; simp [BI.footB]; omega)) BI.stable
  clear M17 h18 o18
  go_wp2_with fail
  refine (LI.put_new 9 4 w18 (M18.out.holds 4) (by simp) (by simp) (by omega) (by omega)).mono ?_
  rintro e w19 ⟨t, lhv, lav, rfl, ht, h19, o19, f19, f19'⟩
  have M19 : Hid (Many w _ _ w19) := M18.out.turn 4 (f := LI.footL lb w4.heap.size lhv lav [(t, 9)]) (p := fun w' => LI.Lines w' lb w4.heap.size 3 1 lhv lav [(t, 9)] [⟨(t, 9), 4, 0, 1⟩]) o19 h19 h19.foot_lt (by
    intro k hk
    simp only [LI.footL, List.mem_append, List.mem_map, List.mem_singleton] at hk
    rcases hk with (hk | hk) | ⟨p, rfl, rfl⟩
    · rcases f19' k hk with q | q
      · exact .inl (by show _ ∈ LI.footL _ _ _ _ _; simp [LI.footL, q])
      · exact .inr q
    · rcases f19 k hk with q | q
      · exact .inl (by show _ ∈ LI.footL _ _ _ _ _; simp [LI.footL, q])
      · exact .inr q
    · exact .inr ht) LI.stable
  clear M18 h19 o19 f19 f19'
  go_wp2_with fail
  refine (LI.due_any 4 w19 (M19.out.holds 4)).mono ?_
  rintro e w20 ⟨dv, lhv2, lav2, A2, Z2, gs, rfl, own20, h20, hp20, he20, f20, f20', hA20, o20⟩
  obtain ⟨rfl, rfl⟩ : gs = [9] ∧ Z2 = [] := by
    rcases pops_one hp20 with ⟨_, rfl⟩ | h
    · exact absurd (he20 ⟨(t, 9), 4, 0, 1⟩ (by simp) ⟨by simp, fun y hy => by simp at hy; subst hy; exact Le.refl _⟩) (by simp)
    · exact h
  obtain rfl : A2 = [] := List.Perm.eq_nil h20.perm
  have hin : ∀ k ∈ LI.footL lb w4.heap.size lhv2 lav2 [], k ∈ LI.footL lb w4.heap.size lhv lav [(t, 9)] := by
    intro k hk
    unfold LI.footL at hk ⊢
    rw [f20, f20'] at hk
    simp only [List.mem_append, List.map_nil, List.not_mem_nil, or_false] at hk ⊢
    exact .inl hk
  have hlow : ∀ k ∈ LI.footL lb w4.heap.size lhv2 lav2 [], k < w19.heap.size := fun k hk => M19.out.lt 4 k (hin k hk)
  have hdv : ∀ k, dv.ownBlock = some k → w19.heap.size ≤ k ∧ k < w20.heap.size := fun k hk => own20.lt k hk
  have M20 : Hid (Many w _ _ w20) := M19.out.turn 4 (f := LI.footL lb w4.heap.size lhv2 lav2 [] ++ dv.ownBlock.toList) (p := fun w' => LI.Lines w' lb w4.heap.size 3 1 lhv2 lav2 [] [] ∧ w'.ownsRow w19.heap.size 3 1 dv 1 [mkI 9]) o20 ⟨h20, own20⟩ (by
      intro k hk
      rcases List.mem_append.1 hk with hk | hk
      · exact h20.foot_lt k hk
      · exact (hdv k (by simpa using hk)).2) (by
      intro k hk
      rcases List.mem_append.1 hk with hk | hk
      · exact .inl (hin k hk)
      · exact .inr (hdv k (by simpa using hk)).1) (fun w w' S h g hS => ⟨LI.stable w w' S h.1 g (fun k hk => hS k (by simp [hk])), row_stable w w' S h.2 g (fun k hk => hS k (by simp only [List.mem_append]; exact .inr hk))⟩)
  clear M19 h20 o20 hp20 he20 hA20 own20 hin f20 f20'
  go_wp2_with fail
  refine (LI.due_any 9 w20 (M20.out.holds 4).1).mono ?_
  rintro e w21 ⟨nv, lhv3, lav3, A3, Z3, gs, rfl, own21, h21, hp21, he21, f21, f21', hA21, o21⟩
  obtain ⟨rfl, rfl⟩ := pops_nil hp21
  obtain rfl : A3 = [] := List.Perm.eq_nil h21.perm
  have hin : ∀ k ∈ LI.footL lb w4.heap.size lhv3 lav3 [], k ∈ LI.footL lb w4.heap.size lhv2 lav2 [] := by
    intro k hk
    unfold LI.footL at hk ⊢
    rw [f21, f21'] at hk
    exact hk
  have hd21 := row_stable w20 w21 _ (M20.out.holds 4).2 o21 (fun k hk m => by
    have := (hdv k (by simpa using hk)).1
    have := hlow k m
    omega)
  have M21 : Hid (Many w _ _ w21) := M20.out.turn 4 (f := LI.footL lb w4.heap.size lhv3 lav3 [] ++ dv.ownBlock.toList) (p := fun w' => LI.Lines w' lb w4.heap.size 3 1 lhv3 lav3 [] [] ∧ w'.ownsRow w19.heap.size 3 1 dv 1 [mkI 9]) (o21.mono (fun k hk => by show _ ∈ _ ++ _; simp only [List.mem_append]; exact .inl hk)) ⟨h21, hd21⟩ (by
      intro k hk
      rcases List.mem_append.1 hk with hk | hk
      · exact h21.foot_lt k hk
      · exact Nat.lt_of_lt_of_le (hdv k (by simpa using hk)).2 o21.size) (by
      intro k hk
      refine .inl ?_
      show _ ∈ _ ++ _
      rcases List.mem_append.1 hk with hk | hk
      · exact List.mem_append.2 (.inl (hin k hk))
      · exact List.mem_append.2 (.inr hk)) (fun w w' S h g hS => ⟨LI.stable w w' S h.1 g (fun k hk => hS k (by simp [hk])), row_stable w w' S h.2 g (fun k hk => hS k (by simp only [List.mem_append]; exact .inr hk))⟩)
  obtain ⟨na, ncap, rfl⟩ : ∃ a cap, nv = .slice a 0 cap := by
    rcases own21.2 with ⟨rfl, _⟩ | ⟨g, cap, cur, rfl, _⟩
    · exact ⟨none, 0, rfl⟩
    · exact ⟨_, _, rfl⟩
  clear M20 h21 o21 hp21 he21 hA21 own21 hin hd21 f21 f21' hlow
  go_wp2_with fail
  refine (T.Begun_any w21).mono ?_
  rintro e w22 ⟨rfl, g22⟩
  have M22 : Hid (Many w _ _ w22) := M21.out.below g22
  clear M21 g22
  have mk4 : mkI 4 = .int .i64 4 := rfl
  have mk7 : mkI 7 = .int .i64 7 := rfl
  go_wp2_with fail
  refine (SS.add_there 0 ⟨#[99]⟩ w22 (M22.out.holds 2) ⟨by simp, by omega, by simp⟩ (by simp)).mono ?_
  rintro e w23 ⟨rfl, h23, o23⟩
  have M23 : Hid (Many w _ _ w23) := M22.out.turn 2 (f := foot w2.heap.size sv13) (p := fun w' => SS.Seats w' w2.heap.size 3 sv13 [(⟨#[99]⟩, true), (⟨#[98]⟩, true)]) o23 h23 h23.foot_lt (fun k hk => .inl hk) SS.stable
  clear M22 h23 o23
  obtain ⟨g, cap, hdv2, hc⟩ : ∃ g cap, dv = .slice (some ⟨g, 0, none⟩) 1 cap ∧ w23.cell? ⟨g, 0, none⟩ = some (.int .i64 9) := by
    have o := (M23.out.holds 4).2
    rcases o.2 with ⟨_, hz⟩ | ⟨g, cap, cur, hv, _⟩
    · omega
    · refine ⟨g, cap, hv, ?_⟩
      rw [hv] at o
      have := o.cellAt 0 (by omega)
      exact this
  subst hdv2
  go_wp2_with fail
  refine (HS.heap_len w23 (M23.out.holds 0)).mono ?_
  rintro e w' ⟨rfl, hw⟩
  subst w'
  go_wp2_with fail
  refine (RI.ring_room w23 (M23.out.holds 1)).mono ?_
  rintro e w24 ⟨rfl, g24⟩
  have M24 : Hid (Many w _ _ w24) := M23.out.below g24
  go_wp2_with fail
  refine (BI.len_any w24 (M24.out.holds 3)).mono ?_
  rintro e w' ⟨rfl, hw⟩
  subst w'
  go_wp2
  go_ret
  exact ⟨rfl, M24.out.bel⟩
end Go.Proofs.Ytbfbijfedamgaaa
