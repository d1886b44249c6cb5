/- The contract of the line's Due at int. -/
import Derived.Test.YtbfbijfedamgaaaLinePutI
import Derived.Deep.LoopGhost
namespace Go.Proofs.Ytbfbijfedamgaaa.LI
open Go.RowKit
variable {w w' : World} {lb hb : Nat} {room puts : Int} {hv av : Value} {A : List (Nat × Int)} {Z : List (Ent (Nat × Int))}

theorem Lines.first (h : Lines w lb hb room puts hv av A Z) (hz : Z ≠ []) : ∃ z ∈ Z, IsFirst (Z.map lo) (lo z) := by
  obtain ⟨es, x, _, _, _, _, _, _, _, _, hf⟩ := h.heap.top (by simpa using hz)
  obtain ⟨z, hz, rfl⟩ := List.mem_map.1 hf.1
  exact ⟨z, hz, hf⟩
theorem Lines.items (h : Lines w lb hb room puts hv av A Z) : Items (Z.map lo) puts := by
  obtain ⟨es, _, _, _, hi, _⟩ := h.heap
  exact hi
theorem first_is (h : Lines w lb hb room puts hv av A Z) {z : Ent (Nat × Int)} (hz : IsFirst (Z.map lo) (lo z)) :
    Calls Try.prog 71 #[.pointer (some ⟨hb, 0, none⟩)] w fun e w' => e = .returned (.tuple #[.pointer (some ⟨z.v.1, 0, none⟩), .bool true]) ∧ w' = w :=
  (HP.first_some w h.heap (List.ne_nil_of_mem hz.1)).mono fun e w' ⟨x, hx, he, hw⟩ => by
    have : x = lo z := IsFirst.uniq h.items hx hz
    subst this
    exact ⟨he, hw⟩
theorem lo_inj (h : Lines w lb hb room puts hv av A Z) {y z : Ent (Nat × Int)} (hy : y ∈ Z) (hz : z ∈ Z) (e : lo y = lo z) : y = z := by
  have a1 : y.v.1 = z.v.1 := congrArg (Ent.v (α := Nat)) e
  have a2 : y.a = z.a := congrArg (Ent.a (α := Nat)) e
  have a3 : y.b = z.b := congrArg (Ent.b (α := Nat)) e
  have a4 : y.t = z.t := congrArg (Ent.t (α := Nat)) e
  have a5 : y.v = z.v := h.one (h.perm.mem_iff.2 (List.mem_map.2 ⟨y, hy, rfl⟩)) (h.perm.mem_iff.2 (List.mem_map.2 ⟨z, hz, rfl⟩)) a1
  cases y; cases z
  simp only at a2 a3 a4 a5
  subst a2 a3 a4 a5
  rfl
theorem hi_first {z : Ent (Nat × Int)} (hz : z ∈ Z) : IsFirst (Z.map hi) (hi z) → IsFirst (Z.map lo) (lo z) := by
  intro h
  refine ⟨List.mem_map.2 ⟨z, hz, rfl⟩, fun y hy => ?_⟩
  obtain ⟨u, hu, rfl⟩ := List.mem_map.1 hy
  have := h.2 (hi u) (List.mem_map.2 ⟨u, hu, rfl⟩)
  unfold Le Lt hi at this
  unfold Le Lt lo
  exact this
theorem next_is (h : Lines w lb hb room puts hv av A Z) {z : Ent (Nat × Int)} (hz : z ∈ Z) (hf : IsFirst (Z.map lo) (lo z)) :
    Calls Try.prog 33 #[.pointer (some ⟨lb, 0, none⟩)] w fun e w' => e = .returned (.tuple #[.int .i64 z.a, .bool true]) ∧ Below w.heap.size w w' :=
  (next_some w h (List.ne_nil_of_mem hz)).mono fun e w' ⟨y, hy, hyf, he, hw⟩ => by
    have e1 : lo y = lo z := IsFirst.uniq h.items (hi_first hy hyf) hf
    have : y = z := lo_inj h hy hz e1
    subst this
    exact ⟨he, hw⟩

/-- What is due by now goes, the first one first. -/
inductive Pops (now : Int) : List (Ent (Nat × Int)) → List Int → List (Ent (Nat × Int)) → Prop
  | nil (Z : List (Ent (Nat × Int))) : Pops now Z [] Z
  | snoc {Z : List (Ent (Nat × Int))} {gs : List Int} {Z' : List (Ent (Nat × Int))} {z : Ent (Nat × Int)} : Pops now Z gs Z' → z ∈ Z' → IsFirst (Z'.map lo) (lo z) → z.a ≤ now → Pops now Z (gs ++ [z.v.2]) (less Z' z.v)

theorem infoE : (Try.prog.info? 3).map (fun i => (i.zero, i.size, i.bytes)) = some (some (.int .i64 0), 1, 8) := by kernel_rfl

theorem own_below {base e n : Nat} {v : Value} {xs : List Value} (h : w.ownsRow base e 1 v n xs) (g : Below w.heap.size w w') : w'.ownsRow base e 1 v n xs := by
  refine h.kept (row := none) ⟨g.os, g.tape, g.output, g.size, fun k hk _ => g.block k hk⟩ ?_
  by_cases q : v.ownBlock = none
  · exact .inl q
  · exact .inr q
theorem own_only {base e n : Nat} {v : Value} {xs : List Value} {S : List Nat} (h : w.ownsRow base e 1 v n xs) (o : Only S w w') (hS : ∀ k, v.ownBlock = some k → k ∉ S) : w'.ownsRow base e 1 v n xs := by
  obtain ⟨h1, h2⟩ := h
  refine ⟨h1, ?_⟩
  rcases h2 with h2 | ⟨g, cap, cur, rfl, hb', hh, r⟩
  · exact .inl h2
  · exact .inr ⟨g, cap, cur, rfl, hb', by rw [o.block g (Array.getElem?_eq_some_iff.1 hh).1 (hS g rfl)]; exact hh, r⟩
/-- The append to what has gone leaves the line. -/
theorem due_grow {w0 w1 w3 : World} {n : Nat} {o : Obj} {u v3 : Value} {xs ys : List Value} {F : List Nat} (h : Lines w1 lb hb room puts hv av A Z) (hF : ∀ k ∈ footL lb hb hv av A, k ∈ F) (hlt : ∀ k ∈ F, k < w0.heap.size)
    (own1 : w1.ownsRow w0.heap.size 3 1 u n xs) (_own3 : w3.ownsRow w0.heap.size 3 1 v3 (n + 1) ys) (grow3 : (w1.alloc o).grownBy w3 u.ownBlock) : Lines w3 lb hb room puts hv av A Z ∧ Only (u.ownBlock.toList) w1 w3 := by
  have on : Only (u.ownBlock.toList) w1 w3 := ((Only.refl _ w1).alloc o).grown grow3 (fun k hk => .inl (by simp [hk]))
  refine ⟨h.only on (fun k hk m => ?_), on⟩
  have := own1.lt k (by simpa using m)
  have := hlt k (hF k hk)
  omega

set_option maxHeartbeats 4000000 in
set_option maxRecDepth 100000 in
theorem due_any (now : Int) (w : World) (h : Lines w lb hb room puts hv av A Z) :
    Calls Try.prog 32 #[.pointer (some ⟨lb, 0, none⟩), .int .i64 now] w fun e w' => ∃ v hv' av' A' Z' gs, e = .returned v ∧ w'.ownsRow w.heap.size 3 1 v gs.length (gs.map mkI) ∧ Lines w' lb hb room puts hv' av' A' Z' ∧ Pops now Z gs Z' ∧ (∀ z ∈ Z', IsFirst (Z'.map lo) (lo z) → now < z.a) ∧
      foot hb hv' = foot hb hv ∧ foot lb av' = foot lb av ∧ (∀ p ∈ A', p ∈ A) ∧ Only (footL lb hb hv av A) w w' := by
  have hF := h.foot_lt
  obtain ⟨i0, hi0, hz0, hz1, hz2⟩ := info_parts infoE
  have hf := h.few
  have hA1 : A.length ≤ 1000 := by omega
  go_enter Try.func32, Try.ntmps32
  go_wp2
  go_loopg [5] (A.length + 1) (fun k v wr => ∃ hv' av' A' Z' gs, wr.ownsRow w.heap.size 3 1 v gs.length (gs.map mkI) ∧ Lines wr lb hb room puts hv' av' A' Z' ∧ Pops now Z gs Z' ∧ foot hb hv' = foot hb hv ∧ foot lb av' = foot lb av ∧ (∀ p ∈ A', p ∈ A) ∧ Only (footL lb hb hv av A) w wr ∧ A'.length + 1 ≤ k ∧ gs.length + A'.length = A.length)
  case atStart => exact ⟨hv, av, A, Z, [], World.ownsRow_nil _ _ _ _, h, .nil Z, rfl, rfl, fun p hp => hp, Only.refl _ _, Nat.le_refl _, by simp⟩
  case round =>
    obtain ⟨hv', av', A', Z', gs, own, hL, hpop, hf1, hf2, hAA, hon, hg, hgl⟩ := hrel
    have HE : Hid (foot hb hv' = foot hb hv ∧ foot lb av' = foot lb av ∧ gs.length + A'.length = A.length) := ⟨hf1, hf2, hgl⟩
    have hFF : ∀ k ∈ footL lb hb hv' av' A', k ∈ footL lb hb hv av A := by
      intro k hk
      unfold footL at hk ⊢
      rw [hf1, hf2] at hk
      simp only [List.mem_append, List.mem_map] at hk ⊢
      rcases hk with hk | ⟨p, hp, rfl⟩
      · exact .inl hk
      · exact .inr ⟨p, hAA p hp, rfl⟩
    have HFF : Hid (∀ k ∈ footL lb hb hv' av' A', k ∈ footL lb hb hv av A) := hFF
    have hgs : gs.length ≤ 1000 := by omega
    have hsz : w.heap.size ≤ wr.heap.size := hon.size
    clear hf1 hf2 hgl hFF
    by_cases hZ : Z' = []
    · subst hZ
      have nx := next_none wr hL
      go_wp2_with (go_at_call 33; refine nx.mono ?_; rintro e w1 ⟨rfl, g1⟩)
      go_ret
      exact ⟨_, hv', av', A', [], gs, rfl, own_below own g1, hL.below g1, hpop, by simp, HE.out.1, HE.out.2.1, hAA, hon.trans (Below.only g1 []) (by simp)⟩
    · obtain ⟨z, hz, hzf⟩ := hL.first hZ
      have nx := next_is hL hz hzf
      by_cases hnow : now < z.a
      · have HZF : Hid (IsFirst (Z'.map lo) (lo z) ∧ z ∈ Z') := ⟨hzf, hz⟩
        clear hzf hz hZ
        go_wp2_with (go_at_call 33; refine nx.mono ?_; rintro e w1 ⟨rfl, g1⟩)
        go_ret
        refine ⟨_, hv', av', A', Z', gs, rfl, own_below own g1, hL.below g1, hpop, fun y hy hyf => ?_, HE.out.1, HE.out.2.1, hAA, hon.trans (Below.only g1 []) (by simp)⟩
        have e1 : lo y = lo z := IsFirst.uniq hL.items hyf HZF.out.1
        have : y.a = z.a := congrArg (Ent.a (α := Nat)) e1
        omega
      · have hzA : z.v ∈ A' := hL.perm.mem_iff.2 (List.mem_map.2 ⟨z, hz, rfl⟩)
        obtain ⟨i, hi⟩ := List.getElem?_of_mem hzA
        have il := (List.getElem?_eq_some_iff.1 hi).1
        have fi := fun w (h : Lines w lb hb room puts hv' av' A' Z') => first_is h hzf
        have rm := fun w (h : Lines w lb hb room puts hv' av' A' Z') => remove_any w h hi
        rcases hL.own.2 with ⟨rfl, hn⟩ | ⟨g, cap, cur, hv2, -⟩
        · omega
        obtain ⟨n, hn⟩ : ∃ n, A'.length = n := ⟨_, rfl⟩
        rw [hn] at hv2
        subst hv2
        have hts : (A'.map (·.1))[i]? = some z.v.1 := by rw [List.getElem?_map, hi]; rfl
        have dd := hL.dist
        have fw := hL.few
        have ix := fun w h ok => index_any (base := lb + 1) (g := g) (n := n) (cap := cap) (i := i) (t := z.v.1) (ts := A'.map (·.1)) w h (by omega) ok hts dd
        have HZF : Hid (IsFirst (Z'.map lo) (lo z) ∧ z ∈ Z' ∧ z.a ≤ now ∧ A'.length = n ∧ A'[i]? = some z.v) := ⟨hzf, hz, by omega, hn, hi⟩
        have HL : Hid (Lines wr lb hb room puts hv' (.slice (some ⟨g, 0, none⟩) n cap) A' Z') := hL
        have HOWN : Hid (wr.ownsRow w.heap.size 3 1 u5 gs.length (gs.map mkI)) := own
        clear hzf hz hZ hn hi hts dd hL own hzA
        go_wp2_with (first | (go_at_call 70; refine (rm _ L3.out).mono ?_; rintro e w4 ⟨hv4, av4, rfl, hL4, f1, f2, o4⟩) | (go_at_call 72; refine (ix _ ow3 ok3).mono ?_; rintro e w' ⟨rfl, hw⟩; subst w') | (at_builtin; refine wpList_append_own_at _ rfl (.tmp 31) (.tmp 36) 59 rfl w.heap.size 3 i0 (.int .i64 0) 1 8 Try.underlying59 hi0 hz0 hz1 hz2 rfl (by decide) _ _ _ rfl (own1.alloc _) ⟨w1.heap.size, 0, none⟩ 1 1 [.int .i64 z.v.2] rfl rfl (cell_one_new _ _ _) (by intro u hu; simp at hu; subst hu; rfl) (by unfold maxLen; omega) (by omega) (by simp; omega) ?_; intro v3 w3 own3 grow3 nil3 at3; obtain ⟨l3, s3⟩ := due_grow L1.out HFF.out hF own1 own3 grow3; have c3 := l3.c1; have ow3 : w3.ownsRow (lb + 1) 107 1 (.slice (some ⟨g, 0, none⟩) n cap) n ((A'.map (·.1)).map fun b => Value.pointer (some ⟨b, 0, none⟩)) := (by have := l3.own; rw [HZF.out.2.2.2.1, ptrs_eq] at this; exact this); have ok3 : ∀ b ∈ A'.map (·.1), IsCells w3 b := (fun b hb => by obtain ⟨p, hp, rfl⟩ := List.mem_map.1 hb; exact ⟨_, _, l3.things p hp⟩); have L3 : Hid (Lines w3 lb hb room puts hv' (.slice (some ⟨g, 0, none⟩) n cap) A' Z') := l3; have O3 : Hid (w3.ownsRow w.heap.size 3 1 v3 (gs.length + 1) (gs.map mkI ++ [.int .i64 z.v.2]) ∧ Only (u5.ownBlock.toList) w1 w3) := ⟨own3, s3⟩; clear l3 own3 grow3 nil3 at3 own1 s3) | (go_at_call 71; refine (fi _ L1.out).mono ?_; rintro e w' ⟨rfl, hw⟩; subst w') | (go_at_call 33; refine nx.mono ?_; rintro e w1 ⟨rfl, g1⟩; have l1 := HL.out.below g1; have c0 := l1.c0; have ct : w1.cell? ⟨z.v.1, 0, none⟩ = some (.int .i64 z.v.2) := (by have := l1.things z.v (List.mem_of_getElem? HZF.out.2.2.2.2); simp [World.cell?, this, mkI]); have own1 : w1.ownsRow w.heap.size 3 1 u5 gs.length (gs.map mkI) := own_below HOWN.out g1; have hs1 : wr.heap.size ≤ w1.heap.size := g1.size; have L1 : Hid (Lines w1 lb hb room puts hv' (.slice (some ⟨g, 0, none⟩) n cap) A' Z') := l1; clear l1))
        obtain ⟨q1, q2, q3, q4, q5⟩ := HZF.out
        go_roundg n
        case measure => omega
        case rel =>
          have ln : (A'.eraseIdx i).length = n - 1 := by rw [List.length_eraseIdx_of_lt (by omega), q4]
          obtain ⟨o3, s3⟩ := O3.out
          have own4 : w4.ownsRow w.heap.size 3 1 v3 (gs.length + 1) (gs.map mkI ++ [.int .i64 z.v.2]) := own_only o3 o4 (fun k hk m => by
            have := o3.lt k hk
            have := hF k (HFF.out k m)
            omega)
          refine ⟨hv4, av4, A'.eraseIdx i, less Z' z.v, gs ++ [z.v.2], ?_, hL4, .snoc hpop q2 q1 q3, f1.trans HE.out.1, f2.trans HE.out.2.1, fun p hp => hAA p (List.mem_of_mem_eraseIdx hp), ?_, by omega, ?_⟩
          · have e1 : (gs ++ [z.v.2]).length = gs.length + 1 := by simp
            rw [e1, List.map_append]
            exact own4
          · refine ((hon.trans (Below.only g1 []) (by simp)).trans s3 (fun k hk => .inr ?_)).trans o4 (fun k hk => .inl (HFF.out k hk))
            have := (HOWN.out.lt k (by simpa using hk)).1
            exact this
          · have := HE.out.2.2
            simp
            omega
end Go.Proofs.Ytbfbijfedamgaaa.LI
