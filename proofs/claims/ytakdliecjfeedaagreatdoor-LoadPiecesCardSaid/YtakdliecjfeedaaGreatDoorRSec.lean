/- The contracts of the document's own Section and Wait. -/
import Derived.Test.YtakdliecjfeedaaGreatDoorWSec
namespace Go.Proofs.YtakdliecjfeedaaGreatDoor
open Go Go.RowKit

/-- A configuration, a section in boxes; the rest as it was. -/
structure RBx (w0 : World) (gc go : Nat) (cs os : Array Value) (w : World) : Prop where
  bc : Blk w gc cs 24
  bo : Blk w go os 39
  bel : Below w0.heap.size w0 w
theorem RBx.below {w0 w w' : World} {gc go : Nat} {cs os : Array Value} (h : RBx w0 gc go cs os w) (k : Below w.heap.size w w') : RBx w0 gc go cs os w' := ⟨h.bc.below k, h.bo.below k, btrans h.bel k⟩
theorem RBx.drew {w0 w : World} {gc go : Nat} {cs os : Array Value} (h : RBx w0 gc go cs os w) : RBx w0 gc go cs os w.drew := h.below (bdrew _)
set_option maxHeartbeats 16000000 in
theorem rsec_in (co sy la mo : Int) (v : Value) (res : List Int) (a : Option Addr) (n cap : Nat) (l : List TV) (i s : Nat) (X : TV) (Y : Sec) (w : World) (hv : Ints w v res) (hr : res.length ≤ 1000000) (la0 : 0 ≤ la) (la1 : la ≤ 5) (hl : Tks w (.slice a n cap) l) (hn : l.length = n) (n12 : n ≤ 12) (ha : ∀ x ∈ l, tskB res.length x.tsk = true)
    (hX : l[i]? = some X) (hY : X.m[s]? = some Y) :
    Calls Tryz.prog 15 #[.agg #[.int .i64 co, .int .i64 sy, .int .i64 la, .int .i64 mo, v], .slice a n cap, .int .i64 i, .int .i64 s] w fun e w' => e = .returned (.int .i64 (secV la res l i s)) ∧ Below w.heap.size w w' := by
  obtain ⟨av, cv, rfl⟩ := hv.form
  have HR : Hid (secV la res l i s = 2 * la + Y.len + othL res (resAt res Y.res) i l 0) := secV_at hX hY
  rw [HR.out]
  clear HR
  have hXs := (tv_secs (ha X (List.mem_of_getElem? hX)))
  have hYs := hXs.2 Y (List.mem_of_getElem? hY)
  have hin : i < n := by rw [← hn]; exact (List.getElem?_eq_some_iff.1 hX).1
  have hsm : s < X.m.length := (List.getElem?_eq_some_iff.1 hY).1
  have hsl := hXs.1
  obtain ⟨q, hq⟩ : ∃ q, q = res.length := ⟨_, rfl⟩
  obtain ⟨j, z, hj, hjq, hz, hag⟩ := res_at hq (by rw [hq]; exact hYs.1)
  obtain ⟨ln0, ln1⟩ := hYs.2
  rw [hag]
  have HB : Hid (∀ k, 0 ≤ othL res z i (l.take k) 0 ∧ othL res z i (l.take k) 0 ≤ 200 * 12) := fun k => by
    have := oth_bd (res := res) (ag := z) (i := i) (l := l.take k) (fun x hx s hs => ((tv_secs (ha x (List.mem_of_mem_take hx))).2 s hs).2) 0
    have h2 : (l.take k).length ≤ 12 := by rw [List.length_take]; omega
    omega
  have HA : Hid (∀ x ∈ l, tskB res.length x.tsk = true) := ha
  have HV : Hid (Ints w (.slice av res.length cv) res) := hv
  have HL : Hid (Tks w (.slice a n cap) l) := hl
  have HN : Hid (l.length = n) := hn
  have HZ : Hid (res[j]? = some z) := hz
  have HQ : Hid (q = res.length) := hq
  obtain ⟨b, o, eb, hbl, y1, y2, y3, y4, ys⟩ := hl.at hX
  subst eb
  obtain ⟨a2, cap2, eu⟩ := ys.form
  rw [eu] at y4 ys
  obtain ⟨b2, e2, hb2, z1, z2, z3⟩ := secs_at ys hY
  subst e2
  obtain ⟨r, p, ln⟩ := Y
  simp only at hj z1 z2 z3 ln0 ln1
  subst hj
  obtain ⟨M, hM⟩ : ∃ M, X.m.length = M := ⟨_, rfl⟩
  rw [hM] at hsm hsl y4
  have k0 : (0 : Int) ≤ (i : Int) := by omega
  have k1 : (i : Int) < (n : Int) := by omega
  have k2 : (0 : Int) ≤ (s : Int) := by omega
  have k3 : (s : Int) < (M : Int) := by omega
  have W1 : IntKind.i64.wrap (2 * la) = 2 * la := IntWalk.i64_in _ (by omega)
  have W2 : IntKind.i64.wrap (2 * la + ln) = 2 * la + ln := IntWalk.i64_in _ (by omega)
  rw [← hq] at HV ⊢
  have q6 : q ≤ 1000000 := by omega
  clear hv hl hn hz hq hX hY hXs hYs ha eu ys hM hag hr y1 y2 y3
  simp only
  have nb2 : ¬ b2 = w.heap.size := by omega
  go_enter Tryz.func15, Tryz.ntmps15
  have BW : Hid (Below w.heap.size w ((w.alloc (.cells #[.int .i64 co, .int .i64 sy, .int .i64 la, .int .i64 mo, .slice av q cv] 24)).alloc (.cells #[.int .i64 j, .int .i64 p, .int .i64 ln] 39))) := btrans (balloc _ _) (balloc _ _)
  have cO : Blk ((w.alloc (.cells #[.int .i64 co, .int .i64 sy, .int .i64 la, .int .i64 mo, .slice av q cv] 24)).alloc (.cells #[.int .i64 j, .int .i64 p, .int .i64 ln] 39)) (w.heap.size + 1) #[.int .i64 j, .int .i64 p, .int .i64 ln] 39 := blkTwo _ _ _ _
  have cC : Blk ((w.alloc (.cells #[.int .i64 co, .int .i64 sy, .int .i64 la, .int .i64 mo, .slice av q cv] 24)).alloc (.cells #[.int .i64 j, .int .i64 p, .int .i64 ln] 39)) w.heap.size #[.int .i64 co, .int .i64 sy, .int .i64 la, .int .i64 mo, .slice av q cv] 24 := (show Blk (w.alloc (.cells #[.int .i64 co, .int .i64 sy, .int .i64 la, .int .i64 mo, .slice av q cv] 24)) w.heap.size #[.int .i64 co, .int .i64 sy, .int .i64 la, .int .i64 mo, .slice av q cv] 24 from heap_alloc_new _ _).below (balloc _ _)
  go_wp2_with fail
  generalize hW : (w.alloc _).alloc _ = W at BW cO cC
  have KC : Hid (Blk W w.heap.size #[.int .i64 co, .int .i64 sy, .int .i64 la, .int .i64 mo, .slice av q cv] 24) := cC
  have KO : Hid (Blk W (w.heap.size + 1) #[.int .i64 j, .int .i64 p, .int .i64 ln] 39) := cO
  have sW : w.heap.size + 1 < W.heap.size := cO.lt
  clear hW cC cO y4 z1 z2 z3 W1 W2 nb2
  simp only [decide_eq_false (show ¬ n ≤ i by omega), decide_eq_false (show ¬ M ≤ s by omega), Bool.or_false]
  go_loopw [10, 11] (fun x i2 wr => ∃ k : Nat, k ≤ n ∧ i2 = .int .i64 k ∧ x = .int .i64 (2 * la + ln + othL res z i (l.take k) 0) ∧ Below W.heap.size W wr) (fun _ i2 _ => n - (intOf i2).toNat)
  case atStart => exact ⟨0, Nat.zero_le _, rfl, by simp [othL], Below.refl _ _⟩
  case round =>
    obtain ⟨k, hk, rfl, rfl, hB⟩ := hrel
    have B : Hid (Below W.heap.size W wr) := hB
    have sr : W.heap.size ≤ wr.heap.size := hB.size
    have BB : Hid (Below w.heap.size w wr) := BW.out.trans (hB.mono (by omega))
    have P0 : Hid (RBx w w.heap.size (w.heap.size + 1) #[.int .i64 co, .int .i64 sy, .int .i64 la, .int .i64 mo, .slice av q cv] #[.int .i64 j, .int .i64 p, .int .i64 ln] wr) := ⟨KC.out.below hB, KO.out.below hB, BB.out⟩
    clear hB
    obtain ⟨p1, p2⟩ := HB.out k
    by_cases hlt : k < n
    · obtain ⟨⟨c, d, t, u, m⟩, hx⟩ : ∃ x, l[k]? = some x := ⟨_, List.getElem?_eq_getElem (by rw [HN.out]; exact hlt)⟩
      obtain ⟨b4, o4, e4, hb4, x1, x2, x3, x4, xs⟩ := (HL.out.below BB.out).at hx
      simp only [Option.some.injEq, Addr.mk.injEq, and_true] at e4
      obtain ⟨rfl, rfl⟩ := e4
      simp only at x1 x2 x3 x4 xs
      obtain ⟨a5, cap5, rfl⟩ := xs.form
      have HX : Hid (l[k]? = some ⟨c, d, t, .slice a5 m.length cap5, m⟩) := hx
      have HS : Hid (Secs wr (.slice a5 m.length cap5) m) := xs
      have ht := tv_secs (HA.out _ (List.mem_of_getElem? hx))
      have HM : Hid (m.length ≤ 1000000) := by have := ht.1; show _ ≤ _; simp only at this; omega
      have HO : Hid (∀ s ∈ m, 0 ≤ s.res ∧ s.res < res.length) := fun s hs => (ht.2 s hs).1
      have hlon := lon_bd (res := res) (ag := z) (m := m) (fun s hs => (ht.2 s hs).2)
      obtain ⟨l1, l2⟩ := hlon
      have HT := oth_take (res := res) (ag := z) (i := i) hx 0
      obtain ⟨Z, hZ⟩ : ∃ Z, othL res z i (l.take k) 0 = Z := ⟨_, rfl⟩
      obtain ⟨L, hL⟩ : ∃ L, lonL res z m = L := ⟨_, rfl⟩
      have HLon : Hid (lonL res z m = L) := hL
      rw [hZ] at p1 p2 HT ⊢
      simp only [hL] at l1 l2 HT
      have HTT : Hid (othL res z i (l.take (k + 1)) 0 = Z + (if ((0 + k : Nat) : Int) = i then 0 else L)) := HT
      clear hx xs ht HT hZ hL
      by_cases e : (k : Int) = i
      · have d0 : ((k : Int) == (i : Int)) = true := by simp [e]
        have HY : Hid (othL res z i (l.take (k + 1)) 0 = Z) := by unfold Hid; rw [HTT.out, if_pos (by omega)]; omega
        clear HTT e
        go_wp2_with fail
        go_round
        case rel => exact ⟨k + 1, by omega, by go_num, by rw [HY.out], B.out⟩
        case measure => simp [intOf]; omega
      · have d0 : ((k : Int) == (i : Int)) = false := by simp [e]
        have HY : Hid (othL res z i (l.take (k + 1)) 0 = Z + L) := by unfold Hid; rw [HTT.out, if_neg (by omega)]
        have W3 : IntKind.i64.wrap (2 * la + ln + Z + L) = 2 * la + ln + Z + L := IntWalk.i64_in _ (by omega)
        have c0 := P0.out.bc.cell 0
        have c1 := P0.out.bc.cell 1
        have c2 := P0.out.bc.cell 2
        have c3 := P0.out.bc.cell 3
        have c4 := P0.out.bc.cell 4
        have o0 := P0.out.bo.cell 0
        simp at c0 c1 c2 c3 c4 o0
        obtain ⟨f, ef, hf, xf⟩ := ints_at (HV.out.below P0.out.bel) HZ.out
        subst ef
        have q0 : (0 : Int) ≤ (j : Int) := by omega
        have q1 : (j : Int) < (q : Int) := by omega
        have kz : (0 : Int) ≤ (k : Int) := by omega
        have kn : (k : Int) < (n : Int) := by omega
        clear HTT
        go_wp2_with fail
        go_region_held3 (fun w' => w'.cell? ⟨w.heap.size, 0, none⟩ = some (.int .i64 co) ∧ w'.cell? ⟨w.heap.size, 1, none⟩ = some (.int .i64 sy) ∧ w'.cell? ⟨w.heap.size, 2, none⟩ = some (.int .i64 la) ∧ w'.cell? ⟨w.heap.size, 3, none⟩ = some (.int .i64 mo) ∧ w'.cell? ⟨w.heap.size, 4, none⟩ = some (.slice (some ⟨f, 0, none⟩) q cv) ∧ w'.cell? ⟨b, o + k * 4, none⟩ = some (.int .i64 c) ∧ w'.cell? ⟨b, o + k * 4 + 1, none⟩ = some (.int .i64 d) ∧ w'.cell? ⟨b, o + k * 4 + 2, none⟩ = some (.int .i64 t) ∧ w'.cell? ⟨b, o + k * 4 + 3, none⟩ = some (.slice a5 m.length cap5) ∧ w'.cell? ⟨w.heap.size + 1, 0, none⟩ = some (.int .i64 j) ∧ w'.cell? ⟨f, j, none⟩ = some (.int .i64 z)) (first | exact ⟨c0, c1, c2, c3, c4, x1, x2, x3, x4, o0, xf⟩ | go_keep | exact ⟨r0, r1, r2, r3, r4, s0, s1, s2, s3, u0, uf⟩)
          (first | (go_at_call 19; refine (longest_any co sy la mo _ res c d t _ m z _ (HV.out.below (by first | exact P0.out.bel | exact P0.out.drew.bel)) (by rw [← HQ.out]; exact q6) (by first | exact HS.out | exact HS.out.below (bdrew _)) HM.out HO.out).mono ?_; rintro e w3 ⟨rfl, g3⟩; rw [HLon.out]; have B3 : Hid (Below W.heap.size W w3) := (by first | exact btrans B.out g3 | exact btrans (btrans B.out (bdrew _)) g3); have P3 : Hid (RBx w w.heap.size (w.heap.size + 1) #[.int .i64 co, .int .i64 sy, .int .i64 la, .int .i64 mo, .slice (some ⟨f, 0, none⟩) q cv] #[.int .i64 j, .int .i64 p, .int .i64 ln] w3) := (by first | exact P0.out.below g3 | exact P0.out.drew.below g3); have r0 := P3.out.bc.cell 0; have r1 := P3.out.bc.cell 1; have r2 := P3.out.bc.cell 2; have r3 := P3.out.bc.cell 3; have r4 := P3.out.bc.cell 4; have u0 := P3.out.bo.cell 0; simp at r0 r1 r2 r3 r4 u0; obtain ⟨f2, ef2, -, uf⟩ := ints_at (HV.out.below P3.out.bel) HZ.out; simp only [Option.some.injEq, Addr.mk.injEq, and_true] at ef2; subst ef2; obtain ⟨b6, o6, e6, -, s0, s1, s2, s3, -⟩ := (HL.out.below P3.out.bel).at HX.out; simp only [Option.some.injEq, Addr.mk.injEq, and_true] at e6; obtain ⟨rfl, rfl⟩ := e6; simp only at s0 s1 s2 s3; clear g3))
        go_wp2_with fail
        go_round
        case rel => exact ⟨k + 1, by omega, by go_num, by rw [HY.out]; go_num, B3.out⟩
        case measure => simp [intOf]; omega
    · have e : l.take k = l := List.take_of_length_le (by rw [HN.out]; omega)
      rw [e]
      clear e
      go_wp2_with fail
      go_ret
      exact ⟨rfl, BB.out⟩

set_option maxHeartbeats 8000000 in
theorem rsec_any (co sy la mo : Int) (v : Value) (res : List Int) (a : Option Addr) (n cap : Nat) (l : List TV) (i s : Int) (w : World) (hv : Ints w v res) (hr : res.length ≤ 1000000) (la0 : 0 ≤ la) (la1 : la ≤ 5) (hl : Tks w (.slice a n cap) l) (hn : l.length = n) (n12 : n ≤ 12) (ha : ∀ x ∈ l, tskB res.length x.tsk = true) :
    Calls Tryz.prog 15 #[.agg #[.int .i64 co, .int .i64 sy, .int .i64 la, .int .i64 mo, v], .slice a n cap, .int .i64 i, .int .i64 s] w fun e w' => e = .returned (.int .i64 (secV la res l i s)) ∧ Below w.heap.size w w' := by
  by_cases h1 : i < 0
  · have HZ : Hid (secV la res l i s = 0) := secV_no fun p q x y e1 e2 e3 e4 => by omega
    clear hl hv ha
    go_enter Tryz.func15, Tryz.ntmps15
    go_wp2_with fail
    go_ret
    exact ⟨ret_int HZ.out.symm, balloc _ _⟩
  by_cases h2 : (n : Int) ≤ i
  · have HZ : Hid (secV la res l i s = 0) := secV_no fun p q x y e1 e2 e3 e4 => by
      have := (List.getElem?_eq_some_iff.1 e3).1
      omega
    clear hl hv ha
    go_enter Tryz.func15, Tryz.ntmps15
    go_wp2_with fail
    go_ret
    exact ⟨ret_int HZ.out.symm, balloc _ _⟩
  obtain ⟨i, rfl⟩ : ∃ k : Nat, i = (k : Int) := ⟨i.toNat, by omega⟩
  obtain ⟨X, hX⟩ : ∃ x, l[i]? = some x := ⟨_, List.getElem?_eq_getElem (by omega)⟩
  by_cases h3 : 0 ≤ s ∧ s < (X.m.length : Int)
  · obtain ⟨s, rfl⟩ : ∃ k : Nat, s = (k : Int) := ⟨s.toNat, by omega⟩
    obtain ⟨Y, hY⟩ : ∃ x, X.m[s]? = some x := ⟨_, List.getElem?_eq_getElem (by omega)⟩
    exact rsec_in co sy la mo v res a n cap l i s X Y w hv hr la0 la1 hl hn n12 ha hX hY
  · have HZ : Hid (secV la res l i s = 0) := secV_no fun p q x y e1 e2 e3 e4 => by
      have : p = i := by omega
      subst this
      rw [hX] at e3
      cases e3
      have := (List.getElem?_eq_some_iff.1 e4).1
      omega
    obtain ⟨b, o, eb, hbl, y1, y2, y3, y4, ys⟩ := hl.at hX
    subst eb
    obtain ⟨a2, cap2, eu⟩ := ys.form
    rw [eu] at y4
    obtain ⟨M, hM⟩ : ∃ M, X.m.length = M := ⟨_, rfl⟩
    rw [hM] at y4 h3
    clear hl hv ha ys eu hM hX y1 y2 y3
    by_cases h4 : s < 0
    · clear h3
      go_enter Tryz.func15, Tryz.ntmps15
      go_wp2_with fail
      go_ret
      exact ⟨ret_int HZ.out.symm, balloc _ _⟩
    · have h5 : (M : Int) ≤ s := by omega
      clear h3
      go_enter Tryz.func15, Tryz.ntmps15
      go_wp2_with fail
      go_ret
      exact ⟨ret_int HZ.out.symm, balloc _ _⟩
set_option maxHeartbeats 8000000 in
theorem rwait_any (co sy la mo : Int) (v : Value) (res : List Int) (a : Option Addr) (n cap : Nat) (l : List TV) (i : Int) (w : World) (hv : Ints w v res) (hr : res.length ≤ 1000000) (la0 : 0 ≤ la) (la1 : la ≤ 5) (hl : Tks w (.slice a n cap) l) (hn : l.length = n) (n12 : n ≤ 12) (ha : ∀ x ∈ l, tskB res.length x.tsk = true) :
    Calls Tryz.prog 17 #[.agg #[.int .i64 co, .int .i64 sy, .int .i64 la, .int .i64 mo, v], .slice a n cap, .int .i64 i] w fun e w' => e = .returned (.int .i64 (waitV la res l i)) ∧ Below w.heap.size w w' := by
  by_cases h1 : i < 0
  · have HZ : Hid (waitV la res l i = 0) := waitV_no (.inl h1)
    clear hl hv ha
    go_enter Tryz.func17, Tryz.ntmps17
    go_wp2_with fail
    go_loop [7, 8] (fun x y => x = .int .i64 0 ∧ y = .int .i64 0) (fun _ _ => 0)
    case atStart => exact ⟨rfl, rfl⟩
    case round =>
      obtain ⟨rfl, rfl⟩ := hrel
      go_wp2_with fail
      go_ret
      exact ⟨ret_int HZ.out.symm, balloc _ _⟩
  by_cases h2 : (n : Int) ≤ i
  · have HZ : Hid (waitV la res l i = 0) := waitV_no (.inr (by omega))
    clear hl hv ha
    go_enter Tryz.func17, Tryz.ntmps17
    go_wp2_with fail
    go_loop [7, 8] (fun x y => x = .int .i64 0 ∧ y = .int .i64 0) (fun _ _ => 0)
    case atStart => exact ⟨rfl, rfl⟩
    case round =>
      obtain ⟨rfl, rfl⟩ := hrel
      go_wp2_with fail
      go_ret
      exact ⟨ret_int HZ.out.symm, balloc _ _⟩
  obtain ⟨i, rfl⟩ : ∃ k : Nat, i = (k : Int) := ⟨i.toNat, by omega⟩
  obtain ⟨av, cv, rfl⟩ := hv.form
  obtain ⟨⟨c, d, t, u, m⟩, hx⟩ : ∃ x, l[i]? = some x := ⟨_, List.getElem?_eq_getElem (by omega)⟩
  have HW : Hid (waitV la res l i = wSum la res l i m.length) := waitV_at hx
  have HU : Hid (∀ k, 0 ≤ wSum la res l i k ∧ wSum la res l i k ≤ 200210 * k) := wSum_bd la0 la1 (by omega) (fun x hx s hs => ((tv_secs (ha x hx)).2 s hs).2) i
  have HUS : Hid (∀ k : Nat, 0 ≤ secV la res l i k ∧ secV la res l i k ≤ 200210) := fun k => sec_bd la0 la1 (by omega) (fun x hx s hs => ((tv_secs (ha x hx)).2 s hs).2) i k
  have hm2 := (tv_secs (ha _ (List.mem_of_getElem? hx))).1
  simp only at hm2
  have HX : Hid (l[i]? = some ⟨c, d, t, u, m⟩) := hx
  have HV : Hid (Ints w (.slice av res.length cv) res) := hv
  have HL : Hid (Tks w (.slice a n cap) l) := hl
  have HN : Hid (l.length = n) := hn
  have HA : Hid (∀ x ∈ l, tskB res.length x.tsk = true) := ha
  obtain ⟨b0, o0, eb0, -, -, -, -, -, ys0⟩ := hl.at hx
  obtain ⟨a2, cap2, eu⟩ := ys0.form
  simp only at eu
  subst eu
  subst eb0
  obtain ⟨M, hM⟩ : ∃ M, m.length = M := ⟨_, rfl⟩
  have HMM : Hid (m.length = M) := hM
  rw [hM] at hm2
  have BW : Hid (Below w.heap.size w (w.alloc (.cells #[.int .i64 co, .int .i64 sy, .int .i64 la, .int .i64 mo, .slice av res.length cv] 24))) := balloc _ _
  have cC : Blk (w.alloc (.cells #[.int .i64 co, .int .i64 sy, .int .i64 la, .int .i64 mo, .slice av res.length cv] 24)) w.heap.size #[.int .i64 co, .int .i64 sy, .int .i64 la, .int .i64 mo, .slice av res.length cv] 24 := heap_alloc_new _ _
  clear hv hl hn hx ys0 ha hM
  go_enter Tryz.func17, Tryz.ntmps17
  go_wp2_with fail
  generalize hW : w.alloc _ = W at BW cC
  have KC : Hid (Blk W w.heap.size #[.int .i64 co, .int .i64 sy, .int .i64 la, .int .i64 mo, .slice av res.length cv] 24) := cC
  have sW : w.heap.size < W.heap.size := cC.lt
  clear hW cC
  go_loopw [7, 8] (fun x i2 wr => ∃ k : Nat, k ≤ M ∧ i2 = .int .i64 k ∧ x = .int .i64 (wSum la res l i k) ∧ Below W.heap.size W wr) (fun _ i2 _ => M - (intOf i2).toNat)
  case atStart => exact ⟨0, Nat.zero_le _, rfl, by simp [wSum], Below.refl _ _⟩
  case round =>
    obtain ⟨k, hk, rfl, rfl, hB⟩ := hrel
    have B : Hid (Below W.heap.size W wr) := hB
    have L := KC.out.below hB
    have BB : Hid (Below w.heap.size w wr) := BW.out.trans (hB.mono (by omega))
    clear hB
    have c0 := L.cell 0
    have c1 := L.cell 1
    have c2 := L.cell 2
    have c3 := L.cell 3
    have c4 := L.cell 4
    simp at c0 c1 c2 c3 c4
    obtain ⟨p1, p2⟩ := HU.out k
    obtain ⟨p3, p4⟩ := HUS.out k
    obtain ⟨b, o, e, hbl, y1, y2, y3, y4, ys⟩ := (HL.out.below BB.out).at HX.out
    simp only [Option.some.injEq, Addr.mk.injEq, and_true] at e
    obtain ⟨rfl, rfl⟩ := e
    simp only at y4
    rw [HMM.out] at y4
    clear y1 y2 y3 ys L
    have i0 : (0 : Int) ≤ (i : Int) := by omega
    have i1 : (i : Int) < (n : Int) := by omega
    by_cases hlt : k < M
    · have HSS : Hid (wSum la res l i (k + 1) = wSum la res l i k + secV la res l i k) := rfl
      obtain ⟨Q, hQ⟩ : ∃ Q, secV la res l i k = Q := ⟨_, rfl⟩
      have HQ : Hid (secV la res l i k = Q) := hQ
      obtain ⟨Z, hZ⟩ : ∃ Z, wSum la res l i k = Z := ⟨_, rfl⟩
      have HZ : Hid (wSum la res l i k = Z) := hZ
      rw [hQ] at p3 p4
      rw [hZ] at p1 p2 ⊢
      have W1 : IntKind.i64.wrap (Z + Q) = Z + Q := IntWalk.i64_in _ (by omega)
      clear hQ hZ
      go_wp2_with fail
      refine (rsec_any co sy la mo _ res _ n cap l i k _ (HV.out.below BB.out) hr la0 la1 (HL.out.below BB.out) HN.out n12 HA.out).mono ?_
      rintro e w4 ⟨rfl, g4⟩
      rw [HQ.out]
      have B4 : Hid (Below W.heap.size W w4) := btrans B.out g4
      clear g4 c0 c1 c2 c3 c4
      go_wp2_with fail
      go_round
      case rel => exact ⟨k + 1, by omega, by go_num, by rw [HSS.out, HZ.out, HQ.out], B4.out⟩
      case measure => simp [intOf]; omega
    · have e : k = M := by omega
      have HR : Hid (waitV la res l i = wSum la res l i k) := by unfold Hid; rw [HW.out, HMM.out, e]
      clear e
      go_wp2_with fail
      go_ret
      exact ⟨ret_int HR.out.symm, BB.out⟩
end Go.Proofs.YtakdliecjfeedaaGreatDoor
