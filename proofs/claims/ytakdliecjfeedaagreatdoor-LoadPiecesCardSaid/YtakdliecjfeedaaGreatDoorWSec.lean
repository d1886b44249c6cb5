/- The contracts of wait.section, Section, Task. -/
import Derived.Test.YtakdliecjfeedaaGreatDoorWLong
import Derived.Deep.RegionHeld3
namespace Go.Proofs.YtakdliecjfeedaaGreatDoor
open Go Go.RowKit

/-- A configuration, a section, a task in boxes; the rest as it was. -/
structure SBx (w0 : World) (gc go gt : Nat) (cs os ts : Array Value) (w : World) : Prop where
  bc : Blk w gc cs 24
  bo : Blk w go os 39
  bt : Blk w gt ts 34
  bel : Below w0.heap.size w0 w
theorem SBx.below {w0 w w' : World} {gc go gt : Nat} {cs os ts : Array Value} (h : SBx w0 gc go gt cs os ts w) (k : Below w.heap.size w w') : SBx w0 gc go gt cs os ts w' := ⟨h.bc.below k, h.bo.below k, h.bt.below k, btrans h.bel k⟩
theorem SBx.drew {w0 w : World} {gc go gt : Nat} {cs os ts : Array Value} (h : SBx w0 gc go gt cs os ts w) : SBx w0 gc go gt cs os ts w.drew := h.below (bdrew _)
theorem res_at {n : Nat} {res : List Int} {r : Int} (hn : n = res.length) (h : 0 ≤ r ∧ r < n) : ∃ (j : Nat) (z : Int), r = j ∧ j < n ∧ res[j]? = some z ∧ resAt res r = z := by
  obtain ⟨j, rfl⟩ : ∃ j : Nat, r = j := ⟨r.toNat, by omega⟩
  have hj : j < res.length := by omega
  refine ⟨j, res[j], rfl, by omega, List.getElem?_eq_getElem hj, ?_⟩
  unfold resAt
  simp [List.getElem?_eq_getElem hj]
set_option maxHeartbeats 16000000 in
theorem wsec_any (co sy la mo : Int) (v : Value) (res : List Int) (a : Option Addr) (n cap : Nat) (l : List TV) (i s : Nat) (X : TV) (Y : Sec) (w : World) (hv : Ints w v res) (hr : res.length ≤ 1000000) (hc : cfgB ⟨co, sy, la, mo, res⟩ = true) (hl : Tks w (.slice a n cap) l) (hn : l.length = n) (hm : mayV res.length l = true)
    (hX : l[i]? = some X) (hY : X.m[s]? = some Y) :
    Calls Tryz.prog 38 #[.agg #[.int .i64 co, .int .i64 sy, .int .i64 la, .int .i64 mo, v], .slice a n cap, .int .i64 i, .int .i64 s] w fun e w' => e = .returned (.int .i64 (secV la res l i s)) ∧ Below w.heap.size w w' := by
  obtain ⟨av, cv, rfl⟩ := hv.form
  have HR : Hid (secV la res l i s = 2 * la + Y.len + othL res (resAt res Y.res) i l 0) := secV_at hX hY
  rw [HR.out]
  clear HR
  have l12 := mayV_len hm
  have hb := (cfgB_iff.1 hc).2.2.1
  simp only at hb
  obtain ⟨la0, la1⟩ := hb
  have ha := mayV_all hm
  have hXs := (tv_secs (ha X (List.mem_of_getElem? hX)))
  have hYs := hXs.2 Y (List.mem_of_getElem? hY)
  have hin : i < n := by rw [← hn]; exact (List.getElem?_eq_some_iff.1 hX).1
  have hsm : s < X.m.length := (List.getElem?_eq_some_iff.1 hY).1
  have hsl := hXs.1
  obtain ⟨q, hq⟩ : ∃ q, q = res.length := ⟨_, rfl⟩
  obtain ⟨j, z, hj, hjq, hz, hag⟩ := res_at hq (by rw [hq]; exact hYs.1)
  obtain ⟨ln0, ln1⟩ := hYs.2
  rw [hag]
  have HB : Hid (∀ k, 0 ≤ othL res z i (l.take k) 0 ∧ othL res z i (l.take k) 0 ≤ 200 * 12) := fun k => by
    have := oth_bd (res := res) (ag := z) (i := i) (l := l.take k) (fun x hx s hs => ((tv_secs (ha x (List.mem_of_mem_take hx))).2 s hs).2) 0
    have h2 : (l.take k).length ≤ 12 := by rw [List.length_take]; omega
    omega
  have HA : Hid (∀ x ∈ l, tskB res.length x.tsk = true) := ha
  have HV : Hid (Ints w (.slice av res.length cv) res) := hv
  have HL : Hid (Tks w (.slice a n cap) l) := hl
  have HN : Hid (l.length = n) := hn
  have HZ : Hid (res[j]? = some z) := hz
  have HQ : Hid (q = res.length) := hq
  obtain ⟨b, o, eb, hbl, y1, y2, y3, y4, ys⟩ := hl.at hX
  subst eb
  obtain ⟨a2, cap2, eu⟩ := ys.form
  rw [eu] at y4 ys
  obtain ⟨b2, e2, hb2, z1, z2, z3⟩ := secs_at ys hY
  subst e2
  obtain ⟨r, p, ln⟩ := Y
  simp only at hj z1 z2 z3 ln0 ln1
  subst hj
  obtain ⟨M, hM⟩ : ∃ M, X.m.length = M := ⟨_, rfl⟩
  rw [hM] at hsm hsl y4
  have n12 : n ≤ 12 := by omega
  have k0 : (0 : Int) ≤ (i : Int) := by omega
  have k1 : (i : Int) < (n : Int) := by omega
  have k2 : (0 : Int) ≤ (s : Int) := by omega
  have k3 : (s : Int) < (M : Int) := by omega
  have W1 : IntKind.i64.wrap (2 * la) = 2 * la := IntWalk.i64_in _ (by omega)
  have W2 : IntKind.i64.wrap (2 * la + ln) = 2 * la + ln := IntWalk.i64_in _ (by omega)
  rw [← hq] at HV ⊢
  have q6 : q ≤ 1000000 := by omega
  clear hv hl hn hz hq hX hY hXs hYs ha hm hc eu ys hM hag hr y1 y2 y3
  simp only
  have nb2 : ¬ b2 = w.heap.size := by omega
  go_enter Tryz.func38, Tryz.ntmps38
  have BW : Hid (Below w.heap.size w ((w.alloc (.cells #[.int .i64 co, .int .i64 sy, .int .i64 la, .int .i64 mo, .slice av q cv] 24)).alloc (.cells #[.int .i64 j, .int .i64 p, .int .i64 ln] 39))) := btrans (balloc _ _) (balloc _ _)
  have cO : Blk ((w.alloc (.cells #[.int .i64 co, .int .i64 sy, .int .i64 la, .int .i64 mo, .slice av q cv] 24)).alloc (.cells #[.int .i64 j, .int .i64 p, .int .i64 ln] 39)) (w.heap.size + 1) #[.int .i64 j, .int .i64 p, .int .i64 ln] 39 := blkTwo _ _ _ _
  have cC : Blk ((w.alloc (.cells #[.int .i64 co, .int .i64 sy, .int .i64 la, .int .i64 mo, .slice av q cv] 24)).alloc (.cells #[.int .i64 j, .int .i64 p, .int .i64 ln] 39)) w.heap.size #[.int .i64 co, .int .i64 sy, .int .i64 la, .int .i64 mo, .slice av q cv] 24 := (show Blk (w.alloc (.cells #[.int .i64 co, .int .i64 sy, .int .i64 la, .int .i64 mo, .slice av q cv] 24)) w.heap.size #[.int .i64 co, .int .i64 sy, .int .i64 la, .int .i64 mo, .slice av q cv] 24 from heap_alloc_new _ _).below (balloc _ _)
  go_wp2_with fail
  generalize hW : (w.alloc _).alloc _ = W at BW cO cC
  have KC : Hid (Blk W w.heap.size #[.int .i64 co, .int .i64 sy, .int .i64 la, .int .i64 mo, .slice av q cv] 24) := cC
  have KO : Hid (Blk W (w.heap.size + 1) #[.int .i64 j, .int .i64 p, .int .i64 ln] 39) := cO
  have sW : w.heap.size + 1 < W.heap.size := cO.lt
  clear hW cC cO y4 z1 z2 z3 W1 W2 nb2
  go_loopw [10, 29] (fun x i2 wr => ∃ k : Nat, k ≤ n ∧ i2 = .int .i64 k ∧ x = .int .i64 (2 * la + ln + othL res z i (l.take k) 0) ∧ Below W.heap.size W wr) (fun _ i2 _ => n - (intOf i2).toNat)
  case atStart => exact ⟨0, Nat.zero_le _, rfl, by simp [othL], Below.refl _ _⟩
  case round =>
    obtain ⟨k, hk, rfl, rfl, hB⟩ := hrel
    have B : Hid (Below W.heap.size W wr) := hB
    have LC : Hid (Blk wr w.heap.size #[.int .i64 co, .int .i64 sy, .int .i64 la, .int .i64 mo, .slice av q cv] 24) := KC.out.below hB
    have LO : Hid (Blk wr (w.heap.size + 1) #[.int .i64 j, .int .i64 p, .int .i64 ln] 39) := KO.out.below hB
    have sr : W.heap.size ≤ wr.heap.size := hB.size
    have BB : Hid (Below w.heap.size w wr) := BW.out.trans (hB.mono (by omega))
    clear hB
    obtain ⟨p1, p2⟩ := HB.out k
    by_cases hlt : k < n
    · obtain ⟨⟨c, d, t, u, m⟩, hx⟩ : ∃ x, l[k]? = some x := ⟨_, List.getElem?_eq_getElem (by rw [HN.out]; exact hlt)⟩
      obtain ⟨b4, o4, e4, hb4, x1, x2, x3, x4, xs⟩ := (HL.out.below BB.out).at hx
      simp only [Option.some.injEq, Addr.mk.injEq, and_true] at e4
      obtain ⟨rfl, rfl⟩ := e4
      simp only at x1 x2 x3 x4 xs
      obtain ⟨a5, cap5, rfl⟩ := xs.form
      have HS : Hid (Secs wr (.slice a5 m.length cap5) m) := xs
      have ht := tv_secs (HA.out _ (List.mem_of_getElem? hx))
      have HM : Hid (m.length ≤ 1000000) := by have := ht.1; show _ ≤ _; simp only at this; omega
      have HO : Hid (∀ s ∈ m, 0 ≤ s.res ∧ s.res < res.length) := fun s hs => (ht.2 s hs).1
      have hlon := lon_bd (res := res) (ag := z) (m := m) (fun s hs => (ht.2 s hs).2)
      obtain ⟨l1, l2⟩ := hlon
      have HT := oth_take (res := res) (ag := z) (i := i) hx 0
      obtain ⟨Z, hZ⟩ : ∃ Z, othL res z i (l.take k) 0 = Z := ⟨_, rfl⟩
      obtain ⟨L, hL⟩ : ∃ L, lonL res z m = L := ⟨_, rfl⟩
      have HLon : Hid (lonL res z m = L) := hL
      rw [hZ] at p1 p2 HT ⊢
      simp only [hL] at l1 l2 HT
      have HTT : Hid (othL res z i (l.take (k + 1)) 0 = Z + (if ((0 + k : Nat) : Int) = i then 0 else L)) := HT
      have P0 : Hid (SBx w w.heap.size (w.heap.size + 1) wr.heap.size #[.int .i64 co, .int .i64 sy, .int .i64 la, .int .i64 mo, .slice av q cv] #[.int .i64 j, .int .i64 p, .int .i64 ln] #[.int .i64 c, .int .i64 d, .int .i64 t, .slice a5 m.length cap5] (wr.alloc (.cells #[.int .i64 c, .int .i64 d, .int .i64 t, .slice a5 m.length cap5] 34))) := ⟨LC.out.below (balloc _ _), LO.out.below (balloc _ _), heap_alloc_new _ _, btrans BB.out (balloc _ _)⟩
      clear hx xs ht HT hZ hL
      by_cases e : (k : Int) = i
      · have d0 : ((k : Int) == (i : Int)) = true := by simp [e]
        have HY : Hid (othL res z i (l.take (k + 1)) 0 = Z) := by unfold Hid; rw [HTT.out, if_pos (by omega)]; omega
        clear HTT e
        go_wp2_with fail
        go_round
        case rel => exact ⟨k + 1, by omega, by go_num, by rw [HY.out], btrans B.out (balloc _ _)⟩
        case measure => simp [intOf]; omega
      · have d0 : ((k : Int) == (i : Int)) = false := by simp [e]
        have HY : Hid (othL res z i (l.take (k + 1)) 0 = Z + L) := by unfold Hid; rw [HTT.out, if_neg (by omega)]
        have W3 : IntKind.i64.wrap (2 * la + ln + Z + L) = 2 * la + ln + Z + L := IntWalk.i64_in _ (by omega)
        clear HTT
        go_wp2_with fail
        have HS1 : Hid (Secs (wr.alloc (.cells #[.int .i64 c, .int .i64 d, .int .i64 t, .slice a5 m.length cap5] 34)) (.slice a5 m.length cap5) m) := HS.out.below (balloc _ _)
        have B1 : Hid (Below W.heap.size W (wr.alloc (.cells #[.int .i64 c, .int .i64 d, .int .i64 t, .slice a5 m.length cap5] 34))) := btrans B.out (balloc _ _)
        generalize hW1 : wr.alloc _ = W1 at P0 HS1 B1 ⊢
        clear hW1 x1 x2 x3 x4
        have c0 := P0.out.bc.cell 0
        have c1 := P0.out.bc.cell 1
        have c2 := P0.out.bc.cell 2
        have c3 := P0.out.bc.cell 3
        have c4 := P0.out.bc.cell 4
        have t0 := P0.out.bt.cell 0
        have t1 := P0.out.bt.cell 1
        have t2 := P0.out.bt.cell 2
        have t3 := P0.out.bt.cell 3
        have o0 := P0.out.bo.cell 0
        simp at c0 c1 c2 c3 c4 t0 t1 t2 t3 o0
        obtain ⟨f, ef, hf, xf⟩ := ints_at (HV.out.below P0.out.bel) HZ.out
        subst ef
        have q0 : (0 : Int) ≤ (j : Int) := by omega
        have q1 : (j : Int) < (q : Int) := by omega
        go_region_held3 (fun w' => w'.cell? ⟨w.heap.size, 0, none⟩ = some (.int .i64 co) ∧ w'.cell? ⟨w.heap.size, 1, none⟩ = some (.int .i64 sy) ∧ w'.cell? ⟨w.heap.size, 2, none⟩ = some (.int .i64 la) ∧ w'.cell? ⟨w.heap.size, 3, none⟩ = some (.int .i64 mo) ∧ w'.cell? ⟨w.heap.size, 4, none⟩ = some (.slice (some ⟨f, 0, none⟩) q cv) ∧ w'.cell? ⟨wr.heap.size, 0, none⟩ = some (.int .i64 c) ∧ w'.cell? ⟨wr.heap.size, 1, none⟩ = some (.int .i64 d) ∧ w'.cell? ⟨wr.heap.size, 2, none⟩ = some (.int .i64 t) ∧ w'.cell? ⟨wr.heap.size, 3, none⟩ = some (.slice a5 m.length cap5) ∧ w'.cell? ⟨w.heap.size + 1, 0, none⟩ = some (.int .i64 j) ∧ w'.cell? ⟨f, j, none⟩ = some (.int .i64 z)) (first | exact ⟨c0, c1, c2, c3, c4, t0, t1, t2, t3, o0, xf⟩ | go_keep | exact ⟨r0, r1, r2, r3, r4, s0, s1, s2, s3, u0, uf⟩)
          (first | (go_at_call 40; refine (wlong_any co sy la mo _ res c d t _ m z _ (HV.out.below (by first | exact P0.out.bel | exact P0.out.drew.bel)) (by rw [← HQ.out]; exact q6) (by first | exact HS1.out | exact HS1.out.below (bdrew _)) HM.out HO.out).mono ?_; rintro e w3 ⟨rfl, g3⟩; rw [HLon.out]; have B3 : Hid (Below W.heap.size W w3) := (by first | exact btrans B1.out g3 | exact btrans (btrans B1.out (bdrew _)) g3); have P3 : Hid (SBx w w.heap.size (w.heap.size + 1) wr.heap.size #[.int .i64 co, .int .i64 sy, .int .i64 la, .int .i64 mo, .slice (some ⟨f, 0, none⟩) q cv] #[.int .i64 j, .int .i64 p, .int .i64 ln] #[.int .i64 c, .int .i64 d, .int .i64 t, .slice a5 m.length cap5] w3) := (by first | exact P0.out.below g3 | exact P0.out.drew.below g3); have r0 := P3.out.bc.cell 0; have r1 := P3.out.bc.cell 1; have r2 := P3.out.bc.cell 2; have r3 := P3.out.bc.cell 3; have r4 := P3.out.bc.cell 4; have s0 := P3.out.bt.cell 0; have s1 := P3.out.bt.cell 1; have s2 := P3.out.bt.cell 2; have s3 := P3.out.bt.cell 3; have u0 := P3.out.bo.cell 0; simp at r0 r1 r2 r3 r4 s0 s1 s2 s3 u0; obtain ⟨f2, ef2, -, uf⟩ := ints_at (HV.out.below P3.out.bel) HZ.out; simp only [Option.some.injEq, Addr.mk.injEq, and_true] at ef2; subst ef2; clear g3))
        go_wp2_with fail
        go_round
        case rel => exact ⟨k + 1, by omega, by go_num, by rw [HY.out]; go_num, B3.out⟩
        case measure => simp [intOf]; omega
    · have e : l.take k = l := List.take_of_length_le (by rw [HN.out]; omega)
      rw [e]
      clear e
      go_wp2_with fail
      go_ret
      exact ⟨rfl, BB.out⟩

def secA (la : Int) (res : List Int) (l : List TV) (i s : Int) : Int := if mayV res.length l = true then secV la res l i s else 0
def waitA (la : Int) (res : List Int) (l : List TV) (i : Int) : Int := if mayV res.length l = true then waitV la res l i else 0
theorem has_yes {i n : Int} (h1 : 0 ≤ i) (h2 : i < n) : (decide (0 ≤ i) && decide (i < n)) = true := by simp [h1, h2]
theorem has_no {i n : Int} (h : ¬ (0 ≤ i ∧ i < n)) : (decide (0 ≤ i) && decide (i < n)) = false := by
  rw [← Bool.not_eq_true]; simp only [Bool.and_eq_true, decide_eq_true_eq]; exact h
set_option maxHeartbeats 8000000 in
theorem wSec_any (co sy la mo : Int) (v : Value) (res : List Int) (a : Option Addr) (n cap : Nat) (l : List TV) (i s : Int) (w : World) (hv : Ints w v res) (hr : res.length ≤ 1000000) (hc : cfgB ⟨co, sy, la, mo, res⟩ = true) (hl : Tks w (.slice a n cap) l) (hn : l.length = n) (n6 : n ≤ 1000000) (hm : ∀ x ∈ l, x.m.length ≤ 1000000) :
    Calls Tryz.prog 14 #[.agg #[.int .i64 co, .int .i64 sy, .int .i64 la, .int .i64 mo, v], .slice a n cap, .int .i64 i, .int .i64 s] w fun e w' => e = .returned (.int .i64 (secA la res l i s)) ∧ Below w.heap.size w w' := by
  obtain ⟨av, cv, rfl⟩ := hv.form
  have HV : Hid (Ints w (.slice av res.length cv) res) := hv
  have HL : Hid (Tks w (.slice a n cap) l) := hl
  have HC : Hid (cfgB ⟨co, sy, la, mo, res⟩ = true) := hc
  have HN : Hid (l.length = n) := hn
  have HM : Hid (∀ x ∈ l, x.m.length ≤ 1000000) := hm
  clear hv hl hc hn hm
  have BW : Hid (Below w.heap.size w (w.alloc (.cells #[.int .i64 co, .int .i64 sy, .int .i64 la, .int .i64 mo, .slice av res.length cv] 24))) := balloc _ _
  have cC : Blk (w.alloc (.cells #[.int .i64 co, .int .i64 sy, .int .i64 la, .int .i64 mo, .slice av res.length cv] 24)) w.heap.size #[.int .i64 co, .int .i64 sy, .int .i64 la, .int .i64 mo, .slice av res.length cv] 24 := heap_alloc_new _ _
  go_enter Tryz.func14, Tryz.ntmps14
  go_wp2_with fail
  refine (wmay_any co sy la mo _ res a n cap l _ (HV.out.below BW.out) hr HC.out (HL.out.below BW.out) HN.out n6 HM.out).mono ?_
  rintro e w1 ⟨rfl, g1⟩
  have B1 : Hid (Below w.heap.size w w1) := btrans BW.out g1
  have K := cC.below g1
  have c0 := K.cell 0
  have c1 := K.cell 1
  have c2 := K.cell 2
  have c3 := K.cell 3
  have c4 := K.cell 4
  simp at c0 c1 c2 c3 c4
  clear g1 K cC BW
  cases hb : mayV res.length l
  · have HA : Hid (secA la res l i s = 0) := by unfold Hid secA; rw [hb]; rfl
    clear hb
    go_wp2_with fail
    go_ret
    exact ⟨ret_int HA.out.symm, B1.out⟩
  · have HA : Hid (secA la res l i s = secV la res l i s) := by unfold Hid secA; rw [hb]; rfl
    have HB : Hid (mayV res.length l = true) := hb
    clear hb
    by_cases h1 : 0 ≤ i ∧ i < (n : Int)
    · have HT : Hid ((decide (0 ≤ i) && decide (i < (n : Int))) = true) := has_yes h1.1 h1.2
      obtain ⟨h1, h2⟩ := h1
      obtain ⟨i, rfl⟩ : ∃ k : Nat, i = (k : Int) := ⟨i.toNat, by omega⟩
      obtain ⟨⟨c, d, t, u, m⟩, hx⟩ : ∃ x, l[i]? = some x := ⟨_, List.getElem?_eq_getElem (by rw [HN.out]; omega)⟩
      obtain ⟨b, o, e, hbl, y1, y2, y3, y4, ys⟩ := (HL.out.below B1.out).at hx
      subst e
      simp only at y1 y2 y3 y4 ys
      obtain ⟨a2, cap2, rfl⟩ := ys.form
      have HX : Hid (l[i]? = some ⟨c, d, t, .slice a2 m.length cap2, m⟩) := hx
      obtain ⟨M, hM⟩ : ∃ M, m.length = M := ⟨_, rfl⟩
      have HMM : Hid (m.length = M) := hM
      rw [hM] at y4
      clear hx ys y1 y2 y3
      go_wp2_with fail
      refine (hasT_any _ n cap i _).mono ?_
      rintro e w2 ⟨rfl, hw⟩
      subst w2
      rw [HT.out]
      by_cases h3 : 0 ≤ s ∧ s < (M : Int)
      · have HS : Hid ((decide (0 ≤ s) && decide (s < (M : Int))) = true) := has_yes h3.1 h3.2
        obtain ⟨h3, h4⟩ := h3
        obtain ⟨s, rfl⟩ : ∃ k : Nat, s = (k : Int) := ⟨s.toNat, by omega⟩
        obtain ⟨Y, hy⟩ : ∃ x, m[s]? = some x := ⟨_, List.getElem?_eq_getElem (by rw [HMM.out]; omega)⟩
        have HY : Hid (m[s]? = some Y) := hy
        clear hy hM
        go_wp2_with fail
        refine (hasS_any a2 M cap2 s _).mono ?_
        rintro e w3 ⟨rfl, hw⟩
        subst w3
        rw [HS.out]
        go_wp2_with fail
        refine (wsec_any co sy la mo _ res _ n cap l i s _ Y _ (HV.out.below B1.out) hr HC.out (HL.out.below B1.out) HN.out HB.out HX.out HY.out).mono ?_
        rintro e w4 ⟨rfl, g4⟩
        have B4 : Hid (Below w.heap.size w w4) := btrans B1.out g4
        clear g4
        go_wp2_with fail
        go_ret
        exact ⟨ret_int HA.out.symm, B4.out⟩
      · have HS : Hid ((decide (0 ≤ s) && decide (s < (M : Int))) = false) := has_no h3
        have HZ : Hid (secV la res l i s = 0) := secV_no fun p q x y e1 e2 e3 e4 => by
          have : p = i := by omega
          subst this
          rw [HX.out] at e3
          cases e3
          have := (List.getElem?_eq_some_iff.1 e4).1
          simp only at this
          omega
        clear hM
        go_wp2_with fail
        refine (hasS_any a2 M cap2 s _).mono ?_
        rintro e w3 ⟨rfl, hw⟩
        subst w3
        rw [HS.out]
        go_wp2_with fail
        go_ret
        exact ⟨ret_int (by rw [HA.out, HZ.out]), B1.out⟩
    · have HT : Hid ((decide (0 ≤ i) && decide (i < (n : Int))) = false) := has_no h1
      have HZ : Hid (secV la res l i s = 0) := secV_no fun p q x y e1 e2 e3 e4 => by
        have := (List.getElem?_eq_some_iff.1 e3).1
        have := HN.out
        omega
      clear h1
      go_wp2_with fail
      refine (hasT_any a n cap i _).mono ?_
      rintro e w2 ⟨rfl, hw⟩
      subst w2
      rw [HT.out]
      go_wp2_with fail
      go_ret
      exact ⟨ret_int (by rw [HA.out, HZ.out]), B1.out⟩
set_option maxHeartbeats 8000000 in
theorem wTask_any (co sy la mo : Int) (v : Value) (res : List Int) (a : Option Addr) (n cap : Nat) (l : List TV) (i : Int) (w : World) (hv : Ints w v res) (hr : res.length ≤ 1000000) (hc : cfgB ⟨co, sy, la, mo, res⟩ = true) (hl : Tks w (.slice a n cap) l) (hn : l.length = n) (n6 : n ≤ 1000000) (hm : ∀ x ∈ l, x.m.length ≤ 1000000) :
    Calls Tryz.prog 16 #[.agg #[.int .i64 co, .int .i64 sy, .int .i64 la, .int .i64 mo, v], .slice a n cap, .int .i64 i] w fun e w' => e = .returned (.int .i64 (waitA la res l i)) ∧ Below w.heap.size w w' := by
  obtain ⟨av, cv, rfl⟩ := hv.form
  have HV : Hid (Ints w (.slice av res.length cv) res) := hv
  have HL : Hid (Tks w (.slice a n cap) l) := hl
  have HC : Hid (cfgB ⟨co, sy, la, mo, res⟩ = true) := hc
  have HN : Hid (l.length = n) := hn
  have HM : Hid (∀ x ∈ l, x.m.length ≤ 1000000) := hm
  have hg := (cfgB_iff.1 hc).2.2.1
  simp only at hg
  clear hv hl hc hn hm
  have BW : Hid (Below w.heap.size w (w.alloc (.cells #[.int .i64 co, .int .i64 sy, .int .i64 la, .int .i64 mo, .slice av res.length cv] 24))) := balloc _ _
  have cC : Blk (w.alloc (.cells #[.int .i64 co, .int .i64 sy, .int .i64 la, .int .i64 mo, .slice av res.length cv] 24)) w.heap.size #[.int .i64 co, .int .i64 sy, .int .i64 la, .int .i64 mo, .slice av res.length cv] 24 := heap_alloc_new _ _
  go_enter Tryz.func16, Tryz.ntmps16
  go_wp2_with fail
  refine (wmay_any co sy la mo _ res a n cap l _ (HV.out.below BW.out) hr HC.out (HL.out.below BW.out) HN.out n6 HM.out).mono ?_
  rintro e w1 ⟨rfl, g1⟩
  have B1 : Hid (Below w.heap.size w w1) := btrans BW.out g1
  have K : Hid (Blk w1 w.heap.size #[.int .i64 co, .int .i64 sy, .int .i64 la, .int .i64 mo, .slice av res.length cv] 24) := cC.below g1
  clear g1 cC BW
  cases hb : mayV res.length l
  · have HA : Hid (waitA la res l i = 0) := by unfold Hid waitA; rw [hb]; rfl
    clear hb
    go_wp2_with fail
    go_ret
    exact ⟨ret_int HA.out.symm, B1.out⟩
  · have HA : Hid (waitA la res l i = waitV la res l i) := by unfold Hid waitA; rw [hb]; rfl
    have HB : Hid (mayV res.length l = true) := hb
    by_cases h1 : 0 ≤ i ∧ i < (n : Int)
    · have HT : Hid ((decide (0 ≤ i) && decide (i < (n : Int))) = true) := has_yes h1.1 h1.2
      obtain ⟨h1, h2⟩ := h1
      obtain ⟨i, rfl⟩ : ∃ k : Nat, i = (k : Int) := ⟨i.toNat, by omega⟩
      obtain ⟨⟨c, d, t, u, m⟩, hx⟩ : ∃ x, l[i]? = some x := ⟨_, List.getElem?_eq_getElem (by rw [HN.out]; omega)⟩
      obtain ⟨b, o, e, hbl, y1, y2, y3, y4, ys⟩ := (HL.out.below B1.out).at hx
      subst e
      simp only at y1 y2 y3 y4 ys
      obtain ⟨a2, cap2, rfl⟩ := ys.form
      have HX : Hid (l[i]? = some ⟨c, d, t, .slice a2 m.length cap2, m⟩) := hx
      have HW : Hid (waitV la res l i = wSum la res l i m.length) := waitV_at hx
      have HU : Hid (∀ k, 0 ≤ wSum la res l i k ∧ wSum la res l i k ≤ 200210 * k) := wSum_bd hg.1 hg.2 (by have := mayV_len hb; omega) (fun x hx s hs => ((tv_secs (mayV_all hb x hx)).2 s hs).2) i
      have HUS : Hid (∀ k : Nat, 0 ≤ secV la res l i k ∧ secV la res l i k ≤ 200210) := fun k => sec_bd hg.1 hg.2 (by have := mayV_len hb; omega) (fun x hx s hs => ((tv_secs (mayV_all hb x hx)).2 s hs).2) i k
      have hm2 := (tv_secs (mayV_all hb _ (List.mem_of_getElem? hx))).1
      simp only at hm2
      obtain ⟨M, hM⟩ : ∃ M, m.length = M := ⟨_, rfl⟩
      have HMM : Hid (m.length = M) := hM
      rw [hM] at y4 hm2
      clear hx ys y1 y2 y3 hb hM
      go_wp2_with fail
      refine (hasT_any _ n cap i _).mono ?_
      rintro e w2 ⟨rfl, hw⟩
      subst w2
      rw [HT.out]
      go_wp2_with fail
      go_loopw [7, 25] (fun x i2 wr => ∃ k : Nat, k ≤ M ∧ i2 = .int .i64 k ∧ x = .int .i64 (wSum la res l i k) ∧ Below w1.heap.size w1 wr) (fun _ i2 _ => M - (intOf i2).toNat)
      case atStart => exact ⟨0, Nat.zero_le _, rfl, by simp [wSum], Below.refl _ _⟩
      case round =>
        obtain ⟨k, hk, rfl, rfl, hB⟩ := hrel
        have B : Hid (Below w1.heap.size w1 wr) := hB
        have L := K.out.below hB
        clear hB
        have BB : Hid (Below w.heap.size w wr) := btrans B1.out B.out
        have c0 := L.cell 0
        have c1 := L.cell 1
        have c2 := L.cell 2
        have c3 := L.cell 3
        have c4 := L.cell 4
        simp at c0 c1 c2 c3 c4
        obtain ⟨p1, p2⟩ := HU.out k
        obtain ⟨p3, p4⟩ := HUS.out k
        by_cases hlt : k < M
        · obtain ⟨Y, hy⟩ : ∃ x, m[k]? = some x := ⟨_, List.getElem?_eq_getElem (by rw [HMM.out]; exact hlt)⟩
          have HY : Hid (m[k]? = some Y) := hy
          clear hy L
          have HSS : Hid (wSum la res l i (k + 1) = wSum la res l i k + secV la res l i k) := rfl
          obtain ⟨Q, hQ⟩ : ∃ Q, secV la res l i k = Q := ⟨_, rfl⟩
          have HQ : Hid (secV la res l i k = Q) := hQ
          obtain ⟨Z, hZ⟩ : ∃ Z, wSum la res l i k = Z := ⟨_, rfl⟩
          have HZ : Hid (wSum la res l i k = Z) := hZ
          rw [hQ] at p3 p4
          rw [hZ] at p1 p2 ⊢
          have W1 : IntKind.i64.wrap (Z + Q) = Z + Q := IntWalk.i64_in _ (by omega)
          clear hQ hZ
          go_wp2_with fail
          refine (wsec_any co sy la mo _ res _ n cap l i k _ Y _ (HV.out.below BB.out) hr HC.out (HL.out.below BB.out) HN.out HB.out HX.out HY.out).mono ?_
          rintro e w4 ⟨rfl, g4⟩
          rw [HQ.out]
          have B4 : Hid (Below w1.heap.size w1 w4) := btrans B.out g4
          clear g4 c0 c1 c2 c3 c4
          go_wp2_with fail
          go_round
          case rel => exact ⟨k + 1, by omega, by go_num, by rw [HSS.out, HZ.out, HQ.out], B4.out⟩
          case measure => simp [intOf]; omega
        · have e : k = M := by omega
          have HR : Hid (waitA la res l i = wSum la res l i k) := by unfold Hid; rw [HA.out, HW.out, HMM.out, e]
          clear e L
          go_wp2_with fail
          go_ret
          exact ⟨ret_int HR.out.symm, BB.out⟩
    · have HT : Hid ((decide (0 ≤ i) && decide (i < (n : Int))) = false) := has_no h1
      have HZ : Hid (waitV la res l i = 0) := waitV_no (by have := HN.out; omega)
      clear h1 hb
      go_wp2_with fail
      refine (hasT_any a n cap i _).mono ?_
      rintro e w2 ⟨rfl, hw⟩
      subst w2
      rw [HT.out]
      go_wp2_with fail
      go_ret
      exact ⟨ret_int (by rw [HA.out, HZ.out]), B1.out⟩
end Go.Proofs.YtakdliecjfeedaaGreatDoor
