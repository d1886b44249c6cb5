/- The contracts of the document's own PutConfig, PutTask. -/
import Derived.Test.YtfhhpmnohbmnoaaGreatDoorDig
import Derived.Test.YtfhhpmnohbmnoaaGreatDoorPutT
import Derived.Test.YtfhhpmnohbmnoaaGreatDoorRef2
import Derived.Deep.RegionWith
namespace Go.Proofs.YtfhhpmnohbmnoaaGreatDoor
open Go Go.RowKit

theorem make_six (w : World) : (Instr.makeSlice 22 (.int .i64 6) (.int .i64 6)).run Tryz.prog w = .ok (.slice (some ⟨w.heap.size, 0, none⟩) 6 6) (w.alloc (.cells #[.int .i64 0, .int .i64 0, .int .i64 0, .int .i64 0, .int .i64 0, .int .i64 0] 3)) := by
  have h := run_make_row' (P := Tryz.prog) 22 3 (.int .i64 0) 8 Tryz.underlying22 infoI rfl .i64 .i64 6 (by omega) (by omega) w
  have e : madeCells #[Value.int .i64 0] 6 = #[.int .i64 0, .int .i64 0, .int .i64 0, .int .i64 0, .int .i64 0, .int .i64 0] := by kernel_rfl
  rw [e] at h
  exact h
theorem resTT_first {l : List Int} {x : Int} (h : l[0]? = some x) : resTT (l.take (0 + 1)) = kRes ++ (32 :: dec x) := by
  cases l with
  | nil => simp at h
  | cons y r =>
    simp at h
    subst h
    simp [resTT, resT]
theorem resTT_next {l : List Int} {k : Nat} {x : Int} (h : l[k]? = some x) (hk : ¬ k = 0) : resTT (l.take (k + 1)) = resTT (l.take k) ++ (32 :: dec x) := by
  have e := resT_take h
  have hl := (List.getElem?_eq_some_iff.1 h).1
  have a1 : l.take (k + 1) ≠ [] := by intro e; have := congrArg List.length e; rw [List.length_take, List.length_nil] at this; omega
  have a2 : l.take k ≠ [] := by intro e; have := congrArg List.length e; rw [List.length_take, List.length_nil] at this; omega
  unfold resTT
  rw [if_neg a1, if_neg a2, e]
  simp

set_option maxHeartbeats 8000000 in
set_option maxRecDepth 100000 in
theorem refPutCfg_any (co sy la mo : Int) (v : Value) (l : List Int) (w : World) (hE : Env w) (hv : Ints w v l) (hl : l.length ≤ 1000000) :
    Calls Tryz.prog 24 #[.agg #[.int .i64 co, .int .i64 sy, .int .i64 la, .int .i64 mo, v]] w fun e w' => ∃ t, e = .returned (.string t) ∧ t.data.toList = putCfgL ⟨co, sy, la, mo, l⟩ ∧ Below w.heap.size w w' := by
  obtain ⟨a, cap, rfl⟩ := hv.form
  have HV : Hid (Ints w (.slice a l.length cap) l) := hv
  obtain ⟨n, hn⟩ : ∃ n, n = l.length := ⟨_, rfl⟩
  rw [← hn] at HV ⊢
  have HN : Hid (n = l.length) := hn
  have P0 : Hid (TBox w w.heap.size #[.int .i64 co, .int .i64 sy, .int .i64 la, .int .i64 mo, .slice a n cap] 24 (w.alloc (.cells #[.int .i64 co, .int .i64 sy, .int .i64 la, .int .i64 mo, .slice a n cap] 24))) := ⟨hE.below (balloc _ _), heap_alloc_new _ _, balloc _ _⟩
  have n6 : n ≤ 1000000 := by omega
  clear hv hE hn hl
  go_enter Tryz.func24, Tryz.ntmps24
  go_wp2_with fail
  refine (refConfig_any co sy la mo _ l _ (HV.out.below P0.out.bel) (by have := HN.out; omega)).mono ?_
  rintro e w1 ⟨rfl, g1⟩
  have P1 : Hid (TBox w w.heap.size #[.int .i64 co, .int .i64 sy, .int .i64 la, .int .i64 mo, .slice a n cap] 24 w1) := P0.out.below g1
  have l1 := P1.out.blk.lt
  clear g1 P0
  cases hb : cfgB ⟨co, sy, la, mo, l⟩
  · go_wp2_with fail
    go_ret
    exact ⟨_, rfl, by unfold putCfgL; rw [hb]; rfl, P1.out.bel⟩
  · obtain ⟨n1, n2, n3, n4, n5, n6'⟩ := cfgB_iff.1 hb
    have N6 : Hid (∀ x ∈ l, 0 ≤ x ∧ x < sy) := n6'
    have HP : Hid (putCfgL ⟨co, sy, la, mo, l⟩ = putCfgT ⟨co, sy, la, mo, l⟩) := by unfold Hid putCfgL; rw [hb]; rfl
    simp only at n1 n2 n3 n4 n5
    obtain ⟨n11, n12⟩ := n1
    obtain ⟨n21, n22⟩ := n2
    obtain ⟨n31, n32⟩ := n3
    obtain ⟨n41, n42⟩ := n4
    have n7 : n ≤ 6 := by rw [HN.out]; exact n5
    clear n6' hb n5
    have z1 := dec_len (x := co) (by omega)
    have z2 := dec_len (x := sy) (by omega)
    have z3 := dec_len (x := la) (by omega)
    have z4 := dec_len (x := mo) (by omega)
    have y1 : ¬ 9223372036854775807 < 6 + (dec co).length := by omega
    have y2 : ¬ 9223372036854775807 < 6 + (dec co).length + 7 := by omega
    have y3 : ¬ 9223372036854775807 < 6 + (dec co).length + 7 + (dec sy).length := by omega
    have y4 : ¬ 9223372036854775807 < 6 + (dec co).length + 7 + (dec sy).length + 5 := by omega
    have y5 : ¬ 9223372036854775807 < 6 + (dec co).length + 7 + (dec sy).length + 5 + (dec la).length := by omega
    have y6 : ¬ 9223372036854775807 < 6 + (dec co).length + 7 + (dec sy).length + 5 + (dec la).length + 6 := by omega
    have y7 : ¬ 9223372036854775807 < 6 + (dec co).length + 7 + (dec sy).length + 5 + (dec la).length + 6 + (dec mo).length := by omega
    have c0 : w1.cell? ⟨w.heap.size, 0, none⟩ = some (.int .i64 co) := P1.out.blk.cell 0
    have c1 : w1.cell? ⟨w.heap.size, 1, none⟩ = some (.int .i64 sy) := P1.out.blk.cell 1
    have c2 : w1.cell? ⟨w.heap.size, 2, none⟩ = some (.int .i64 la) := P1.out.blk.cell 2
    have c3 : w1.cell? ⟨w.heap.size, 3, none⟩ = some (.int .i64 mo) := P1.out.blk.cell 3
    go_wp2_with fail
    go_region_held3 (fun w' => w'.cell? ⟨w.heap.size, 0, none⟩ = some (.int .i64 co) ∧ w'.cell? ⟨w.heap.size, 1, none⟩ = some (.int .i64 sy) ∧ w'.cell? ⟨w.heap.size, 2, none⟩ = some (.int .i64 la) ∧ w'.cell? ⟨w.heap.size, 3, none⟩ = some (.int .i64 mo)) (first | exact ⟨c0, c1, c2, c3⟩ | go_keep | exact ⟨r0, r1, r2, r3⟩ | exact ⟨s0, s1, s2, s3⟩ | exact ⟨u0, u1, u2, u3⟩ | exact ⟨x0, x1, x2, x3⟩) (first | (go_at_call_of 43 (Value.int IntKind.i64 co); refine (rdigits_any co (by omega) (by omega) _).mono ?_; rintro e w2 ⟨rfl, g2⟩; have P2 : Hid (TBox w (w.heap.size) #[.int .i64 co, .int .i64 sy, .int .i64 la, .int .i64 mo, .slice a n cap] 24 w2) := (by first | exact P1.out.below g2 | exact P1.out.drew.below g2); have r0 : w2.cell? ⟨w.heap.size, 0, none⟩ = some (.int .i64 co) := P2.out.blk.cell 0; have r1 : w2.cell? ⟨w.heap.size, 1, none⟩ = some (.int .i64 sy) := P2.out.blk.cell 1; have r2 : w2.cell? ⟨w.heap.size, 2, none⟩ = some (.int .i64 la) := P2.out.blk.cell 2; have r3 : w2.cell? ⟨w.heap.size, 3, none⟩ = some (.int .i64 mo) := P2.out.blk.cell 3; clear g2) | (go_at_call_of 43 (Value.int IntKind.i64 sy); refine (rdigits_any sy (by omega) (by omega) _).mono ?_; rintro e w3 ⟨rfl, g3⟩; have P3 : Hid (TBox w (w.heap.size) #[.int .i64 co, .int .i64 sy, .int .i64 la, .int .i64 mo, .slice a n cap] 24 w3) := (by first | exact P2.out.below g3 | exact P2.out.drew.below g3); have s0 : w3.cell? ⟨w.heap.size, 0, none⟩ = some (.int .i64 co) := P3.out.blk.cell 0; have s1 : w3.cell? ⟨w.heap.size, 1, none⟩ = some (.int .i64 sy) := P3.out.blk.cell 1; have s2 : w3.cell? ⟨w.heap.size, 2, none⟩ = some (.int .i64 la) := P3.out.blk.cell 2; have s3 : w3.cell? ⟨w.heap.size, 3, none⟩ = some (.int .i64 mo) := P3.out.blk.cell 3; clear g3) | (go_at_call_of 43 (Value.int IntKind.i64 la); refine (rdigits_any la (by omega) (by omega) _).mono ?_; rintro e w4 ⟨rfl, g4⟩; have P4 : Hid (TBox w (w.heap.size) #[.int .i64 co, .int .i64 sy, .int .i64 la, .int .i64 mo, .slice a n cap] 24 w4) := (by first | exact P3.out.below g4 | exact P3.out.drew.below g4); have u0 : w4.cell? ⟨w.heap.size, 0, none⟩ = some (.int .i64 co) := P4.out.blk.cell 0; have u1 : w4.cell? ⟨w.heap.size, 1, none⟩ = some (.int .i64 sy) := P4.out.blk.cell 1; have u2 : w4.cell? ⟨w.heap.size, 2, none⟩ = some (.int .i64 la) := P4.out.blk.cell 2; have u3 : w4.cell? ⟨w.heap.size, 3, none⟩ = some (.int .i64 mo) := P4.out.blk.cell 3; clear g4) | (go_at_call_of 43 (Value.int IntKind.i64 mo); refine (rdigits_any mo (by omega) (by omega) _).mono ?_; rintro e w5 ⟨rfl, g5⟩; have P5 : Hid (TBox w (w.heap.size) #[.int .i64 co, .int .i64 sy, .int .i64 la, .int .i64 mo, .slice a n cap] 24 w5) := (by first | exact P4.out.below g5 | exact P4.out.drew.below g5); have x0 : w5.cell? ⟨w.heap.size, 0, none⟩ = some (.int .i64 co) := P5.out.blk.cell 0; have x1 : w5.cell? ⟨w.heap.size, 1, none⟩ = some (.int .i64 sy) := P5.out.blk.cell 1; have x2 : w5.cell? ⟨w.heap.size, 2, none⟩ = some (.int .i64 la) := P5.out.blk.cell 2; have x3 : w5.cell? ⟨w.heap.size, 3, none⟩ = some (.int .i64 mo) := P5.out.blk.cell 3; clear g5))
    generalize hT : ((((((((⟨#[99, 111, 114, 101, 115, 32]⟩ : ByteArray) ++ (⟨(dec co).toArray⟩ : ByteArray)) ++ (⟨#[32, 115, 121, 110, 99, 115, 32]⟩ : ByteArray)) ++ (⟨(dec sy).toArray⟩ : ByteArray)) ++ (⟨#[32, 108, 97, 103, 32]⟩ : ByteArray)) ++ (⟨(dec la).toArray⟩ : ByteArray)) ++ (⟨#[32, 109, 111, 118, 101, 32]⟩ : ByteArray)) ++ (⟨(dec mo).toArray⟩ : ByteArray)) = T
    have HT : Hid (T.data.toList = kCores ++ (dec co ++ (kSyncs ++ (dec sy ++ (kLag ++ (dec la ++ (kMove ++ dec mo))))))) := by
      unfold Hid
      rw [← hT]
      simp [kCores, kSyncs, kLag, kMove]
    have hTs : T.size ≤ 100 := by
      rw [← size_len, HT.out]
      simp [kCores, kSyncs, kLag, kMove]
      omega
    have HF : Hid (putCfgL ⟨co, sy, la, mo, l⟩ = T.data.toList ++ resTT l) := by
      unfold Hid
      rw [HP.out, putCfgT, HT.out]
      simp only [List.append_assoc]
    clear hT HT z1 z2 z3 z4 y1 y2 y3 y4 y5 y6 y7 c0 c1 c2 c3 r0 r1 r2 r3 s0 s1 s2 s3 u0 u1 u2 u3 x0 x1 x2 x3 n11 n12 n31 n32 n41 n42 P1 P2 P3 P4 l1
    go_wp2_with fail
    go_loopw [3, 4] (fun q i wr => ∃ (k : Nat) (q' : ByteArray), k ≤ n ∧ i = .int .i64 k ∧ q = .string q' ∧ q'.size ≤ 110 + 10 * k ∧ q'.data.toList = T.data.toList ++ resTT (l.take k) ∧ TBox w w.heap.size #[.int .i64 co, .int .i64 sy, .int .i64 la, .int .i64 mo, .slice a n cap] 24 wr) (fun _ i _ => n - (intOf i).toNat)
    case atStart => exact ⟨0, T, Nat.zero_le _, rfl, rfl, by omega, by simp [resTT], P5.out⟩
    case round =>
      obtain ⟨k, q, hk, rfl, rfl, hq, hh, hP⟩ := hrel
      have HH : Hid (q.data.toList = T.data.toList ++ resTT (l.take k)) := hh
      have P6 : Hid (TBox w w.heap.size #[.int .i64 co, .int .i64 sy, .int .i64 la, .int .i64 mo, .slice a n cap] 24 wr) := hP
      have c4 : wr.cell? ⟨w.heap.size, 4, none⟩ = some (.slice a n cap) := hP.blk.cell 4
      have lr := hP.blk.lt
      clear hh hP
      by_cases hlt : k < n
      · obtain ⟨x, hx⟩ : ∃ x, l[k]? = some x := ⟨_, List.getElem?_eq_getElem (by rw [← HN.out]; exact hlt)⟩
        obtain ⟨b, rfl, cx⟩ : ∃ b, a = some ⟨b, 0, none⟩ ∧ wr.cell? ⟨b, k, none⟩ = some (.int .i64 x) := by
          rcases HV.out with ⟨e, _⟩ | ⟨b, cap', e, hb, hc⟩
          · subst e; simp at hx
          · simp only [Value.slice.injEq] at e
            exact ⟨b, e.1, (P6.out.bel.cell (p := ⟨b, k, none⟩) hb).trans (hc k x hx)⟩
        obtain ⟨x0, x1⟩ := N6.out x (List.mem_of_getElem? hx)
        have HX : Hid (l[k]? = some x) := hx
        have zx := dec_len (x := x) (by omega)
        clear hx
        by_cases hk0 : k = 0
        · subst hk0
          go_wp2_with (go_at_call 43; refine (rdigits_any x (by omega) (by omega) _).mono ?_; rintro e w7 ⟨rfl, g7⟩; have P7 : Hid (TBox w w.heap.size #[.int .i64 co, .int .i64 sy, .int .i64 la, .int .i64 mo, .slice (some ⟨b, 0, none⟩) n cap] 24 w7) := P6.out.below g7; clear g7)
          go_round
          case rel => exact ⟨1, _, by omega, by go_num, rfl, by have e1 : (⟨#[32]⟩ : ByteArray).size = 1 := rfl; have e2 : (⟨#[32, 114, 101, 115]⟩ : ByteArray).size = 4 := rfl; simp only [ByteArray.size_append, e1, e2, size_list]; omega, by rw [resTT_first HX.out, app_list, app_list, HH.out]; simp [resTT, kRes], P7.out⟩
          case measure => simp [intOf]; omega
        · have hk1 : ((k : Int) == 0) = false := by simp; omega
          go_wp2_with (go_at_call 43; refine (rdigits_any x (by omega) (by omega) _).mono ?_; rintro e w7 ⟨rfl, g7⟩; have P7 : Hid (TBox w w.heap.size #[.int .i64 co, .int .i64 sy, .int .i64 la, .int .i64 mo, .slice (some ⟨b, 0, none⟩) n cap] 24 w7) := P6.out.below g7; clear g7)
          go_round
          case rel => exact ⟨k + 1, _, by omega, by go_num, rfl, by have e1 : (⟨#[32]⟩ : ByteArray).size = 1 := rfl; simp only [ByteArray.size_append, e1, size_list]; omega, by rw [resTT_next HX.out hk0, app_list, HH.out]; simp, P7.out⟩
          case measure => simp [intOf]; omega
      · go_wp2_with fail
        go_ret
        have e : l.take k = l := List.take_of_length_le (by have := HN.out; omega)
        exact ⟨_, rfl, by rw [HF.out, HH.out, e], P6.out.bel⟩

set_option maxHeartbeats 8000000 in
set_option maxRecDepth 100000 in
theorem refPutTsk_any (c d t : Int) (v : Value) (m : List Sec) (w : World) (hE : Env w) (hv : Secs w v m) (hm : m.length ≤ 1000000) :
    Calls Tryz.prog 25 #[.agg #[.int .i64 c, .int .i64 d, .int .i64 t, v]] w fun e w' => ∃ q, e = .returned (.string q) ∧ q.data.toList = putTskL ⟨c, d, t, m⟩ ∧ Below w.heap.size w w' := by
  obtain ⟨a, cap, e⟩ := hv.form
  subst e
  have HV : Hid (Secs w (.slice a m.length cap) m) := hv
  have P0 : Hid (TBox w w.heap.size #[.int .i64 c, .int .i64 d, .int .i64 t, .slice a m.length cap] 27 (w.alloc (.cells #[.int .i64 c, .int .i64 d, .int .i64 t, .slice a m.length cap] 27))) :=
    ⟨hE.below (balloc _ _), heap_alloc_new _ _, balloc _ _⟩
  clear hv hE
  go_enter Tryz.func25, Tryz.ntmps25
  go_wp2_with fail
  generalize hW : w.alloc _ = W0 at P0 ⊢
  clear hW
  have c0 : W0.cell? ⟨w.heap.size, 0, none⟩ = some (.int .i64 c) := P0.out.blk.cell 0
  have c1 : W0.cell? ⟨w.heap.size, 1, none⟩ = some (.int .i64 d) := P0.out.blk.cell 1
  have c2 : W0.cell? ⟨w.heap.size, 2, none⟩ = some (.int .i64 t) := P0.out.blk.cell 2
  have c3 : W0.cell? ⟨w.heap.size, 3, none⟩ = some (.slice a m.length cap) := P0.out.blk.cell 3
  have hmk := make_six
  go_region_held3 (fun w' => w'.cell? ⟨w.heap.size, 0, none⟩ = some (.int .i64 c) ∧ w'.cell? ⟨w.heap.size, 1, none⟩ = some (.int .i64 d) ∧ w'.cell? ⟨w.heap.size, 2, none⟩ = some (.int .i64 t) ∧ w'.cell? ⟨w.heap.size, 3, none⟩ = some (.slice a m.length cap)) (first | exact ⟨c0, c1, c2, c3⟩ | go_keep | exact ⟨e0, e1, e2, e3⟩)
    (first | (go_at_call 17; refine (refTask_any 0 0 0 0 _ 6 6 c d t (.slice a m.length cap) m _ (by first | exact HV.out.below (btrans P0.out.drew.bel (balloc _ _)) | exact HV.out.below (btrans P0.out.bel (balloc _ _))) hm).mono ?_; rintro e w2 ⟨rfl, g2⟩; have P2 : Hid (TBox w w.heap.size #[.int .i64 c, .int .i64 d, .int .i64 t, .slice a m.length cap] 27 w2) := (by first | exact (P0.out.drew.below (balloc _ _)).below g2 | exact (P0.out.below (balloc _ _)).below g2); have e0 : w2.cell? ⟨w.heap.size, 0, none⟩ = some (.int .i64 c) := P2.out.blk.cell 0; have e1 : w2.cell? ⟨w.heap.size, 1, none⟩ = some (.int .i64 d) := P2.out.blk.cell 1; have e2 : w2.cell? ⟨w.heap.size, 2, none⟩ = some (.int .i64 t) := P2.out.blk.cell 2; have e3 : w2.cell? ⟨w.heap.size, 3, none⟩ = some (.slice a m.length cap) := P2.out.blk.cell 3; clear g2))
  clear c0 c1 c2 c3 P0 hmk
  cases hb : tskB 6 ⟨c, d, t, m⟩
  · go_wp2_with fail
    go_ret
    exact ⟨_, rfl, by unfold putTskL; rw [hb]; rfl, P2.out.bel⟩
  · obtain ⟨n1, n2, n3, n4, n5, n6⟩ := tskB_facts hb
    have HP : Hid (putTskL ⟨c, d, t, m⟩ = putTskT ⟨c, d, t, m⟩) := by unfold Hid putTskL; rw [hb]; rfl
    have N6 : Hid (∀ s ∈ m, (0 ≤ s.res ∧ s.res < 6) ∧ (1 ≤ s.len ∧ s.len ≤ 200) ∧ 1 ≤ s.pos ∧ s.pos ≤ c - 1) := n6
    simp only at n1 n2 n3 n4 n5
    clear n6 hb
    have z1 := dec_len (x := c) (by omega)
    have z2 := dec_len (x := d) (by omega)
    have z3 := dec_len (x := t) (by omega)
    have y1 : ¬ 9223372036854775807 < (dec c).length + 1 := by omega
    have y2 : ¬ 9223372036854775807 < (dec c).length + 1 + (dec d).length := by omega
    have y3 : ¬ 9223372036854775807 < (dec c).length + 1 + (dec d).length + 1 := by omega
    have y4 : ¬ 9223372036854775807 < (dec c).length + 1 + (dec d).length + 1 + (dec t).length := by omega
    go_wp2_with fail
    go_region_held3 (fun w' => w'.cell? ⟨w.heap.size, 0, none⟩ = some (.int .i64 c) ∧ w'.cell? ⟨w.heap.size, 1, none⟩ = some (.int .i64 d) ∧ w'.cell? ⟨w.heap.size, 2, none⟩ = some (.int .i64 t)) (first | exact ⟨e0, e1, e2⟩ | go_keep | exact ⟨r0, r1, r2⟩ | exact ⟨s0, s1, s2⟩ | exact ⟨u0, u1, u2⟩) (first | (go_at_call_of 43 (Value.int IntKind.i64 c); refine (rdigits_any c (by omega) (by omega) _).mono ?_; rintro e w3 ⟨rfl, g3⟩; have P3 : Hid (TBox w (w.heap.size) #[.int .i64 c, .int .i64 d, .int .i64 t, .slice a m.length cap] 27 w3) := (by first | exact P2.out.below g3 | exact P2.out.drew.below g3); have r0 : w3.cell? ⟨w.heap.size, 0, none⟩ = some (.int .i64 c) := P3.out.blk.cell 0; have r1 : w3.cell? ⟨w.heap.size, 1, none⟩ = some (.int .i64 d) := P3.out.blk.cell 1; have r2 : w3.cell? ⟨w.heap.size, 2, none⟩ = some (.int .i64 t) := P3.out.blk.cell 2; clear g3) | (go_at_call_of 43 (Value.int IntKind.i64 d); refine (rdigits_any d (by omega) (by omega) _).mono ?_; rintro e w4 ⟨rfl, g4⟩; have P4 : Hid (TBox w (w.heap.size) #[.int .i64 c, .int .i64 d, .int .i64 t, .slice a m.length cap] 27 w4) := (by first | exact P3.out.below g4 | exact P3.out.drew.below g4); have s0 : w4.cell? ⟨w.heap.size, 0, none⟩ = some (.int .i64 c) := P4.out.blk.cell 0; have s1 : w4.cell? ⟨w.heap.size, 1, none⟩ = some (.int .i64 d) := P4.out.blk.cell 1; have s2 : w4.cell? ⟨w.heap.size, 2, none⟩ = some (.int .i64 t) := P4.out.blk.cell 2; clear g4) | (go_at_call_of 43 (Value.int IntKind.i64 t); refine (rdigits_any t (by omega) (by omega) _).mono ?_; rintro e w5 ⟨rfl, g5⟩; have P5 : Hid (TBox w (w.heap.size) #[.int .i64 c, .int .i64 d, .int .i64 t, .slice a m.length cap] 27 w5) := (by first | exact P4.out.below g5 | exact P4.out.drew.below g5); have u0 : w5.cell? ⟨w.heap.size, 0, none⟩ = some (.int .i64 c) := P5.out.blk.cell 0; have u1 : w5.cell? ⟨w.heap.size, 1, none⟩ = some (.int .i64 d) := P5.out.blk.cell 1; have u2 : w5.cell? ⟨w.heap.size, 2, none⟩ = some (.int .i64 t) := P5.out.blk.cell 2; clear g5))
    generalize hT : (((((⟨(dec c).toArray⟩ : ByteArray) ++ (⟨#[47]⟩ : ByteArray)) ++ (⟨(dec d).toArray⟩ : ByteArray)) ++ (⟨#[47]⟩ : ByteArray)) ++ (⟨(dec t).toArray⟩ : ByteArray)) = T
    have HT : Hid (T.data.toList = dec c ++ (47 :: (dec d ++ (47 :: dec t)))) := by
      unfold Hid
      rw [← hT]
      simp
    have hTs : T.size ≤ 20 := by
      rw [← size_len, HT.out]
      simp
      omega
    have HF : Hid (putTskL ⟨c, d, t, m⟩ = T.data.toList ++ secsT m) := by
      unfold Hid
      rw [HP.out, putTskT, HT.out]
      simp only [List.append_assoc, List.cons_append]
    clear hT HT z1 z2 z3 y1 y2 y3 y4 e0 e1 e2 e3 r0 r1 r2 s0 s1 s2 u0 u1 u2 P2 P3 P4 HP
    go_wp2_with fail
    go_loopw [3, 4] (fun q i wr => ∃ (k : Nat) (q' : ByteArray), k ≤ m.length ∧ i = .int .i64 k ∧ q = .string q' ∧ q'.size ≤ 20 + 20 * k ∧ q'.data.toList = T.data.toList ++ secsT (m.take k) ∧ TBox w w.heap.size #[.int .i64 c, .int .i64 d, .int .i64 t, .slice a m.length cap] 27 wr) (fun _ i _ => m.length - (intOf i).toNat)
    case atStart => exact ⟨0, T, Nat.zero_le _, rfl, rfl, by omega, by simp [secsT], P5.out⟩
    case round =>
      obtain ⟨k, q, hk, rfl, rfl, hq, hh, hP⟩ := hrel
      have HH : Hid (q.data.toList = T.data.toList ++ secsT (m.take k)) := hh
      have P0 : Hid (TBox w w.heap.size #[.int .i64 c, .int .i64 d, .int .i64 t, .slice a m.length cap] 27 wr) := hP
      have f3 : wr.cell? ⟨w.heap.size, 3, none⟩ = some (.slice a m.length cap) := hP.blk.cell 3
      clear hh hP
      by_cases hlt : k < m.length
      · obtain ⟨⟨sr, sp, sl⟩, hx⟩ : ∃ x, m[k]? = some x := ⟨_, List.getElem?_eq_getElem hlt⟩
        obtain ⟨b, rfl, hb, hc⟩ : ∃ b, a = some ⟨b, 0, none⟩ ∧ b < w.heap.size ∧ (w.cell? ⟨b, k * 3, none⟩ = some (.int .i64 sr) ∧ w.cell? ⟨b, k * 3 + 1, none⟩ = some (.int .i64 sp) ∧ w.cell? ⟨b, k * 3 + 2, none⟩ = some (.int .i64 sl)) := by
          rcases HV.out with ⟨e, _⟩ | ⟨b, cap', e, hb, hc⟩
          · subst e; simp at hx
          · simp only [Value.slice.injEq] at e
            exact ⟨b, e.1, hb, hc k _ hx⟩
        have YY : Hid (w.cell? ⟨b, k * 3, none⟩ = some (.int .i64 sr) ∧ w.cell? ⟨b, k * 3 + 1, none⟩ = some (.int .i64 sp) ∧ w.cell? ⟨b, k * 3 + 2, none⟩ = some (.int .i64 sl)) := hc
        have P6 : Hid (TBox w w.heap.size #[.int .i64 c, .int .i64 d, .int .i64 t, .slice (some ⟨b, 0, none⟩) m.length cap] 27 wr) := P0.out
        have nn := N6.out _ (List.mem_of_getElem? hx)
        simp only at nn
        obtain ⟨⟨v1, v2⟩, ⟨v3, v4⟩, v5, v6⟩ := nn
        have HX : Hid (m[k]? = some ⟨sr, sp, sl⟩) := hx
        clear hx hc f3
        have p3 : wr.cell? ⟨w.heap.size, 3, none⟩ = some (.slice (some ⟨b, 0, none⟩) m.length cap) := P6.out.blk.cell 3
        have p0 : wr.cell? ⟨b, k * 3, none⟩ = some (.int .i64 sr) := (P6.out.bel.cell (p := ⟨b, k * 3, none⟩) hb).trans YY.out.1
        have p1 : wr.cell? ⟨b, k * 3 + 1, none⟩ = some (.int .i64 sp) := (P6.out.bel.cell (p := ⟨b, k * 3 + 1, none⟩) hb).trans YY.out.2.1
        have p2 : wr.cell? ⟨b, k * 3 + 2, none⟩ = some (.int .i64 sl) := (P6.out.bel.cell (p := ⟨b, k * 3 + 2, none⟩) hb).trans YY.out.2.2
        have z1 := dec_len (x := sr) (by omega)
        have z2 := dec_len (x := sp) (by omega)
        have z3 := dec_len (x := sl) (by omega)
        have i1 : (k : Int) < (m.length : Int) := by omega
        have y1 : ¬ 9223372036854775807 < 1 + (dec sr).length := by omega
        have y2 : ¬ 9223372036854775807 < 1 + (dec sr).length + 1 := by omega
        have y3 : ¬ 9223372036854775807 < 1 + (dec sr).length + 1 + (dec sp).length := by omega
        have y4 : ¬ 9223372036854775807 < 1 + (dec sr).length + 1 + (dec sp).length + 1 := by omega
        have y5 : ¬ 9223372036854775807 < 1 + (dec sr).length + 1 + (dec sp).length + 1 + (dec sl).length := by omega
        have y6 : ¬ 9223372036854775807 < q.size + (1 + (dec sr).length + 1 + (dec sp).length + 1 + (dec sl).length) := by omega
        go_wp2_with fail
        go_region_held3 (fun w' => w'.cell? ⟨w.heap.size, 3, none⟩ = some (.slice (some ⟨b, 0, none⟩) m.length cap) ∧ w'.cell? ⟨b, k * 3, none⟩ = some (.int .i64 sr) ∧ w'.cell? ⟨b, k * 3 + 1, none⟩ = some (.int .i64 sp) ∧ w'.cell? ⟨b, k * 3 + 2, none⟩ = some (.int .i64 sl)) (first | exact ⟨p3, p0, p1, p2⟩ | go_keep | exact ⟨r3, r0, r1, r2⟩ | exact ⟨s3, s0, s1, s2⟩ | exact ⟨u3, u0, u1, u2⟩) (first | (go_at_call_of 43 (Value.int IntKind.i64 sr); refine (rdigits_any sr (by omega) (by omega) _).mono ?_; rintro e w7 ⟨rfl, g7⟩; have P7 : Hid (TBox w w.heap.size #[.int .i64 c, .int .i64 d, .int .i64 t, .slice (some ⟨b, 0, none⟩) m.length cap] 27 w7) := (by first | exact P6.out.below g7 | exact P6.out.drew.below g7); have r3 : w7.cell? ⟨w.heap.size, 3, none⟩ = some (.slice (some ⟨b, 0, none⟩) m.length cap) := P7.out.blk.cell 3; have r0 : w7.cell? ⟨b, k * 3, none⟩ = some (.int .i64 sr) := (P7.out.bel.cell (p := ⟨b, k * 3, none⟩) hb).trans YY.out.1; have r1 : w7.cell? ⟨b, k * 3 + 1, none⟩ = some (.int .i64 sp) := (P7.out.bel.cell (p := ⟨b, k * 3 + 1, none⟩) hb).trans YY.out.2.1; have r2 : w7.cell? ⟨b, k * 3 + 2, none⟩ = some (.int .i64 sl) := (P7.out.bel.cell (p := ⟨b, k * 3 + 2, none⟩) hb).trans YY.out.2.2; clear g7) | (go_at_call_of 43 (Value.int IntKind.i64 sp); refine (rdigits_any sp (by omega) (by omega) _).mono ?_; rintro e w8 ⟨rfl, g8⟩; have P8 : Hid (TBox w w.heap.size #[.int .i64 c, .int .i64 d, .int .i64 t, .slice (some ⟨b, 0, none⟩) m.length cap] 27 w8) := (by first | exact P7.out.below g8 | exact P7.out.drew.below g8); have s3 : w8.cell? ⟨w.heap.size, 3, none⟩ = some (.slice (some ⟨b, 0, none⟩) m.length cap) := P8.out.blk.cell 3; have s0 : w8.cell? ⟨b, k * 3, none⟩ = some (.int .i64 sr) := (P8.out.bel.cell (p := ⟨b, k * 3, none⟩) hb).trans YY.out.1; have s1 : w8.cell? ⟨b, k * 3 + 1, none⟩ = some (.int .i64 sp) := (P8.out.bel.cell (p := ⟨b, k * 3 + 1, none⟩) hb).trans YY.out.2.1; have s2 : w8.cell? ⟨b, k * 3 + 2, none⟩ = some (.int .i64 sl) := (P8.out.bel.cell (p := ⟨b, k * 3 + 2, none⟩) hb).trans YY.out.2.2; clear g8) | (go_at_call_of 43 (Value.int IntKind.i64 sl); refine (rdigits_any sl (by omega) (by omega) _).mono ?_; rintro e w9 ⟨rfl, g9⟩; have P9 : Hid (TBox w w.heap.size #[.int .i64 c, .int .i64 d, .int .i64 t, .slice (some ⟨b, 0, none⟩) m.length cap] 27 w9) := (by first | exact P8.out.below g9 | exact P8.out.drew.below g9); have u3 : w9.cell? ⟨w.heap.size, 3, none⟩ = some (.slice (some ⟨b, 0, none⟩) m.length cap) := P9.out.blk.cell 3; have u0 : w9.cell? ⟨b, k * 3, none⟩ = some (.int .i64 sr) := (P9.out.bel.cell (p := ⟨b, k * 3, none⟩) hb).trans YY.out.1; have u1 : w9.cell? ⟨b, k * 3 + 1, none⟩ = some (.int .i64 sp) := (P9.out.bel.cell (p := ⟨b, k * 3 + 1, none⟩) hb).trans YY.out.2.1; have u2 : w9.cell? ⟨b, k * 3 + 2, none⟩ = some (.int .i64 sl) := (P9.out.bel.cell (p := ⟨b, k * 3 + 2, none⟩) hb).trans YY.out.2.2; clear g9))
        go_wp2_with fail
        go_round
        case rel =>
          refine ⟨k + 1, _, by omega, by go_num, rfl, ?_, ?_, P9.out⟩
          · have e1 : (⟨#[32]⟩ : ByteArray).size = 1 := rfl
            have e2 : (⟨#[64]⟩ : ByteArray).size = 1 := rfl
            have e3 : (⟨#[43]⟩ : ByteArray).size = 1 := rfl
            simp only [ByteArray.size_append, e1, e2, e3, size_list]
            omega
          · rw [secsT_take HX.out, app_list, HH.out]
            simp [secT]
        case measure => simp [intOf]; omega
      · go_wp2_with fail
        go_ret
        have e : m.take k = m := List.take_of_length_le (by omega)
        exact ⟨_, rfl, by rw [HF.out, HH.out, e], P0.out.bel⟩
end Go.Proofs.YtfhhpmnohbmnoaaGreatDoor
