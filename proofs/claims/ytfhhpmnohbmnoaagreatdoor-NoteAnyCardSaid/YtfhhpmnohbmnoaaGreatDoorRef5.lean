/- The contracts of the document's own Load, Piece, Agents. -/
import Derived.Test.YtfhhpmnohbmnoaaGreatDoorAg2
namespace Go.Proofs.YtfhhpmnohbmnoaaGreatDoor
open Go Go.RowKit

set_option maxHeartbeats 1000000 in
theorem refLoad_any (c d t : Int) (w : World) :
    Calls Tryz.prog 15 #[.agg #[.int .i64 c, .int .i64 d, .int .i64 t]] w fun e w' => e = .returned (.bool (loadB c d t)) ∧ Below w.heap.size w w' := by
  have HR : Hid (loadB c d t = (inB c 1 20000 && (decide (1 ≤ d) && (decide (d ≤ t) && decide (t ≤ 200))))) := by
    unfold Hid loadB
    rw [Bool.and_assoc]
    congr 1
    rw [Bool.eq_iff_iff]
    simp only [Bool.and_eq_true, inB_iff, decide_eq_true_eq]
    omega
  rw [HR.out]
  clear HR
  cases h1 : inB c 1 20000
  · go_enter Tryz.func15, Tryz.ntmps15
    go_wp2_with (go_at_call 34; refine (rin_any _ _ _ _).mono ?_; rintro e w' ⟨rfl, rfl⟩)
    go_ret
    exact ⟨rfl, balloc _ _⟩
  by_cases h2 : 1 ≤ d
  rotate_left
  · simp only [decide_eq_false h2, Bool.false_and, Bool.and_false]
    go_enter Tryz.func15, Tryz.ntmps15
    go_wp2_with (go_at_call 34; refine (rin_any _ _ _ _).mono ?_; rintro e w' ⟨rfl, rfl⟩)
    go_ret
    exact ⟨rfl, balloc _ _⟩
  by_cases h3 : d ≤ t
  rotate_left
  · simp only [decide_eq_false h3, Bool.false_and, Bool.and_false]
    go_enter Tryz.func15, Tryz.ntmps15
    go_wp2_with (go_at_call 34; refine (rin_any _ _ _ _).mono ?_; rintro e w' ⟨rfl, rfl⟩)
    go_ret
    exact ⟨rfl, balloc _ _⟩
  · go_enter Tryz.func15, Tryz.ntmps15
    go_wp2_with (go_at_call 34; refine (rin_any _ _ _ _).mono ?_; rintro e w' ⟨rfl, rfl⟩)
    go_ret
    exact ⟨ret_bool (by simp [h2, h3]), balloc _ _⟩

set_option maxHeartbeats 2000000 in
theorem refPiece_any (co sy la mo : Int) (a : Option Addr) (n cap : Nat) (core off len c : Int) (w : World) :
    Calls Tryz.prog 19 #[.agg #[.int .i64 co, .int .i64 sy, .int .i64 la, .int .i64 mo, .slice a n cap], .agg #[.int .i64 core, .int .i64 off, .int .i64 len, .int .i64 c]] w fun e w' => e = .returned (.bool (pieceB co core off len c)) ∧ Below w.heap.size w w' := by
  have HR : Hid (pieceB co core off len c = (decide (0 ≤ core) && (decide (core < co) && (inB off 0 200 && (decide (1 ≤ c) && inB len c (200 - off)))))) := by
    unfold Hid pieceB
    rw [Bool.eq_iff_iff]
    simp only [Bool.and_eq_true, inB_iff, oneOfB_iff, decide_eq_true_eq]
    omega
  rw [HR.out]
  clear HR
  by_cases h1 : 0 ≤ core
  rotate_left
  · simp only [decide_eq_false h1, Bool.false_and]
    go_enter Tryz.func19, Tryz.ntmps19
    go_wp2_with (go_at_call 34; refine (rin_any _ _ _ _).mono ?_; rintro e w' ⟨rfl, rfl⟩)
    go_ret
    exact ⟨rfl, btrans (balloc _ _) (balloc _ _)⟩
  by_cases h2 : core < co
  rotate_left
  · simp only [decide_eq_false h2, Bool.false_and, Bool.and_false]
    go_enter Tryz.func19, Tryz.ntmps19
    go_wp2_with (go_at_call 34; refine (rin_any _ _ _ _).mono ?_; rintro e w' ⟨rfl, rfl⟩)
    go_ret
    exact ⟨rfl, btrans (balloc _ _) (balloc _ _)⟩
  cases h3 : inB off 0 200
  · go_enter Tryz.func19, Tryz.ntmps19
    go_wp2_with (go_at_call 34; refine (rin_any _ _ _ _).mono ?_; rintro e w' ⟨rfl, rfl⟩)
    go_ret
    exact ⟨ret_bool (by simp), btrans (balloc _ _) (balloc _ _)⟩
  obtain ⟨b1, b2⟩ := inB_iff.1 h3
  by_cases h4 : 1 ≤ c
  rotate_left
  · simp only [decide_eq_false h4, Bool.false_and, Bool.and_false]
    go_enter Tryz.func19, Tryz.ntmps19
    go_wp2_with (go_at_call 34; refine (rin_any _ _ _ _).mono ?_; rintro e w' ⟨rfl, rfl⟩)
    go_ret
    exact ⟨rfl, btrans (balloc _ _) (balloc _ _)⟩
  · go_enter Tryz.func19, Tryz.ntmps19
    go_wp2_with (go_at_call 34; refine (rin_any _ _ _ _).mono ?_; rintro e w' ⟨rfl, rfl⟩)
    go_ret
    exact ⟨ret_bool (by simp [h1, h2, h4]), btrans (balloc _ _) (balloc _ _)⟩

def posB (l : List Int) (m : List Sec) (a : Int) : Bool := decide (0 < lonL l a m)
theorem refAg_len (p : Int → Bool) (k : Nat) : (refAg p k).length ≤ k := by
  unfold refAg
  have h := List.length_filter_le p ((List.range k).map (fun i : Nat => (i : Int)))
  rw [List.length_map, List.length_range] at h
  exact h

set_option maxHeartbeats 8000000 in
set_option maxRecDepth 100000 in
theorem refAgents_any (co : Int) (S : Nat) (la mo : Int) (v : Value) (l : List Int) (c d t : Int) (u : Value) (m : List Sec) (w : World) (hS : S ≤ 1000) (hv : Ints w v l) (hl : l.length ≤ 1000000) (hu : Secs w u m) (hm : m.length ≤ 1000000)
    (ok : ∀ s ∈ m, 0 ≤ s.res ∧ s.res < l.length) :
    Calls Tryz.prog 21 #[.agg #[.int .i64 co, .int .i64 (S : Int), .int .i64 la, .int .i64 mo, v], .agg #[.int .i64 c, .int .i64 d, .int .i64 t, u]] w fun e w' => ∃ q, e = .returned q ∧ Ints w' q (refAg (posB l m) S) ∧ Below w.heap.size w w' := by
  obtain ⟨i0, hi0, hz0, hz1, hz2⟩ := info_parts infoI
  obtain ⟨a1, cap1, rfl⟩ := hv.form
  obtain ⟨a2, cap2, rfl⟩ := hu.form
  obtain ⟨n, hn⟩ : ∃ n, n = l.length := ⟨_, rfl⟩
  obtain ⟨q, hq⟩ : ∃ q, q = m.length := ⟨_, rfl⟩
  have HV : Hid (Ints w (.slice a1 l.length cap1) l) := hv
  have HU : Hid (Secs w (.slice a2 m.length cap2) m) := hu
  have OK : Hid (∀ s ∈ m, 0 ≤ s.res ∧ s.res < l.length) := ok
  clear hv hu ok
  rw [← hn] at HV ⊢
  rw [← hq] at HU ⊢
  have HN : Hid (l.length ≤ 1000000 ∧ m.length ≤ 1000000) := ⟨hl, hm⟩
  clear hn hq hl hm
  have BW : Hid (Below w.heap.size w ((w.alloc (.cells #[.int .i64 co, .int .i64 (S : Int), .int .i64 la, .int .i64 mo, .slice a1 n cap1] 24)).alloc (.cells #[.int .i64 c, .int .i64 d, .int .i64 t, .slice a2 q cap2] 27))) := btrans (balloc _ _) (balloc _ _)
  go_enter Tryz.func21, Tryz.ntmps21
  go_wp2_with fail
  generalize hW : (w.alloc _).alloc _ = W at BW
  have cT : Blk W (w.heap.size + 1) #[.int .i64 c, .int .i64 d, .int .i64 t, .slice a2 q cap2] 27 := by rw [← hW]; exact blkTwo _ _ _ _
  have cC : Blk W w.heap.size #[.int .i64 co, .int .i64 (S : Int), .int .i64 la, .int .i64 mo, .slice a1 n cap1] 24 := by rw [← hW]; exact (show Blk (w.alloc (.cells #[.int .i64 co, .int .i64 (S : Int), .int .i64 la, .int .i64 mo, .slice a1 n cap1] 24)) w.heap.size #[.int .i64 co, .int .i64 (S : Int), .int .i64 la, .int .i64 mo, .slice a1 n cap1] 24 from heap_alloc_new _ _).below (balloc _ _)
  have KW : Hid (Blk W (w.heap.size + 1) #[.int .i64 c, .int .i64 d, .int .i64 t, .slice a2 q cap2] 27 ∧ Blk W w.heap.size #[.int .i64 co, .int .i64 (S : Int), .int .i64 la, .int .i64 mo, .slice a1 n cap1] 24) := ⟨cT, cC⟩
  have sW : w.heap.size + 1 < W.heap.size := cT.lt
  clear hW cT cC
  go_loopw [5, 6] (fun x i wr => ∃ k : Nat, k ≤ S ∧ i = .int .i64 k ∧ wr.ownsRow W.heap.size 3 1 x (refAg (posB l m) k).length ((refAg (posB l m) k).map mkI) ∧ Below W.heap.size W wr) (fun _ i _ => S - (intOf i).toNat)
  case atStart => exact ⟨0, Nat.zero_le _, rfl, World.ownsRow_nil _ _ _ _, Below.refl _ _⟩
  case round =>
    obtain ⟨k, hk, rfl, own, hB⟩ := hrel
    have B : Hid (Below W.heap.size W wr) := hB
    have BB : Hid (Below w.heap.size w wr) := BW.out.trans (hB.mono (by omega))
    have sr : W.heap.size ≤ wr.heap.size := hB.size
    obtain ⟨aq, cq, e⟩ := own_form own
    subst e
    have la0 := refAg_len (posB l m) k
    obtain ⟨A, hA⟩ : ∃ A, refAg (posB l m) k = A := ⟨_, rfl⟩
    rw [hA] at own la0 ⊢
    obtain ⟨a, ha⟩ : ∃ a, A.length = a := ⟨_, rfl⟩
    rw [ha] at own la0 ⊢
    have HA : Hid (refAg (posB l m) k = A ∧ A.length = a) := ⟨hA, ha⟩
    have OW : Hid (wr.ownsRow W.heap.size 3 1 (.slice aq a cq) a (A.map mkI)) := own
    have c1' : wr.cell? ⟨w.heap.size, 1, none⟩ = some (.int .i64 (S : Int)) := (KW.out.2.below hB).cell 1
    clear own hB hA ha
    by_cases hlt : k < S
    · have c0' : wr.cell? ⟨w.heap.size, 0, none⟩ = some (.int .i64 co) := (KW.out.2.below B.out).cell 0
      have c2' : wr.cell? ⟨w.heap.size, 2, none⟩ = some (.int .i64 la) := (KW.out.2.below B.out).cell 2
      have c3' : wr.cell? ⟨w.heap.size, 3, none⟩ = some (.int .i64 mo) := (KW.out.2.below B.out).cell 3
      have c4' : wr.cell? ⟨w.heap.size, 4, none⟩ = some (.slice a1 n cap1) := (KW.out.2.below B.out).cell 4
      have t0' : wr.cell? ⟨w.heap.size + 1, 0, none⟩ = some (.int .i64 c) := (KW.out.1.below B.out).cell 0
      have t1' : wr.cell? ⟨w.heap.size + 1, 1, none⟩ = some (.int .i64 d) := (KW.out.1.below B.out).cell 1
      have t2' : wr.cell? ⟨w.heap.size + 1, 2, none⟩ = some (.int .i64 t) := (KW.out.1.below B.out).cell 2
      have t3' : wr.cell? ⟨w.heap.size + 1, 3, none⟩ = some (.slice a2 q cap2) := (KW.out.1.below B.out).cell 3
      go_wp2_with fail
      refine (longest_any co S la mo (.slice a1 n cap1) l c d t (.slice a2 q cap2) m k wr (HV.out.below BB.out) HN.out.1 (HU.out.below BB.out) HN.out.2 OK.out).mono ?_
      rintro e w2 ⟨rfl, g2⟩
      obtain ⟨L, hL⟩ : ∃ L, lonL l (k : Int) m = L := ⟨_, rfl⟩
      rw [hL]
      have HL : Hid (refAg (posB l m) (k + 1) = A ++ (if 0 < L then [(k : Int)] else [])) := by
        unfold Hid
        rw [refAg_succ, HA.out.1]
        unfold posB
        rw [hL]
        simp only [decide_eq_true_eq]
      have own2 := own_below OW.out g2
      have z2 : W.heap.size ≤ w2.heap.size := by have := g2.size; omega
      have B2 : Hid (Below W.heap.size W w2) := btrans B.out g2
      clear hL g2 c0' c1' c2' c3' c4' t0' t1' t2' t3'
      by_cases hp : 0 < L
      · have HP : Hid (refAg (posB l m) (k + 1) = A ++ [(k : Int)]) := by unfold Hid; rw [HL.out, if_pos hp]
        go_wp2_with (at_builtin; refine wpList_append_own_at _ rfl (.tmp 18) (.tmp 20) 22 rfl W.heap.size 3 i0 (.int .i64 0) 1 8 Tryz.underlying22 hi0 hz0 hz1 hz2 rfl (by decide) _ _ _ rfl (own2.alloc _) ⟨w2.heap.size, 0, none⟩ 1 1 [.int .i64 k] rfl rfl (cell_one _ _ _) (by intro u hu; simp at hu; subst hu; rfl) (by unfold maxLen; omega) (by omega) (by simp; omega) ?_; intro v7 w7 own7 grow7 nil7 at7; have L7 : Hid (Below W.heap.size w2 w7 ∧ w7.ownsRow W.heap.size 3 1 v7 (a + 1) (A.map mkI ++ [.int .i64 k])) := ⟨own_grow own2 z2 grow7, own7⟩; clear own7 grow7 nil7 at7)
        go_round
        case rel =>
          refine ⟨k + 1, by omega, by go_num, ?_, B2.out.trans L7.out.1⟩
          rw [HP.out]
          have := L7.out.2
          simpa [mkI, HA.out.2] using this
        case measure => simp [intOf]; omega
      · have HP : Hid (refAg (posB l m) (k + 1) = A) := by unfold Hid; rw [HL.out, if_neg hp, List.append_nil]
        have OW2 : Hid (w2.ownsRow W.heap.size 3 1 (.slice aq a cq) a (A.map mkI)) := own2
        clear own2
        go_wp2_with fail
        go_round
        case rel => exact ⟨k + 1, by omega, by go_num, by rw [HP.out, HA.out.2]; exact OW2.out, B2.out⟩
        case measure => simp [intOf]; omega
    · have ks : k = S := by omega
      go_wp2_with fail
      go_ret
      refine ⟨_, rfl, ?_, BB.out⟩
      rw [← ks, HA.out.1]
      have := OW.out
      rw [← HA.out.2] at this ⊢
      exact own_ints this
end Go.Proofs.YtfhhpmnohbmnoaaGreatDoor
