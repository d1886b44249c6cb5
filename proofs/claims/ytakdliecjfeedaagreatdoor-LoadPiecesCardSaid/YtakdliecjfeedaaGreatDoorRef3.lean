/- The contract of the document's own Longest. -/
import Derived.Test.YtakdliecjfeedaaGreatDoorRef2
namespace Go.Proofs.YtakdliecjfeedaaGreatDoor
open Go Go.RowKit

def lonS (l : List Int) (ag n : Int) (s : Sec) : Int := if l[s.res.toNat]? = some ag then max n s.len else n
def lonL (l : List Int) (ag : Int) (m : List Sec) : Int := m.foldl (lonS l ag) 0
theorem lonL_take {l : List Int} {ag : Int} {m : List Sec} {k : Nat} {s : Sec} (h : m[k]? = some s) : lonL l ag (m.take (k + 1)) = lonS l ag (lonL l ag (m.take k)) s := by
  obtain ⟨hk, rfl⟩ := List.getElem?_eq_some_iff.1 h
  unfold lonL
  rw [List.take_succ_eq_append_getElem hk, List.foldl_append]
  rfl

set_option maxHeartbeats 8000000 in
theorem longest_any (co sy la mo : Int) (v : Value) (l : List Int) (c d t : Int) (u : Value) (m : List Sec) (ag : Int) (w : World) (hv : Ints w v l) (hl : l.length ≤ 1000000) (hu : Secs w u m) (hm : m.length ≤ 1000000)
    (ok : ∀ s ∈ m, 0 ≤ s.res ∧ s.res < l.length) :
    Calls Tryz.prog 19 #[.agg #[.int .i64 co, .int .i64 sy, .int .i64 la, .int .i64 mo, v], .agg #[.int .i64 c, .int .i64 d, .int .i64 t, u], .int .i64 ag] w fun e w' => e = .returned (.int .i64 (lonL l ag m)) ∧ Below w.heap.size w w' := by
  obtain ⟨a, cap, rfl⟩ := hv.form
  obtain ⟨a2, cap2, rfl⟩ := hu.form
  obtain ⟨n, hn⟩ : ∃ n, n = l.length := ⟨_, rfl⟩
  obtain ⟨q, hq⟩ : ∃ q, q = m.length := ⟨_, rfl⟩
  have HV : Hid (Ints w (.slice a l.length cap) l) := hv
  have HU : Hid (Secs w (.slice a2 m.length cap2) m) := hu
  have OK : Hid (∀ s ∈ m, 0 ≤ s.res ∧ s.res < l.length) := ok
  clear hv hu ok
  rw [← hn] at HV ⊢
  rw [← hq] at HU ⊢
  have HN : Hid (n = l.length) := hn
  have HQ : Hid (q = m.length) := hq
  have n6 : n ≤ 1000000 := by omega
  have q6 : q ≤ 1000000 := by omega
  clear hn hq hl hm
  have BW : Hid (Below w.heap.size w ((w.alloc (.cells #[.int .i64 co, .int .i64 sy, .int .i64 la, .int .i64 mo, .slice a n cap] 24)).alloc (.cells #[.int .i64 c, .int .i64 d, .int .i64 t, .slice a2 q cap2] 34))) := btrans (balloc _ _) (balloc _ _)
  go_enter Tryz.func19, Tryz.ntmps19
  go_wp2_with fail
  generalize hW : (w.alloc _).alloc _ = W at BW
  have cT : Blk W (w.heap.size + 1) #[.int .i64 c, .int .i64 d, .int .i64 t, .slice a2 q cap2] 34 := by rw [← hW]; exact blkTwo _ _ _ _
  have cC : Blk W w.heap.size #[.int .i64 co, .int .i64 sy, .int .i64 la, .int .i64 mo, .slice a n cap] 24 := by rw [← hW]; exact (show Blk (w.alloc (.cells #[.int .i64 co, .int .i64 sy, .int .i64 la, .int .i64 mo, .slice a n cap] 24)) w.heap.size #[.int .i64 co, .int .i64 sy, .int .i64 la, .int .i64 mo, .slice a n cap] 24 from heap_alloc_new _ _).below (balloc _ _)
  have KW : Hid (Blk W (w.heap.size + 1) #[.int .i64 c, .int .i64 d, .int .i64 t, .slice a2 q cap2] 34 ∧ Blk W w.heap.size #[.int .i64 co, .int .i64 sy, .int .i64 la, .int .i64 mo, .slice a n cap] 24) := ⟨cT, cC⟩
  have sW : w.heap.size + 1 < W.heap.size := cT.lt
  clear hW cT cC
  go_loopw [7, 8] (fun x i wr => ∃ k : Nat, k ≤ q ∧ i = .int .i64 k ∧ x = .int .i64 (lonL l ag (m.take k)) ∧ Below W.heap.size W wr) (fun _ i _ => q - (intOf i).toNat)
  case atStart => exact ⟨0, Nat.zero_le _, rfl, rfl, Below.refl _ _⟩
  case round =>
    obtain ⟨k, hk, rfl, rfl, hB⟩ := hrel
    have B : Hid (Below W.heap.size W wr) := hB
    have K : Hid (Blk wr (w.heap.size + 1) #[.int .i64 c, .int .i64 d, .int .i64 t, .slice a2 q cap2] 34 ∧ Blk wr w.heap.size #[.int .i64 co, .int .i64 sy, .int .i64 la, .int .i64 mo, .slice a n cap] 24) := ⟨KW.out.1.below hB, KW.out.2.below hB⟩
    have sr : W.heap.size ≤ wr.heap.size := hB.size
    have BB : Hid (Below w.heap.size w wr) := BW.out.trans (hB.mono (by omega))
    clear hB
    have t3 : wr.cell? ⟨w.heap.size + 1, 3, none⟩ = some (.slice a2 q cap2) := K.out.1.cell 3
    have g4 : wr.cell? ⟨w.heap.size, 4, none⟩ = some (.slice a n cap) := K.out.2.cell 4
    by_cases hlt : k < q
    · obtain ⟨⟨r, p, ln⟩, hx⟩ : ∃ x, m[k]? = some x := ⟨_, List.getElem?_eq_getElem (by rw [← HQ.out]; exact hlt)⟩
      obtain ⟨b, rfl, hb, hc⟩ : ∃ b, a2 = some ⟨b, 0, none⟩ ∧ b < w.heap.size ∧ ∀ j s, m[j]? = some s → w.cell? ⟨b, j * 3, none⟩ = some (.int .i64 s.res) ∧ w.cell? ⟨b, j * 3 + 1, none⟩ = some (.int .i64 s.pos) ∧ w.cell? ⟨b, j * 3 + 2, none⟩ = some (.int .i64 s.len) := by
        rcases HU.out with ⟨e, _⟩ | ⟨b, cap', e, hb, hc⟩
        · subst e; simp at hx
        · simp only [Value.slice.injEq] at e
          exact ⟨b, e.1, hb, hc⟩
      obtain ⟨z1, z2, z3⟩ := hc k _ hx
      have x1 : wr.cell? ⟨b, k * 3, none⟩ = some (.int .i64 r) := (BB.out.cell (p := ⟨b, k * 3, none⟩) hb).trans z1
      have x3 : wr.cell? ⟨b, k * 3 + 2, none⟩ = some (.int .i64 ln) := (BB.out.cell (p := ⟨b, k * 3 + 2, none⟩) hb).trans z3
      obtain ⟨r0, r1⟩ := OK.out _ (List.mem_of_getElem? hx)
      simp only at r0 r1
      obtain ⟨j, rfl⟩ : ∃ j : Nat, r = (j : Int) := ⟨r.toNat, by omega⟩
      have hj : j < n := by have := HN.out; omega
      obtain ⟨y, hy⟩ : ∃ y, l[j]? = some y := ⟨_, List.getElem?_eq_getElem (by rw [← HN.out]; exact hj)⟩
      obtain ⟨f, rfl, hf, cf⟩ : ∃ f, a = some ⟨f, 0, none⟩ ∧ f < w.heap.size ∧ w.cell? ⟨f, j, none⟩ = some (.int .i64 y) := by
        rcases HV.out with ⟨e, _⟩ | ⟨f, cap', e, hf, hc⟩
        · subst e; simp at hy
        · simp only [Value.slice.injEq] at e
          exact ⟨f, e.1, hf, hc j y hy⟩
      have xf : wr.cell? ⟨f, j, none⟩ = some (.int .i64 y) := (BB.out.cell (p := ⟨f, j, none⟩) hf).trans cf
      obtain ⟨X, hX⟩ : ∃ X, lonL l ag (m.take k) = X := ⟨_, rfl⟩
      rw [hX]
      have HX : Hid (lonL l ag (m.take (k + 1)) = if y = ag then max X ln else X) := by
        unfold Hid
        rw [lonL_take hx, hX]
        unfold lonS
        simp only [Int.toNat_natCast, hy, Option.some.injEq]
      clear hc hx z1 z2 z3 cf hy hX r0 r1
      by_cases e : y = ag
      · have d0 : (y == ag) = true := by simp [e]
        have HY : Hid (lonL l ag (m.take (k + 1)) = max X ln) := by unfold Hid; rw [HX.out, if_pos e]
        clear e HX
        go_wp2_with fail
        go_quiet (fail)
        go_wp2_with fail
        go_round
        case rel => exact ⟨k + 1, by omega, by go_num, by rw [HY.out], btrans B.out ⟨rfl, rfl, rfl, Nat.le_refl _, fun _ _ => rfl⟩⟩
        case measure => simp [intOf]; omega
      · have d0 : (y == ag) = false := by simp [e]
        have HY : Hid (lonL l ag (m.take (k + 1)) = X) := by unfold Hid; rw [HX.out, if_neg e]
        clear e HX
        go_wp2_with fail
        go_quiet (fail)
        go_wp2_with fail
        go_round
        case rel => exact ⟨k + 1, by omega, by go_num, by rw [HY.out], btrans B.out ⟨rfl, rfl, rfl, Nat.le_refl _, fun _ _ => rfl⟩⟩
        case measure => simp [intOf]; omega
    · have e : m.take k = m := List.take_of_length_le (by have := HQ.out; omega)
      rw [e]
      clear e
      go_wp2_with fail
      go_ret
      exact ⟨rfl, BB.out⟩
end Go.Proofs.YtakdliecjfeedaaGreatDoor
