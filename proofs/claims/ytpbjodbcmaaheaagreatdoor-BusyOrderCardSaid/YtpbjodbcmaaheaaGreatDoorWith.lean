/- The contract of the document's own 'with'. -/
import Derived.Test.YtpbjodbcmaaheaaGreatDoorOwn9
namespace Go.Proofs.YtpbjodbcmaaheaaGreatDoor
open Go Go.RowKit

/-- From the two appends to the whole. -/
theorem with_end {w W w1 wx w2 : World} {v1 v2 : Value} {n : Nat} {l : List Sec} {c d t : Int} {B : Nat} (hl : l.length = n) (bW : Below w.heap.size w W) (hB : w.heap.size ≤ B)
    (gr1 : W.grownBy w1 none) (bx : Below w1.heap.size w1 wx) (own1 : w1.ownsRow B 31 3 v1 n (secC l)) (gr2 : wx.grownBy w2 v1.ownBlock) (own2 : w2.ownsRow B 31 3 v2 (n + 1) (secC l ++ secC [⟨c, d, t⟩])) :
    OwnL w2 w.heap.size v2 (l ++ [⟨c, d, t⟩]) ∧ Below w.heap.size w w2 := by
  have s1 := bW.size
  have s2 := gr1.size
  have s3 := bx.size
  refine ⟨OwnL.mono (base := B) ?_ hB, ?_⟩
  · unfold OwnL
    rw [secC_append, List.length_append, hl]
    exact own2
  · have a := gr_bel (B := w.heap.size) gr1 (by simp) s1
    have b := gr_bel (B := w.heap.size) gr2 (fun k hk => by have := (own1.lt k hk).1; omega) (by omega)
    exact ((bW.trans a).trans (bx.mono (by omega))).trans b
set_option maxHeartbeats 8000000 in
set_option maxRecDepth 100000 in
theorem with_any (v : Value) (l : List Sec) (c d t : Int) (w : World) (hv : Secs w v l) (hl : l.length ≤ 1000) :
    Calls Tryz.prog 50 #[v, .agg #[.int .i64 c, .int .i64 d, .int .i64 t]] w fun e w' => ∃ u, e = .returned u ∧ OwnL w' w.heap.size u (l ++ [⟨c, d, t⟩]) ∧ Below w.heap.size w w' := by
  obtain ⟨i0, hi0, hz0, hz1, hz2⟩ := info_parts infoL
  obtain ⟨a, cap, rfl⟩ := hv.form
  obtain ⟨n, hn⟩ : ∃ n, n = l.length := ⟨_, rfl⟩
  rw [← hn] at hv ⊢
  have HN : Hid (l.length = n) := hn.symm
  have n6 : n ≤ 1000 := by omega
  have HL : Hid ((secC l).length = n * 3) := by unfold Hid; rw [secC_length, HN.out]
  clear hn hl
  cases a with
  | none =>
    obtain ⟨rfl, rfl⟩ := secs_none hv
    have BW : Hid (Below w.heap.size w (w.alloc (.cells #[.int .i64 c, .int .i64 d, .int .i64 t] 31)).drew) := btrans (balloc _ _) (bdrew _)
    clear hv HL HN n6
    go_enter Tryz.func50, Tryz.ntmps50
    go_wp2_with fail
    go_region_law (first
      | (refine step_append_at _ (by rfl) (.tmp 6) (.tmp 8) 22 (by rfl) (w.heap.size + 1) 31 i0 _ 3 24 Tryz.underlying22 hi0 hz0 hz1 hz2 rfl (by omega) (.slice none 0 0) 0 [] (by rfl) (World.ownsRow_nil _ _ _ _) ⟨w.heap.size + 1, 0, none⟩ 1 1 (secC [⟨c, d, t⟩]) (by rfl) rfl (by have := news_one (w.alloc (.cells #[.int .i64 c, .int .i64 d, .int .i64 t] 31)) c d t 31; simpa using this) (secC_one _) (by unfold maxLen; omega) (by omega) (by simp) ?_; intro v2 w2 own2 gr2 at2; rw [Nat.zero_add, List.nil_append] at own2; obtain ⟨a2, cp2, rfl⟩ := own_form own2; have GR2 : Hid (World.grownBy _ w2 none) := gr2; have OW2 : Hid (w2.ownsRow (w.heap.size + 1) 31 3 (.slice a2 1 cp2) 1 (secC [⟨c, d, t⟩])) := own2; clear at2 own2 gr2) | fail)
    all_goals
      go_wp2_with fail
      go_ret
      refine ⟨_, rfl, OwnL.mono (base := w.heap.size + 1) OW2.out (by omega), ?_⟩
      exact (btrans (btrans (balloc _ _) (balloc _ _)) (bdrew _)).trans (gr_bel GR2.out (by simp) (by simp; omega))
  | some ad =>
    have N0 : Hid (News w ad l) := secs_news hv
    have BW : Hid (Below w.heap.size w (w.alloc (.cells #[.int .i64 c, .int .i64 d, .int .i64 t] 31)).drew) := btrans (balloc _ _) (bdrew _)
    clear hv
    go_enter Tryz.func50, Tryz.ntmps50
    go_wp2_with fail
    go_region_law (first
      | (refine step_append_at _ (by rfl) (.const (.slice none 0 0)) (.tmp 5) 22 (by rfl) (w.heap.size + 1) 31 i0 _ 3 24 Tryz.underlying22 hi0 hz0 hz1 hz2 rfl (by omega) (.slice none 0 0) 0 [] (by rfl) (World.ownsRow_nil _ _ _ _) ad n cap (secC l) (by rfl) HL.out (by first | exact N0.out.below BW.out | exact N0.out.below (btrans BW.out (balloc _ _))) (secC_one _) (by unfold maxLen; omega) (by omega) (by simp) ?_; intro v1 w1 own1 gr1 at1; rw [Nat.zero_add, List.nil_append] at own1; have e0 : w1.cell? ⟨w.heap.size, 0, none⟩ = some (.int .i64 c) := (gr1.cell_far _ (by first | (simp; done) | (simp; omega)) (by simp [Value.ownBlock])).trans (by simp); have e1 : w1.cell? ⟨w.heap.size, 1, none⟩ = some (.int .i64 d) := (gr1.cell_far _ (by first | (simp; done) | (simp; omega)) (by simp [Value.ownBlock])).trans (by simp); have e2 : w1.cell? ⟨w.heap.size, 2, none⟩ = some (.int .i64 t) := (gr1.cell_far _ (by first | (simp; done) | (simp; omega)) (by simp [Value.ownBlock])).trans (by simp); have GR : Hid (World.grownBy _ w1 none) := gr1; have OW : Hid (w1.ownsRow (w.heap.size + 1) 31 3 v1 n (secC l)) := own1; clear at1 gr1 own1)
      | (refine step_append_at _ (by rfl) (.tmp 6) (.tmp 8) 22 (by rfl) (w.heap.size + 1) 31 i0 _ 3 24 Tryz.underlying22 hi0 hz0 hz1 hz2 rfl (by omega) v1 n (secC l) (by rfl) (by first | exact OW.out | exact own_below OW.out (balloc _ _)) ⟨w1.heap.size, 0, none⟩ 1 1 (secC [⟨c, d, t⟩]) (by rfl) rfl (news_one _ _ _ _ _) (secC_one _) (by unfold maxLen; omega) (by omega) (by have := GR.out.size; simp at this ⊢; omega) ?_; intro v2 w2 own2 gr2 at2; obtain ⟨a2, cp2, rfl⟩ := own_form own2; have GR2 : Hid (World.grownBy _ w2 v1.ownBlock) := gr2; have OW2 : Hid (w2.ownsRow (w.heap.size + 1) 31 3 (.slice a2 (n + 1) cp2) (n + 1) (secC l ++ secC [⟨c, d, t⟩])) := own2; clear at2 own2 gr2)
      | (refine step_append_at _ (by rfl) (.tmp 6) (.tmp 8) 22 (by rfl) (w.heap.size + 1) 31 i0 _ 3 24 Tryz.underlying22 hi0 hz0 hz1 hz2 rfl (by omega) v1 n (secC l) (by rfl) OW.out ⟨w.heap.size + 1, 0, none⟩ 1 1 (secC [⟨c, d, t⟩]) (by rfl) rfl (fun j u hu => (GR.out.cell_far ((⟨w.heap.size + 1, 0, none⟩ : Addr).add j) (by rw [addr_add]; show w.heap.size + 1 < _; simp) (by simp)).trans (by have := news_one (w.alloc (.cells #[.int .i64 c, .int .i64 d, .int .i64 t] 31)) c d t 31 j u hu; simpa using this)) (secC_one _) (by unfold maxLen; omega) (by omega) (by have := GR.out.size; simp at this ⊢; omega) ?_; intro v2 w2 own2 gr2 at2; obtain ⟨a2, cp2, rfl⟩ := own_form own2; have GR2 : Hid (World.grownBy _ w2 v1.ownBlock) := gr2; have OW2 : Hid (w2.ownsRow (w.heap.size + 1) 31 3 (.slice a2 (n + 1) cp2) (n + 1) (secC l ++ secC [⟨c, d, t⟩])) := own2; clear at2 own2 gr2))
    all_goals
      go_wp2_with fail
      go_ret
      first
        | exact ⟨_, rfl, with_end HN.out BW.out (by omega) GR.out (balloc _ _) OW.out GR2.out OW2.out⟩
        | exact ⟨_, rfl, with_end HN.out (btrans (btrans (balloc _ _) (balloc _ _)) (bdrew _)) (by omega) GR.out (Below.refl _ _) OW.out GR2.out OW2.out⟩
end Go.Proofs.YtpbjodbcmaaheaaGreatDoor
