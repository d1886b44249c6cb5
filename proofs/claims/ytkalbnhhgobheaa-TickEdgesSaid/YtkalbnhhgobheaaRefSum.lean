/- The contract of the reference's sum of many. -/
import Derived.Test.YtkalbnhhgobheaaRefTop
import Derived.Deep.RegionWith
namespace Go.Proofs.Ytkalbnhhgobheaa
open Go.RowKit

theorem sumL_bd (zs : List Int) (hz : AllIn zs) (k : Nat) (hk : k ≤ zs.length) : -9223372036854775808 * (k : Int) ≤ sumL (zs.take k) ∧ sumL (zs.take k) ≤ 9223372036854775808 * (k : Int) := by
  induction k with
  | zero => simp [sumL]
  | succ n ih =>
    have h := ih (by omega)
    have e := sumL_take_succ zs n (by omega)
    have b := hz n
    rw [e]
    omega

/-- The running sum's box. -/
structure BoxAt (s : Nat) (w : World) (n : Bool) (h l : Int) : Prop where
  c0 : w.cell? ⟨s, 0, none⟩ = some (.bool n)
  c1 : w.cell? ⟨s, 1, none⟩ = some (.int .u64 h)
  c2 : w.cell? ⟨s, 2, none⟩ = some (.int .u64 l)
  fr : ∀ o, w.frozen? ⟨s, o, none⟩ = false

theorem BoxAt.below {s : Nat} {w w' : World} {n : Bool} {h l : Int} (b : BoxAt s w n h l) {B : Nat} (g : Below B w w') (hs : s < B) : BoxAt s w' n h l :=
  ⟨by rw [g.cell (p := ⟨s, 0, none⟩) hs]; exact b.c0, by rw [g.cell (p := ⟨s, 1, none⟩) hs]; exact b.c1, by rw [g.cell (p := ⟨s, 2, none⟩) hs]; exact b.c2, fun o => by rw [g.frozen (p := ⟨s, o, none⟩) hs]; exact b.fr o⟩
theorem Below.lt {B s : Nat} {w w' : World} (g : Below B w w') (hs : s < w.heap.size) : s < w'.heap.size := Nat.lt_of_lt_of_le hs g.size
theorem BoxAt.drew {s : Nat} {w : World} {n : Bool} {h l : Int} (b : BoxAt s w n h l) : BoxAt s w.drew n h l := ⟨b.c0, b.c1, b.c2, b.fr⟩

set_option maxHeartbeats 1000000 in
theorem ref_sum_any (a : Option Addr) (cap : Nat) (zs : List Int) (w : World) (hr : RowAt w a zs) (hz : AllIn zs) (hl : zs.length ≤ 1000) :
    Calls Try.prog 22 #[.slice a zs.length cap] w fun e w' => e = .returned (.tuple #[.int .i64 (fitV (sumL zs)), .bool (fitB (sumL zs))]) ∧ Below w.heap.size w w' := by
  have hbd := sumL_bd zs hz
  have HB : Hid (∀ k : Nat, k ≤ zs.length → -9223372036854775808 * (k : Int) ≤ sumL (zs.take k) ∧ sumL (zs.take k) ≤ 9223372036854775808 * (k : Int)) := hbd
  clear hbd
  generalize hn : zs.length = n at *
  have HN : Hid (zs.length = n) := hn
  clear hn
  go_enter Try.func22, Try.ntmps22
  go_wp2
  go_loopw [5] (fun i wr => ∃ (k : Nat) (ng : Bool) (H L : Int), k ≤ n ∧ i = .int .i64 k ∧ BoxAt w.heap.size wr ng H L ∧ IsW ng H L (sumL (zs.take k)) ∧ w.heap.size < wr.heap.size ∧ Below w.heap.size w wr) (fun i _ => n - (intOf i).toNat)
  case atStart => exact ⟨0, false, 0, 0, Nat.zero_le _, rfl, ⟨by simp, by simp, by simp, by intro o; simp⟩, ⟨by omega, by omega, by omega, by omega, .inr ⟨rfl, by simp [sumL], by simp [sumL]⟩⟩, by simp, (Below.refl _ _).alloc (Nat.le_refl _) _⟩
  case round =>
    obtain ⟨k, ng, H, L, hk, rfl, hbox, hW, hsz, hbel⟩ := hrel
    by_cases hlt : k < n
    · have hb := hz k
      rcases hr with rfl | ⟨b, off, rfl, hc⟩
      · have := HN.out; simp at this; omega
      have hck := hc k (by rw [HN.out]; exact hlt)
      have hblt := World.block_lt_of_cell? _ _ hck
      have hckr : wr.cell? ⟨b, off + k, none⟩ = some (.int .i64 (zs.getD k 0)) := by rw [hbel.cell hblt]; exact hck
      generalize hv : zs.getD k 0 = v at *
      have HV : Hid (zs.getD k 0 = v) := hv
      clear hv hc hck
      obtain ⟨c0, c1, c2, fr⟩ := id hbox
      have hb1 := hb.1
      have hb2 := hb.2
      have bd := HB.out k hk
      have HH : H ≤ 4611686018427387904 := by obtain ⟨_, _, _, _, q⟩ := hW; omega
      go_wp2
      go_region_with (first | (go_at_call 26; refine (of_any v _ hb1 hb2).mono ?_; rintro e w1 ⟨rfl, g1⟩; have b1 := hbox.drew.below g1 hsz; have l1 := Below.lt g1 hsz; clear hbox; obtain ⟨d0, d1, d2, dr⟩ := id b1) | (go_at_call 25; refine (radd_any _ _ _ _ _ _ _ v _ hW (isW_of hb1 hb2) HH (by omega)).mono ?_; rintro e w2 ⟨ng', H', L', rfl, hW2, g2⟩; have b2 := b1.below g2 l1; have l2 := Below.lt g2 l1; obtain ⟨e0, e1, e2, er⟩ := id b2))
      all_goals
        obtain ⟨V, hV⟩ : ∃ V, V = ((w2.setCell ⟨w.heap.size, 0, none⟩ (.bool ng')).setCell ⟨w.heap.size, 1, none⟩ (.int .u64 H')).setCell ⟨w.heap.size, 2, none⟩ (.int .u64 L') := ⟨_, rfl⟩
        rw [← hV]
        obtain ⟨v0, v1, v2, vc, vf, vs, vb⟩ := set3 w2 w.heap.size _ _ _ _ _ _ e0 e1 e2 V hV
        have bV : BoxAt w.heap.size V ng' H' L' := ⟨v0, v1, v2, fun o => by rw [vf]; exact er o⟩
        have sV : w.heap.size < V.heap.size := by rw [vs]; exact l2
        have gV : Below w.heap.size w V := (((hbel.drew).trans (g1.mono (Nat.le_of_lt hsz))).trans (g2.mono (Nat.le_of_lt l1))).trans (vb _ (Nat.le_refl _))
        clear vc vf vs vb v0 v1 v2 e0 e1 e2 er d0 d1 d2 dr c0 c1 c2 fr hV b1 b2 l1 l2 g1 g2
        go_wp2
        go_roundw
        case rel =>
          have e := sumL_take_succ zs k (by rw [HN.out]; exact hlt)
          rw [HV.out] at e
          exact ⟨k + 1, ng', H', L', hlt, by go_num, bV, by rw [e]; exact hW2, sV, gV⟩
        case measure => simp [intOf]; omega
    · have hkn : k = n := by omega
      subst hkn
      have e : sumL (zs.take k) = sumL zs := by rw [List.take_of_length_le (by rw [HN.out]; exact Nat.le_refl _)]
      rw [e] at hW
      clear e
      obtain ⟨c0, c1, c2, fr⟩ := id hbox
      go_wp2_with (go_at_call 24; refine (back_any _ _ _ _ _ hW).mono ?_; rintro e w1 ⟨rfl, g1⟩)
      go_ret2
      exact ⟨rfl, hbel.trans (g1.mono (Nat.le_of_lt hsz))⟩
end Go.Proofs.Ytkalbnhhgobheaa
