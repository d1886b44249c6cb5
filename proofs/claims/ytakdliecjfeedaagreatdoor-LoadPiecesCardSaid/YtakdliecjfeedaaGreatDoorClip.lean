/- The contracts of slices.Clip, sort.Search and of the two makers of loads. -/
import Derived.Test.YtakdliecjfeedaaGreatDoorOwn9
import Derived.Deep.RegionLawGrows
namespace Go.Proofs.YtakdliecjfeedaaGreatDoor
open Go Go.RowKit

set_option maxHeartbeats 1000000 in
theorem clip_any (a : Option Addr) (n cap : Nat) (w : World) (h : n ≤ cap) :
    Calls Tryz.prog 93 #[.slice a n cap] w fun e w' => e = .returned (.slice a n n) ∧ w' = w := by
  have h1 : (n : Int) ≤ (cap : Int) := by omega
  go_enter Tryz.func93, Tryz.ntmps93
  cases a with
  | none =>
    go_wp2_with fail
    go_ret
    exact ⟨rfl, rfl⟩
  | some x =>
    go_wp2_with fail
    go_ret
    exact ⟨rfl, rfl⟩
set_option maxHeartbeats 1000000 in
theorem mkfit_any (c d t : Int) (bd bt : Nat) (w : World) (h1 : w.cell? ⟨bd, 0, none⟩ = some (.int .i64 d)) (h2 : w.cell? ⟨bt, 0, none⟩ = some (.int .i64 t)) (n1 : bd < w.heap.size) (n2 : bt < w.heap.size) :
    Calls Tryz.prog 76 #[.int .i64 c, .pointer (some ⟨bd, 0, none⟩), .pointer (some ⟨bt, 0, none⟩)] w fun e w' => e = .returned (.agg #[.int .i64 c, .int .i64 d, .int .i64 t]) ∧ Below w.heap.size w w' := by
  have m1 : ¬ bd = w.heap.size := by omega
  have m2 : ¬ bt = w.heap.size := by omega
  go_enter Tryz.func76, Tryz.ntmps76
  go_wp2_with fail
  exact bodyPost_ret (v := .agg #[.int .i64 c, .int .i64 d, .int .i64 t]) (by simp [results, Tryz.results76, go_sem]) rfl ⟨rfl, balloc _ _⟩
set_option maxHeartbeats 1000000 in
theorem mktight_any (c t : Int) (bt : Nat) (w : World) (h2 : w.cell? ⟨bt, 0, none⟩ = some (.int .i64 t)) (n2 : bt < w.heap.size) :
    Calls Tryz.prog 77 #[.int .i64 c, .pointer (some ⟨bt, 0, none⟩)] w fun e w' => e = .returned (.agg #[.int .i64 c, .int .i64 c, .int .i64 t]) ∧ Below w.heap.size w w' := by
  have m2 : ¬ bt = w.heap.size := by omega
  go_enter Tryz.func77, Tryz.ntmps77
  go_wp2_with fail
  exact bodyPost_ret (v := .agg #[.int .i64 c, .int .i64 c, .int .i64 t]) (by simp [results, Tryz.results77, go_sem]) rfl ⟨rfl, balloc _ _⟩

theorem half_lt {i j : Nat} (h : i < j) : i ≤ (i + j) / 2 ∧ (i + j) / 2 < j := by omega
set_option maxHeartbeats 4000000 in
theorem search_any (n lb ob : Nat) (p : Nat → Bool) (w : World) (hn : n ≤ 1000000) (hp : Falls p)
    (hf : ∀ (i : Nat) (wx : World), i < n → Below w.heap.size w wx → Calls Tryz.prog 92 #[.int .i64 i, .pointer (some ⟨lb, 0, none⟩), .pointer (some ⟨ob, 0, none⟩)] wx fun e w' => e = .returned (.bool (!p (i + 1))) ∧ Below w.heap.size w w') :
    Calls Tryz.prog 91 #[.int .i64 n, .func (.func 92) #[] #[.pointer (some ⟨lb, 0, none⟩), .pointer (some ⟨ob, 0, none⟩)]] w fun e w' => e = .returned (.int .i64 (grN p n : Nat)) ∧ Below w.heap.size w w' := by
  have HF : Hid (∀ (i : Nat) (wx : World), i < n → Below w.heap.size w wx → Calls Tryz.prog 92 #[.int .i64 i, .pointer (some ⟨lb, 0, none⟩), .pointer (some ⟨ob, 0, none⟩)] wx fun e w' => e = .returned (.bool (!p (i + 1))) ∧ Below w.heap.size w w') := hf
  have HP : Hid (Falls p) := hp
  clear hf hp
  go_enter Tryz.func91, Tryz.ntmps91
  go_wp2_with fail
  go_loopw [5, 6] (fun x y wr => ∃ i j : Nat, i ≤ j ∧ j ≤ n ∧ x = .int .i64 i ∧ y = .int .i64 j ∧ Hid (i = 0 ∨ p i = true) ∧ Hid (j = n ∨ p (j + 1) = false) ∧ Below w.heap.size w wr) (fun x y _ => (intOf y - intOf x).toNat)
  case atStart => exact ⟨0, n, by omega, by omega, rfl, rfl, .inl rfl, .inl rfl, Below.refl _ _⟩
  case round =>
    obtain ⟨i, j, hij, hj, rfl, rfl, HI, HJ, hB⟩ := hrel
    have B : Hid (Below w.heap.size w wr) := hB
    clear hB
    by_cases hlt : i < j
    · obtain ⟨h, hh⟩ : ∃ h, (i + j) / 2 = h := ⟨_, rfl⟩
      have hb : i ≤ h ∧ h < j := by rw [← hh]; exact half_lt hlt
      obtain ⟨hb1, hb2⟩ := hb
      have hc : ((i : Int) + (j : Int)) / 2 = (h : Int) := by omega
      cases e : p (h + 1)
      · have HE : Hid (p (h + 1) = false) := e
        clear e
        go_wp2_with (go_at_call 92; refine (HF.out h _ (by omega) B.out).mono ?_; rintro e w2 ⟨rfl, g2⟩; rw [HE.out]; have G2 : Hid (Below w.heap.size w w2) := g2; clear g2)
        go_round
        case rel => exact ⟨i, h, by omega, by omega, rfl, rfl, HI.out, .inr HE.out, G2.out⟩
        case measure => simp [intOf]; omega
      · have HE : Hid (p (h + 1) = true) := e
        clear e
        go_wp2_with (go_at_call 92; refine (HF.out h _ (by omega) B.out).mono ?_; rintro e w2 ⟨rfl, g2⟩; rw [HE.out]; have G2 : Hid (Below w.heap.size w w2) := g2; clear g2)
        go_round
        case rel => exact ⟨h + 1, j, by omega, by omega, by go_num, rfl, .inr HE.out, HJ.out, G2.out⟩
        case measure => simp [intOf]; omega
    · obtain rfl : i = j := by omega
      have HR : Hid (grN p n = i) := gr_search HP.out (by omega) HI.out HJ.out
      go_wp2_with fail
      go_ret
      exact ⟨ret_int (by rw [HR.out]), B.out⟩
end Go.Proofs.YtakdliecjfeedaaGreatDoor
