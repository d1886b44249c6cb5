/- The contract of the document's own digits. -/
import Derived.Test.YtfhhpmnohbmnoaaGreatDoorPut
import Derived.Laws.BytesArg
namespace Go.Proofs.YtfhhpmnohbmnoaaGreatDoor
open Go Go.RowKit

theorem bytes_ext {a b : ByteArray} (h : a.data.toList = b.data.toList) : a = b := by
  obtain ⟨⟨x⟩⟩ := a
  obtain ⟨⟨y⟩⟩ := b
  simp at h
  rw [h]
theorem conv_one (w : World) (x : Int) : (convert 53 9 (.slice (some ⟨w.heap.size, 0, none⟩) 1 1)).run Tryz.prog (w.alloc (.cells #[.int .u8 x] 5)) = .ok (.string ⟨#[UInt8.ofNat x.toNat]⟩) (w.alloc (.cells #[.int .u8 x] 5)) :=
  run_convert_bytes_arg _ 53 5 Tryz.underlying53 Tryz.underlying5 w.heap.size 0 1 1 [x] rfl (fun i hi => by
    obtain rfl : i = 0 := by omega
    simp) 9 Tryz.underlying9

set_option maxHeartbeats 4000000 in
set_option maxRecDepth 100000 in
theorem rdigits_any (n : Int) (h0 : 0 ≤ n) (h1 : n < 100000) (w : World) :
    Calls Tryz.prog 43 #[.int .i64 n] w fun e w' => e = .returned (.string ⟨(dec n).toArray⟩) ∧ Below w.heap.size w w' := by
  obtain ⟨n0, rfl⟩ : ∃ n0 : Nat, n = n0 := ⟨n.toNat, by omega⟩
  have HD : Hid (dec (n0 : Int) = Lib.decDigits n0 ∧ (Lib.decDigits n0).length ≤ 5) := by
    have := dec_len (x := (n0 : Int)) h1
    unfold dec at this
    rw [Int.toNat_natCast] at this
    exact ⟨by unfold dec; rw [Int.toNat_natCast], this⟩
  rw [HD.out.1]
  go_enter Tryz.func43, Tryz.ntmps43
  go_wp2_with fail
  go_loopw [0, 3] (fun x s wr => ∃ (u : Nat) (q : ByteArray), x = .int .i64 u ∧ s = .string q ∧ u < 100000 ∧ Lib.decDigits n0 = Lib.decDigits u ++ q.data.toList ∧ Below w.heap.size w wr) (fun x _ _ => (intOf x).toNat)
  case atStart => exact ⟨n0, ⟨#[]⟩, rfl, rfl, by omega, by simp, Below.refl _ _⟩
  case round =>
    obtain ⟨u, q, rfl, rfl, hu, hh, hB⟩ := hrel
    have hq : q.size ≤ 5 := by have := HD.out.2; rw [hh, List.length_append, size_len] at this; omega
    have HH : Hid (Lib.decDigits n0 = Lib.decDigits u ++ q.data.toList) := hh
    have B : Hid (Below w.heap.size w wr) := hB
    clear hh hB
    have hconv := conv_one wr (48 + (u : Int) % 10)
    obtain ⟨b, hb⟩ : ∃ b : UInt8, UInt8.ofNat (48 + (u : Int) % 10).toNat = b := ⟨_, rfl⟩
    rw [hb] at hconv
    have Hb : Hid (UInt8.ofNat (48 + u % 10) = b) := by unfold Hid; rw [← hb]; congr 1
    clear hb
    have hs : ¬ 9223372036854775807 < 1 + q.size := by omega
    have B2 : Hid (Below w.heap.size w (wr.alloc (.cells #[.int .u8 (48 + (u : Int) % 10)] 5))) := btrans B.out (balloc _ _)
    have eb : (⟨#[b]⟩ : ByteArray).size = 1 := rfl
    by_cases hz : (u : Int) / 10 = 0
    · have hz2 : ((u : Int) / 10 == 0) = true := by simp [hz]
      go_wp2_with fail
      go_ret
      refine ⟨?_, B2.out⟩
      have e : Lib.decDigits u = [b] := by rw [dec_step, if_pos (by omega), ← Hb.out, show u % 10 = u by omega]
      rw [HH.out, e]
      exact ret_str (bytes_ext (by simp))
    · have hz2 : ((u : Int) / 10 == 0) = false := by simp [hz]
      go_wp2_with fail
      go_round
      case rel =>
        refine ⟨u / 10, ⟨#[b]⟩ ++ q, by go_num, rfl, by omega, ?_, B2.out⟩
        rw [HH.out, dec_step u, if_neg (by omega), Hb.out]
        simp
      case measure => simp [intOf]; omega
end Go.Proofs.YtfhhpmnohbmnoaaGreatDoor
