/- The contracts of the reader's text, more, ended, and of digits. -/
import Derived.Test.YtcgmbfpmcldfdaaGreatDoorEnv
namespace Go.Proofs.YtcgmbfpmcldfdaaGreatDoor
open Go Go.RowKit

theorem trim_yes {l p : List UInt8} (h : Lib.hasPrefix l p = true) : strip p l = some (Lib.trimPrefix l p) := by unfold strip Lib.trimPrefix; rw [if_pos h, if_pos h]
theorem strip_no {l p : List UInt8} (h : Lib.hasPrefix l p = false) : strip p l = none := by unfold strip; rw [if_neg (by simp [h])]
theorem trim_len (l p : List UInt8) : (Lib.trimPrefix l p).length ≤ l.length := by
  unfold Lib.trimPrefix
  split
  · simp
  · exact Nat.le_refl _
set_option maxHeartbeats 1000000 in
theorem text_any (b : Nat) (st : St) (want : ByteArray) (w : World) (h : Rd w b st) :
    Calls Tryz.prog 46 #[.pointer (some ⟨b, 0, none⟩), .string want] w fun e w' => e = .returned (.tuple #[]) ∧ Rd w' b (textS want.data.toList st) ∧ Only [b] w w' := by
  obtain ⟨r, bad, hr, hs, rfl⟩ := h
  obtain ⟨c0, c1, f0, f1⟩ := hr.cells
  have HR : Hid (RdAt w b r bad) := hr
  have hbl := hr.lt
  clear hr
  cases hp : Lib.hasPrefix r.data.toList want.data.toList
  · go_enter Tryz.func46, Tryz.ntmps46
    go_wp2_with (go_at_call 61; refine (Tryz.strings_CutPrefix _ _ _).mono ?_; rintro e w' ⟨rfl, rfl⟩)
    obtain ⟨h1, h2⟩ := HR.out.setBad
    refine bodyPost_ret (v := .tuple #[]) (by simp [results, Tryz.results46, go_sem]) rfl ⟨rfl, ⟨r, true, h1, hs, ?_⟩, h2⟩
    cases bad
    · show strip _ _ = none; exact strip_no hp
    · rfl
  · go_enter Tryz.func46, Tryz.ntmps46
    go_wp2_with (go_at_call 61; refine (Tryz.strings_CutPrefix _ _ _).mono ?_; rintro e w' ⟨rfl, rfl⟩)
    obtain ⟨h1, h2⟩ := HR.out.setRest ⟨(Lib.trimPrefix r.data.toList want.data.toList).toArray⟩
    refine bodyPost_end (v := .tuple #[]) (by simp [results, Tryz.results46, go_sem]) rfl ⟨rfl, ⟨_, bad, h1, ?_, ?_⟩, h2⟩
    · rw [size_list]; have := trim_len r.data.toList want.data.toList; rw [size_len] at this; omega
    · cases bad
      · show strip _ _ = some _; exact trim_yes hp
      · rfl
theorem bytes_nil {r : ByteArray} : r = ⟨#[]⟩ ↔ r.data.toList = [] := by
  constructor
  · rintro rfl; rfl
  · intro h
    obtain ⟨a⟩ := r
    simp at h
    rw [h]
set_option maxHeartbeats 1000000 in
theorem more_any (b : Nat) (st : St) (w : World) (h : Rd w b st) :
    Calls Tryz.prog 45 #[.pointer (some ⟨b, 0, none⟩)] w fun e w' => e = .returned (.bool (moreS st)) ∧ w' = w := by
  obtain ⟨r, bad, hr, hs, rfl⟩ := h
  obtain ⟨c0, c1, f0, f1⟩ := hr.cells
  clear hr
  cases bad
  · by_cases he : r = ⟨#[]⟩
    · subst he
      go_enter Tryz.func45, Tryz.ntmps45
      go_wp2
      go_ret
      exact ⟨rfl, rfl⟩
    · have hm : moreS (stOf r false) = true := by
        unfold stOf
        cases e : r.data.toList with
        | nil => exact absurd (bytes_nil.2 e) he
        | cons a t => rfl
      rw [hm]
      clear hm
      have hE : r.toList.isEmpty = false := by rw [ByteArray.toList_eq]; cases e : r.data.toList with
        | nil => exact absurd (bytes_nil.2 e) he
        | cons a t => rfl
      clear he
      go_enter Tryz.func45, Tryz.ntmps45
      go_wp2
      go_ret
      exact ⟨rfl, rfl⟩
  · go_enter Tryz.func45, Tryz.ntmps45
    go_wp2
    go_ret
    exact ⟨rfl, rfl⟩
set_option maxHeartbeats 1000000 in
theorem ended_any (b : Nat) (st : St) (w : World) (h : Rd w b st) :
    Calls Tryz.prog 48 #[.pointer (some ⟨b, 0, none⟩)] w fun e w' => e = .returned (.bool (decide (st = some []))) ∧ w' = w := by
  obtain ⟨r, bad, hr, hs, rfl⟩ := h
  obtain ⟨c0, c1, f0, f1⟩ := hr.cells
  clear hr
  cases bad
  · by_cases he : r = ⟨#[]⟩
    · subst he
      go_enter Tryz.func48, Tryz.ntmps48
      go_wp2
      go_ret
      exact ⟨rfl, rfl⟩
    · have hm : decide (stOf r false = some []) = false := by
        unfold stOf
        simp only [Bool.false_eq_true, if_false, Option.some.injEq, decide_eq_false_iff_not]
        exact fun e => he (bytes_nil.2 e)
      rw [hm]
      clear hm
      have hE : r.toList.isEmpty = false := by rw [ByteArray.toList_eq]; cases e : r.data.toList with
        | nil => exact absurd (bytes_nil.2 e) he
        | cons a t => rfl
      clear he
      go_enter Tryz.func48, Tryz.ntmps48
      go_wp2
      go_ret
      exact ⟨rfl, rfl⟩
  · go_enter Tryz.func48, Tryz.ntmps48
    go_wp2
    go_ret
    exact ⟨rfl, rfl⟩

theorem drop_at (s : ByteArray) (k : Nat) (h : k < s.size) : s.data.toList.drop k = s[k] :: s.data.toList.drop (k + 1) := by
  rw [List.drop_eq_getElem_cons (by rw [size_len]; exact h)]; rfl
set_option maxHeartbeats 1000000 in
theorem digits_any (s : ByteArray) (w : World) (hs : s.size ≤ 140737488355328) :
    Calls Tryz.prog 59 #[.string s] w fun e w' => e = .returned (.int .i64 ((digs s.data.toList).length : Nat)) ∧ w' = w := by
  go_enter Tryz.func59, Tryz.ntmps59
  go_wp2
  go_loop [3] (fun i => ∃ k : Nat, k ≤ s.size ∧ i = .int .i64 k ∧ (digs s.data.toList).length = k + (digs (s.data.toList.drop k)).length) (fun i => s.size - (intOf i).toNat)
  case atStart => exact ⟨0, Nat.zero_le _, rfl, by simp⟩
  case round =>
    obtain ⟨k, hk, rfl, hh⟩ := hrel
    have HH : Hid ((digs s.data.toList).length = k + (digs (s.data.toList.drop k)).length) := hh
    clear hh
    by_cases hlt : k < s.size
    · have HD : Hid (s.data.toList.drop k = s[k] :: s.data.toList.drop (k + 1)) := drop_at s k hlt
      by_cases h1 : (48 : Int) ≤ (s[k].toNat : Int)
      · by_cases h2 : (s[k].toNat : Int) ≤ 57
        · have HI : Hid (isDig s[k] = true) := isDig_iff.2 ⟨by omega, by omega⟩
          go_wp2
          go_round
          case rel => exact ⟨k + 1, by omega, by go_num, by rw [HH.out, HD.out]; simp [digs, HI.out]; omega⟩
          case measure => simp [intOf]; omega
        · have HI : Hid (isDig s[k] = false) := by show _ = _; rw [Bool.eq_false_iff, Ne, isDig_iff]; omega
          go_wp2
          go_ret
          exact ⟨ret_int (by rw [HH.out, HD.out]; simp [digs, HI.out]), rfl⟩
      · have HI : Hid (isDig s[k] = false) := by show _ = _; rw [Bool.eq_false_iff, Ne, isDig_iff]; omega
        go_wp2
        go_ret
        exact ⟨ret_int (by rw [HH.out, HD.out]; simp [digs, HI.out]), rfl⟩
    · go_wp2
      go_ret
      exact ⟨ret_int (by rw [HH.out, List.drop_eq_nil_iff.2 (by rw [size_len]; omega)]; simp [digs]), rfl⟩
end Go.Proofs.YtcgmbfpmcldfdaaGreatDoor
