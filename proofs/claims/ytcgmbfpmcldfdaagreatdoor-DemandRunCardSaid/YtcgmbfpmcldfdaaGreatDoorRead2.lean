/- The contract of the reader's number. -/
import Derived.Test.YtcgmbfpmcldfdaaGreatDoorRead
namespace Go.Proofs.YtcgmbfpmcldfdaaGreatDoor
open Go Go.RowKit

theorem extract_list (r : ByteArray) (i n : Nat) : (r.extract i n).data.toList = (r.data.toList.drop i).take (n - i) := by
  simp [ByteArray.data_extract]
theorem digs_take (l : List UInt8) : l.take (digs l).length = digs l := by
  have := (dig_split l).1
  conv => lhs; arg 2; rw [this]
  exact List.take_left
theorem digs_le (l : List UInt8) : (digs l).length ≤ l.length := by
  have := congrArg List.length (dig_split l).1
  simp at this
  omega
theorem cut_digs (r : ByteArray) : (r.extract 0 (digs r.data.toList).length).data.toList = digs r.data.toList := by
  rw [extract_list]; simp [digs_take]
theorem cut_rest (r : ByteArray) (n : Nat) : (r.extract n r.size).data.toList = r.data.toList.drop n := by
  rw [extract_list, List.take_of_length_le (by rw [List.length_drop, size_len]; omega)]
theorem cut_size (r : ByteArray) (n : Nat) : (r.extract n r.size).size ≤ r.size := by
  rw [← size_len, cut_rest, List.length_drop, size_len]; omega
theorem parse_none {l : List UInt8} (h : digs l = [] ∨ (1 < (digs l).length ∧ (digs l).head? = some 48)) : parseNum l = none := by unfold parseNum; rw [if_pos h]
theorem parse_big {l : List UInt8} (h : ¬ valOf 0 (digs l) < 9223372036854775808) : parseNum l = none := by
  unfold parseNum
  rw [if_neg h]
  split <;> rfl
theorem parse_some {l : List UInt8} (h : ¬ (digs l = [] ∨ (1 < (digs l).length ∧ (digs l).head? = some 48))) (h2 : valOf 0 (digs l) < 9223372036854775808) : parseNum l = some (((valOf 0 (digs l) : Nat) : Int), l.drop (digs l).length) := by
  unfold parseNum
  rw [if_neg h, if_pos h2]
theorem head_digs {r : ByteArray} (h : 0 < r.size) (h1 : 0 < (digs r.data.toList).length) : (digs r.data.toList).head? = some r[0] := by
  have e := drop_at r 0 h
  simp only [List.drop_zero] at e
  rw [e] at h1 ⊢
  cases hd : isDig r[0]
  · simp [digs, hd] at h1
  · simp [digs, hd]
def numP (l : List UInt8) : Int × St := match parseNum l with
  | none => (0, none)
  | some (v, r) => (v, some r)
theorem num_bad {p : List UInt8} {st : St} (h : textS p st = none) : numS p st = (0, none) := by
  cases st with
  | none => rfl
  | some l =>
    have e : strip p l = none := h
    simp [numS, num, e]
theorem num_of {p : List UInt8} {st : St} {l : List UInt8} (h : textS p st = some l) : numS p st = numP l := by
  cases st with
  | none => simp [textS] at h
  | some q =>
    have e : strip p q = some l := h
    simp only [numS, num, e, Option.bind_some]
    rfl
theorem numP_none {l : List UInt8} (h : parseNum l = none) : numP l = (0, none) := by simp [numP, h]
theorem numP_some {l : List UInt8} {v : Int} {r : List UInt8} (h : parseNum l = some (v, r)) : numP l = (v, some r) := by simp [numP, h]

set_option maxHeartbeats 4000000 in
theorem number_any (b : Nat) (st : St) (ahead : ByteArray) (w : World) (hE : Env w) (hb5 : 5 ≤ b) (h : Rd w b st) :
    Calls Tryz.prog 44 #[.pointer (some ⟨b, 0, none⟩), .string ahead] w fun e w' => e = .returned (.int .i64 (numS ahead.data.toList st).1) ∧ Rd w' b (numS ahead.data.toList st).2 ∧ Only [b] w w' := by
  have HH : Hid (Rd w b st) := h
  clear h
  go_enter Tryz.func44, Tryz.ntmps44
  go_wp2_with fail
  refine (text_any b st ahead w HH.out).mono ?_
  rintro e w1 ⟨rfl, hr1, o1⟩
  have hE1 : Hid (Env w1) := hE.only o1 (by simpa using hb5)
  obtain ⟨r, bad, ra, hs, he⟩ := hr1
  have HT : Hid (textS ahead.data.toList st = stOf r bad) := he
  obtain ⟨c0, c1, f0, f1⟩ := ra.cells
  have hbl := ra.lt
  have RA : Hid (RdAt w1 b r bad) := ra
  have O1 : Hid (Only [b] w w1) := o1
  clear he hE HH ra o1
  cases bad
  · obtain ⟨n, hn⟩ : ∃ n, n = (digs r.data.toList).length := ⟨_, rfl⟩
    have hle : n ≤ r.size := by rw [hn, ← size_len]; exact digs_le _
    have HN : Hid (n = (digs r.data.toList).length) := hn
    clear hn
    have dg := fun w => digits_any r w hs
    rw [← HN.out] at dg
    have DG : Hid (∀ w, Calls Tryz.prog 59 #[.string r] w fun e w' => e = .returned (.int .i64 (n : Nat)) ∧ w' = w) := dg
    clear dg
    go_wp2_with (go_at_call 59; refine (DG.out _).mono ?_; rintro e w' ⟨rfl, rfl⟩)
    have hcut : (r.extract 0 n).data.toList = digs r.data.toList := by rw [HN.out]; exact cut_digs r
    have hcs : (r.extract 0 n).size ≤ 281474976710656 := by rw [← size_len, hcut]; have := digs_le r.data.toList; rw [size_len] at this; omega
    have HE := num_of (l := r.data.toList) HT.out
    have fin : Hid (∀ w2 : World, Below w'.heap.size w' w2 → parseNum r.data.toList = none → (RdAt (w2.setCell ⟨b, 1, none⟩ (.bool true)) b r true ∧ Only [b] w (w2.setCell ⟨b, 1, none⟩ (.bool true))) ∧ numS ahead.data.toList st = (0, none)) := by
      intro w2 g2 hp
      obtain ⟨h1, h2⟩ := (RA.out.below g2).setBad
      exact ⟨⟨h1, (O1.out.below g2).same h2⟩, by rw [HE, numP_none hp]⟩
    by_cases hz : digs r.data.toList = []
    · obtain ⟨tp, p, hv⟩ := hE1.out.2.1
      refine (Tryz.strconv_ParseInt_10_at64_syntax_var _ hcs (by rw [hcut, hz]; rfl) tp p _ hv).mono ?_
      rintro e w2 ⟨N, rfl, -, -, g2⟩
      obtain ⟨c0', c1', f0', f1'⟩ := (RA.out.below g2).cells
      have F : Hid _ := fin.out w2 g2 (parse_none (.inl hz))
      have hbl' := (RA.out.below g2).lt
      clear hv hz HE hcut hcs c0 c1 f0 f1 g2 hbl
      go_wp2_with fail
      go_ret
      obtain ⟨⟨h1, h2⟩, h3⟩ := F.out
      exact ⟨ret_int (by rw [h3]), ⟨r, true, h1, hs, by rw [h3]; rfl⟩, h2⟩
    · have hint := int_digs hz (dig_split r.data.toList).2.2
      by_cases hbig : valOf 0 (digs r.data.toList) < 9223372036854775808
      · rw [if_pos hbig] at hint
        refine (Tryz.strconv_ParseInt_10_at64_ok _ (by omega) _ (by rw [hcut]; exact hint) _).mono ?_
        rintro e w2 ⟨rfl, hw2⟩
        have g2 : Below w'.heap.size w' w2 := by
          rcases hw2 with rfl | ⟨t, rfl⟩
          · exact Below.refl _ _
          · exact Lib.bytesWorld_below _ _ _
        obtain ⟨c0', c1', f0', f1'⟩ := (RA.out.below g2).cells
        have hbl' := (RA.out.below g2).lt
        have RB : Hid (RdAt w2 b r false) := RA.out.below g2
        have OB : Hid (Only [b] w w2) := O1.out.below g2
        have hnz : 0 < n := by rw [HN.out]; exact List.length_pos_iff.2 hz
        have h0 : 0 < r.size := by omega
        have hd := head_digs h0 (by rw [← HN.out]; exact hnz)
        have F : Hid (parseNum r.data.toList = none → _) := fin.out w2 g2
        obtain ⟨v, hv⟩ : ∃ v : Nat, v = valOf 0 (digs r.data.toList) := ⟨_, rfl⟩
        rw [← hv]
        have HV : Hid (v = valOf 0 (digs r.data.toList)) := hv
        have PN : Hid (1 < n → (r[0].toNat : Int) = 48 → parseNum r.data.toList = none) := by
          intro h1 h2
          exact parse_none (.inr ⟨by rw [← HN.out]; exact h1, by rw [hd]; exact congrArg some (UInt8.toNat_inj.1 (by have e : (48 : UInt8).toNat = 48 := rfl; omega))⟩)
        have PS : Hid (¬ (1 < n ∧ (r[0].toNat : Int) = 48) → numS ahead.data.toList st = ((v : Int), some (r.data.toList.drop n))) := by
          intro h1
          rw [HE, numP_some (parse_some (fun q => by
            rcases q with q | ⟨q1, q2⟩
            · exact hz q
            · exact h1 ⟨by rw [HN.out]; exact q1, by rw [hd] at q2; have := congrArg UInt8.toNat (Option.some.inj q2); have e : (48 : UInt8).toNat = 48 := rfl; omega⟩) hbig), HV.out, HN.out]
        clear hv hz HE hcut hcs c0 c1 f0 f1 g2 hbl hint hbig hd hw2 fin HV
        by_cases h1 : 1 < (n : Int)
        · by_cases h2 : (r[0].toNat : Int) = 48
          · go_wp2_with fail
            go_ret
            obtain ⟨⟨k1, k2⟩, k3⟩ := F.out (PN.out (by omega) h2)
            exact ⟨ret_int (by rw [k3]), ⟨r, true, k1, hs, by rw [k3]; rfl⟩, k2⟩
          · go_wp2_with fail
            go_ret
            obtain ⟨k1, k2⟩ := RB.out.setRest (r.extract n r.size)
            have k3 := PS.out (fun q => h2 q.2)
            exact ⟨ret_int (by rw [k3]), ⟨_, false, k1, Nat.le_trans (cut_size r n) hs, by rw [k3]; show some _ = some _; rw [cut_rest]⟩, OB.out.same k2⟩
        · go_wp2_with fail
          go_ret
          obtain ⟨k1, k2⟩ := RB.out.setRest (r.extract n r.size)
          have k3 := PS.out (fun q => by have := q.1; omega)
          exact ⟨ret_int (by rw [k3]), ⟨_, false, k1, Nat.le_trans (cut_size r n) hs, by rw [k3]; show some _ = some _; rw [cut_rest]⟩, OB.out.same k2⟩
      · rw [if_neg hbig] at hint
        obtain ⟨tp, p, hv⟩ := hE1.out.2.2.1
        refine (Tryz.strconv_ParseInt_10_at64_range_var _ hcs (by rw [hcut]; exact hint) tp p _ hv).mono ?_
        rintro e w2 ⟨N, rfl, -, -, g2⟩
        obtain ⟨c0', c1', f0', f1'⟩ := (RA.out.below g2).cells
        have F : Hid _ := fin.out w2 g2 (parse_big hbig)
        have hbl' := (RA.out.below g2).lt
        clear hv hz HE hcut hcs c0 c1 f0 f1 g2 hbl hint hbig
        go_wp2_with fail
        go_ret
        obtain ⟨⟨h1, h2⟩, h3⟩ := F.out
        exact ⟨ret_int (by rw [h3]), ⟨r, true, h1, hs, by rw [h3]; rfl⟩, h2⟩
  · go_wp2_with fail
    go_ret
    have e := num_bad HT.out
    exact ⟨ret_int (by rw [e]), ⟨r, true, RA.out, hs, by rw [e]; rfl⟩, O1.out⟩
end Go.Proofs.YtcgmbfpmcldfdaaGreatDoor
