/- The contracts of the reader's text, more, ended, and of digits. -/
import Derived.Test.YtakdliecjfeedaaGreatDoorEnv
namespace Go.Proofs.YtakdliecjfeedaaGreatDoor
open Go Go.RowKit

theorem trim_yes {l p : List UInt8} (h : Lib.hasPrefix l p = true) : strip p l = some (Lib.trimPrefix l p) := by unfold strip Lib.trimPrefix; rw [if_pos h, if_pos h]
theorem strip_no {l p : List UInt8} (h : Lib.hasPrefix l p = false) : strip p l = none := by unfold strip; rw [if_neg (by simp [h])]
theorem trim_len (l p : List UInt8) : (Lib.trimPrefix l p).length ≤ l.length := by
  unfold Lib.trimPrefix
  split
  · simp
  · exact Nat.le_refl _
set_option maxHeartbeats 1000000 in
theorem text_any (b : Nat) (st : St) (want : ByteArray) (w : World) (h : Rd w b st) :
    Calls Tryz.prog 99 #[.pointer (some ⟨b, 0, none⟩), .string want] w fun e w' => e = .returned (.tuple #[]) ∧ Rd w' b (textS want.data.toList st) ∧ Only [b] w w' := by
  obtain ⟨r, bad, hr, hs, rfl⟩ := h
  obtain ⟨c0, c1, f0, f1⟩ := hr.cells
  have HR : Hid (RdAt w b r bad) := hr
  have hbl := hr.lt
  clear hr
  cases hp : Lib.hasPrefix r.data.toList want.data.toList
  · go_enter Tryz.func99, Tryz.ntmps99
    go_wp2_with (go_at_call 110; refine (Tryz.strings_CutPrefix _ _ _).mono ?_; rintro e w' ⟨rfl, rfl⟩)
    obtain ⟨h1, h2⟩ := HR.out.setBad
    refine bodyPost_ret (v := .tuple #[]) (by simp [results, Tryz.results99, go_sem]) rfl ⟨rfl, ⟨r, true, h1, hs, ?_⟩, h2⟩
    cases bad
    · show strip _ _ = none; exact strip_no hp
    · rfl
  · go_enter Tryz.func99, Tryz.ntmps99
    go_wp2_with (go_at_call 110; refine (Tryz.strings_CutPrefix _ _ _).mono ?_; rintro e w' ⟨rfl, rfl⟩)
    obtain ⟨h1, h2⟩ := HR.out.setRest ⟨(Lib.trimPrefix r.data.toList want.data.toList).toArray⟩
    refine bodyPost_end (v := .tuple #[]) (by simp [results, Tryz.results99, go_sem]) rfl ⟨rfl, ⟨_, bad, h1, ?_, ?_⟩, h2⟩
    · rw [size_list]; have := trim_len r.data.toList want.data.toList; rw [size_len] at this; omega
    · cases bad
      · show strip _ _ = some _; exact trim_yes hp
      · rfl
theorem bytes_nil {r : ByteArray} : r = ⟨#[]⟩ ↔ r.data.toList = [] := by
  constructor
  · rintro rfl; rfl
  · intro h
    obtain ⟨a⟩ := r
    simp at h
    rw [h]
set_option maxHeartbeats 1000000 in
theorem more_any (b : Nat) (st : St) (w : World) (h : Rd w b st) :
    Calls Tryz.prog 98 #[.pointer (some ⟨b, 0, none⟩)] w fun e w' => e = .returned (.bool (moreS st)) ∧ w' = w := by
  obtain ⟨r, bad, hr, hs, rfl⟩ := h
  obtain ⟨c0, c1, f0, f1⟩ := hr.cells
  clear hr
  cases bad
  · by_cases he : r = ⟨#[]⟩
    · subst he
      go_enter Tryz.func98, Tryz.ntmps98
      go_wp2
      go_ret
      exact ⟨rfl, rfl⟩
    · have hm : moreS (stOf r false) = true := by
        unfold stOf
        cases e : r.data.toList with
        | nil => exact absurd (bytes_nil.2 e) he
        | cons a t => rfl
      rw [hm]
      clear hm
      have hE : r.toList.isEmpty = false := by rw [ByteArray.toList_eq]; cases e : r.data.toList with
        | nil => exact absurd (bytes_nil.2 e) he
        | cons a t => rfl
      clear he
      go_enter Tryz.func98, Tryz.ntmps98
      go_wp2
      go_ret
      exact ⟨rfl, rfl⟩
  · go_enter Tryz.func98, Tryz.ntmps98
    go_wp2
    go_ret
    exact ⟨rfl, rfl⟩
set_option maxHeartbeats 1000000 in
theorem ended_any (b : Nat) (st : St) (w : World) (h : Rd w b st) :
    Calls Tryz.prog 101 #[.pointer (some ⟨b, 0, none⟩)] w fun e w' => e = .returned (.bool (decide (st = some []))) ∧ w' = w := by
  obtain ⟨r, bad, hr, hs, rfl⟩ := h
  obtain ⟨c0, c1, f0, f1⟩ := hr.cells
  clear hr
  cases bad
  · by_cases he : r = ⟨#[]⟩
    · subst he
      go_enter Tryz.func101, Tryz.ntmps101
      go_wp2
      go_ret
      exact ⟨rfl, rfl⟩
    · have hm : decide (stOf r false = some []) = false := by
        unfold stOf
        simp only [Bool.false_eq_true, if_false, Option.some.injEq, decide_eq_false_iff_not]
        exact fun e => he (bytes_nil.2 e)
      rw [hm]
      clear hm
      have hE : r.toList.isEmpty = false := by rw [ByteArray.toList_eq]; cases e : r.data.toList with
        | nil => exact absurd (bytes_nil.2 e) he
        | cons a t => rfl
      clear he
      go_enter Tryz.func101, Tryz.ntmps101
      go_wp2
      go_ret
      exact ⟨rfl, rfl⟩
  · go_enter Tryz.func101, Tryz.ntmps101
    go_wp2
    go_ret
    exact ⟨rfl, rfl⟩

theorem drop_at (s : ByteArray) (k : Nat) (h : k < s.size) : s.data.toList.drop k = s[k] :: s.data.toList.drop (k + 1) := by
  rw [List.drop_eq_getElem_cons (by rw [size_len]; exact h)]; rfl
set_option maxHeartbeats 1000000 in
theorem digits_any (s : ByteArray) (w : World) (hs : s.size ≤ 140737488355328) :
    Calls Tryz.prog 108 #[.string s] w fun e w' => e = .returned (.int .i64 ((digs s.data.toList).length : Nat)) ∧ w' = w := by
  go_enter Tryz.func108, Tryz.ntmps108
  go_wp2
  go_loop [3] (fun i => ∃ k : Nat, k ≤ s.size ∧ i = .int .i64 k ∧ (digs s.data.toList).length = k + (digs (s.data.toList.drop k)).length) (fun i => s.size - (intOf i).toNat)
  case atStart => exact ⟨0, Nat.zero_le _, rfl, by simp⟩
  case round =>
    obtain ⟨k, hk, rfl, hh⟩ := hrel
    have HH : Hid ((digs s.data.toList).length = k + (digs (s.data.toList.drop k)).length) := hh
    clear hh
    by_cases hlt : k < s.size
    · have HD : Hid (s.data.toList.drop k = s[k] :: s.data.toList.drop (k + 1)) := drop_at s k hlt
      by_cases h1 : (48 : Int) ≤ (s[k].toNat : Int)
      · by_cases h2 : (s[k].toNat : Int) ≤ 57
        · have HI : Hid (isDig s[k] = true) := isDig_iff.2 ⟨by omega, by omega⟩
          go_wp2
          go_round
          case rel => exact ⟨k + 1, by omega, by go_num, by rw [HH.out, HD.out]; simp [digs, HI.out]; omega⟩
          case measure => simp [intOf]; omega
        · have HI : Hid (isDig s[k] = false) := by show _ = _; rw [Bool.eq_false_iff, Ne, isDig_iff]; omega
          go_wp2
          go_ret
          exact ⟨ret_int (by rw [HH.out, HD.out]; simp [digs, HI.out]), rfl⟩
      · have HI : Hid (isDig s[k] = false) := by show _ = _; rw [Bool.eq_false_iff, Ne, isDig_iff]; omega
        go_wp2
        go_ret
        exact ⟨ret_int (by rw [HH.out, HD.out]; simp [digs, HI.out]), rfl⟩
    · go_wp2
      go_ret
      exact ⟨ret_int (by rw [HH.out, List.drop_eq_nil_iff.2 (by rw [size_len]; omega)]; simp [digs]), rfl⟩
end Go.Proofs.YtakdliecjfeedaaGreatDoor

/- The contract of the reader's number. -/
namespace Go.Proofs.YtakdliecjfeedaaGreatDoor
open Go Go.RowKit

theorem extract_list (r : ByteArray) (i n : Nat) : (r.extract i n).data.toList = (r.data.toList.drop i).take (n - i) := by
  simp [ByteArray.data_extract]
theorem digs_take (l : List UInt8) : l.take (digs l).length = digs l := by
  have := (dig_split l).1
  conv => lhs; arg 2; rw [this]
  exact List.take_left
theorem digs_le (l : List UInt8) : (digs l).length ≤ l.length := by
  have := congrArg List.length (dig_split l).1
  simp at this
  omega
theorem cut_digs (r : ByteArray) : (r.extract 0 (digs r.data.toList).length).data.toList = digs r.data.toList := by
  rw [extract_list]; simp [digs_take]
theorem cut_rest (r : ByteArray) (n : Nat) : (r.extract n r.size).data.toList = r.data.toList.drop n := by
  rw [extract_list, List.take_of_length_le (by rw [List.length_drop, size_len]; omega)]
theorem cut_size (r : ByteArray) (n : Nat) : (r.extract n r.size).size ≤ r.size := by
  rw [← size_len, cut_rest, List.length_drop, size_len]; omega
theorem parse_none {l : List UInt8} (h : digs l = [] ∨ (1 < (digs l).length ∧ (digs l).head? = some 48)) : parseNum l = none := by unfold parseNum; rw [if_pos h]
theorem parse_big {l : List UInt8} (h : ¬ valOf 0 (digs l) < 9223372036854775808) : parseNum l = none := by
  unfold parseNum
  rw [if_neg h]
  split <;> rfl
theorem parse_some {l : List UInt8} (h : ¬ (digs l = [] ∨ (1 < (digs l).length ∧ (digs l).head? = some 48))) (h2 : valOf 0 (digs l) < 9223372036854775808) : parseNum l = some (((valOf 0 (digs l) : Nat) : Int), l.drop (digs l).length) := by
  unfold parseNum
  rw [if_neg h, if_pos h2]
theorem head_digs {r : ByteArray} (h : 0 < r.size) (h1 : 0 < (digs r.data.toList).length) : (digs r.data.toList).head? = some r[0] := by
  have e := drop_at r 0 h
  simp only [List.drop_zero] at e
  rw [e] at h1 ⊢
  cases hd : isDig r[0]
  · simp [digs, hd] at h1
  · simp [digs, hd]
def numP (l : List UInt8) : Int × St := match parseNum l with
  | none => (0, none)
  | some (v, r) => (v, some r)
theorem num_bad {p : List UInt8} {st : St} (h : textS p st = none) : numS p st = (0, none) := by
  cases st with
  | none => rfl
  | some l =>
    have e : strip p l = none := h
    simp [numS, num, e]
theorem num_of {p : List UInt8} {st : St} {l : List UInt8} (h : textS p st = some l) : numS p st = numP l := by
  cases st with
  | none => simp [textS] at h
  | some q =>
    have e : strip p q = some l := h
    simp only [numS, num, e, Option.bind_some]
    rfl
theorem numP_none {l : List UInt8} (h : parseNum l = none) : numP l = (0, none) := by simp [numP, h]
theorem numP_some {l : List UInt8} {v : Int} {r : List UInt8} (h : parseNum l = some (v, r)) : numP l = (v, some r) := by simp [numP, h]

set_option maxHeartbeats 4000000 in
theorem number_any (b : Nat) (st : St) (ahead : ByteArray) (w : World) (hE : Env w) (hb5 : 5 ≤ b) (h : Rd w b st) :
    Calls Tryz.prog 97 #[.pointer (some ⟨b, 0, none⟩), .string ahead] w fun e w' => e = .returned (.int .i64 (numS ahead.data.toList st).1) ∧ Rd w' b (numS ahead.data.toList st).2 ∧ Only [b] w w' := by
  have HH : Hid (Rd w b st) := h
  clear h
  go_enter Tryz.func97, Tryz.ntmps97
  go_wp2_with fail
  refine (text_any b st ahead w HH.out).mono ?_
  rintro e w1 ⟨rfl, hr1, o1⟩
  have hE1 : Hid (Env w1) := hE.only o1 (by simpa using hb5)
  obtain ⟨r, bad, ra, hs, he⟩ := hr1
  have HT : Hid (textS ahead.data.toList st = stOf r bad) := he
  obtain ⟨c0, c1, f0, f1⟩ := ra.cells
  have hbl := ra.lt
  have RA : Hid (RdAt w1 b r bad) := ra
  have O1 : Hid (Only [b] w w1) := o1
  clear he hE HH ra o1
  cases bad
  · obtain ⟨n, hn⟩ : ∃ n, n = (digs r.data.toList).length := ⟨_, rfl⟩
    have hle : n ≤ r.size := by rw [hn, ← size_len]; exact digs_le _
    have HN : Hid (n = (digs r.data.toList).length) := hn
    clear hn
    have dg := fun w => digits_any r w hs
    rw [← HN.out] at dg
    have DG : Hid (∀ w, Calls Tryz.prog 108 #[.string r] w fun e w' => e = .returned (.int .i64 (n : Nat)) ∧ w' = w) := dg
    clear dg
    go_wp2_with (go_at_call 108; refine (DG.out _).mono ?_; rintro e w' ⟨rfl, rfl⟩)
    have hcut : (r.extract 0 n).data.toList = digs r.data.toList := by rw [HN.out]; exact cut_digs r
    have hcs : (r.extract 0 n).size ≤ 281474976710656 := by rw [← size_len, hcut]; have := digs_le r.data.toList; rw [size_len] at this; omega
    have HE := num_of (l := r.data.toList) HT.out
    have fin : Hid (∀ w2 : World, Below w'.heap.size w' w2 → parseNum r.data.toList = none → (RdAt (w2.setCell ⟨b, 1, none⟩ (.bool true)) b r true ∧ Only [b] w (w2.setCell ⟨b, 1, none⟩ (.bool true))) ∧ numS ahead.data.toList st = (0, none)) := by
      intro w2 g2 hp
      obtain ⟨h1, h2⟩ := (RA.out.below g2).setBad
      exact ⟨⟨h1, (O1.out.below g2).same h2⟩, by rw [HE, numP_none hp]⟩
    by_cases hz : digs r.data.toList = []
    · obtain ⟨tp, p, hv⟩ := hE1.out.2.1
      refine (Tryz.strconv_ParseInt_10_at64_syntax_var _ hcs (by rw [hcut, hz]; rfl) tp p _ hv).mono ?_
      rintro e w2 ⟨N, rfl, -, -, g2⟩
      obtain ⟨c0', c1', f0', f1'⟩ := (RA.out.below g2).cells
      have F : Hid _ := fin.out w2 g2 (parse_none (.inl hz))
      have hbl' := (RA.out.below g2).lt
      clear hv hz HE hcut hcs c0 c1 f0 f1 g2 hbl
      go_wp2_with fail
      go_ret
      obtain ⟨⟨h1, h2⟩, h3⟩ := F.out
      exact ⟨ret_int (by rw [h3]), ⟨r, true, h1, hs, by rw [h3]; rfl⟩, h2⟩
    · have hint := int_digs hz (dig_split r.data.toList).2.2
      by_cases hbig : valOf 0 (digs r.data.toList) < 9223372036854775808
      · rw [if_pos hbig] at hint
        refine (Tryz.strconv_ParseInt_10_at64_ok _ (by omega) _ (by rw [hcut]; exact hint) _).mono ?_
        rintro e w2 ⟨rfl, hw2⟩
        have g2 : Below w'.heap.size w' w2 := by
          rcases hw2 with rfl | ⟨t, rfl⟩
          · exact Below.refl _ _
          · exact Lib.bytesWorld_below _ _ _
        obtain ⟨c0', c1', f0', f1'⟩ := (RA.out.below g2).cells
        have hbl' := (RA.out.below g2).lt
        have RB : Hid (RdAt w2 b r false) := RA.out.below g2
        have OB : Hid (Only [b] w w2) := O1.out.below g2
        have hnz : 0 < n := by rw [HN.out]; exact List.length_pos_iff.2 hz
        have h0 : 0 < r.size := by omega
        have hd := head_digs h0 (by rw [← HN.out]; exact hnz)
        have F : Hid (parseNum r.data.toList = none → _) := fin.out w2 g2
        obtain ⟨v, hv⟩ : ∃ v : Nat, v = valOf 0 (digs r.data.toList) := ⟨_, rfl⟩
        rw [← hv]
        have HV : Hid (v = valOf 0 (digs r.data.toList)) := hv
        have PN : Hid (1 < n → (r[0].toNat : Int) = 48 → parseNum r.data.toList = none) := by
          intro h1 h2
          exact parse_none (.inr ⟨by rw [← HN.out]; exact h1, by rw [hd]; exact congrArg some (UInt8.toNat_inj.1 (by have e : (48 : UInt8).toNat = 48 := rfl; omega))⟩)
        have PS : Hid (¬ (1 < n ∧ (r[0].toNat : Int) = 48) → numS ahead.data.toList st = ((v : Int), some (r.data.toList.drop n))) := by
          intro h1
          rw [HE, numP_some (parse_some (fun q => by
            rcases q with q | ⟨q1, q2⟩
            · exact hz q
            · exact h1 ⟨by rw [HN.out]; exact q1, by rw [hd] at q2; have := congrArg UInt8.toNat (Option.some.inj q2); have e : (48 : UInt8).toNat = 48 := rfl; omega⟩) hbig), HV.out, HN.out]
        clear hv hz HE hcut hcs c0 c1 f0 f1 g2 hbl hint hbig hd hw2 fin HV
        by_cases h1 : 1 < (n : Int)
        · by_cases h2 : (r[0].toNat : Int) = 48
          · go_wp2_with fail
            go_ret
            obtain ⟨⟨k1, k2⟩, k3⟩ := F.out (PN.out (by omega) h2)
            exact ⟨ret_int (by rw [k3]), ⟨r, true, k1, hs, by rw [k3]; rfl⟩, k2⟩
          · go_wp2_with fail
            go_ret
            obtain ⟨k1, k2⟩ := RB.out.setRest (r.extract n r.size)
            have k3 := PS.out (fun q => h2 q.2)
            exact ⟨ret_int (by rw [k3]), ⟨_, false, k1, Nat.le_trans (cut_size r n) hs, by rw [k3]; show some _ = some _; rw [cut_rest]⟩, OB.out.same k2⟩
        · go_wp2_with fail
          go_ret
          obtain ⟨k1, k2⟩ := RB.out.setRest (r.extract n r.size)
          have k3 := PS.out (fun q => by have := q.1; omega)
          exact ⟨ret_int (by rw [k3]), ⟨_, false, k1, Nat.le_trans (cut_size r n) hs, by rw [k3]; show some _ = some _; rw [cut_rest]⟩, OB.out.same k2⟩
      · rw [if_neg hbig] at hint
        obtain ⟨tp, p, hv⟩ := hE1.out.2.2.1
        refine (Tryz.strconv_ParseInt_10_at64_range_var _ hcs (by rw [hcut]; exact hint) tp p _ hv).mono ?_
        rintro e w2 ⟨N, rfl, -, -, g2⟩
        obtain ⟨c0', c1', f0', f1'⟩ := (RA.out.below g2).cells
        have F : Hid _ := fin.out w2 g2 (parse_big hbig)
        have hbl' := (RA.out.below g2).lt
        clear hv hz HE hcut hcs c0 c1 f0 f1 g2 hbl hint hbig
        go_wp2_with fail
        go_ret
        obtain ⟨⟨h1, h2⟩, h3⟩ := F.out
        exact ⟨ret_int (by rw [h3]), ⟨r, true, h1, hs, by rw [h3]; rfl⟩, h2⟩
  · go_wp2_with fail
    go_ret
    have e := num_bad HT.out
    exact ⟨ret_int (by rw [e]), ⟨r, true, RA.out, hs, by rw [e]; rfl⟩, O1.out⟩
end Go.Proofs.YtakdliecjfeedaaGreatDoor
