/- Texts: numbers in base 10; what stands ahead of them; both ways. -/
import Derived.Test.YtakdliecjfeedaaGreatDoorSpec
namespace Go.Proofs.YtakdliecjfeedaaGreatDoor
open Go Go.RowKit

def isDig (b : UInt8) : Bool := decide (48 ≤ b.toNat) && decide (b.toNat ≤ 57)
def digs (l : List UInt8) : List UInt8 := l.takeWhile isDig
def valOf (acc : Nat) (l : List UInt8) : Nat := l.foldl (fun a c => a * 10 + (c.toNat - 48)) acc
def noDig (l : List UInt8) : Prop := ∀ b, l.head? = some b → isDig b = false
theorem isDig_iff {b : UInt8} : isDig b = true ↔ 48 ≤ b.toNat ∧ b.toNat ≤ 57 := by simp [isDig]

theorem valOf_nil (acc : Nat) : valOf acc [] = acc := by unfold valOf; rw [List.foldl_nil]
theorem valOf_cons (acc : Nat) (c : UInt8) (r : List UInt8) : valOf acc (c :: r) = valOf (acc * 10 + (c.toNat - 48)) r := by unfold valOf; rw [List.foldl_cons]
theorem valOf_ge (l : List UInt8) : ∀ acc, acc ≤ valOf acc l := by
  induction l with
  | nil => intro acc; rw [valOf_nil]; exact Nat.le_refl _
  | cons c r ih => intro acc; have := ih (acc * 10 + (c.toNat - 48)); rw [valOf_cons]; omega
theorem valOf_snoc (l : List UInt8) (c : UInt8) : ∀ acc, valOf acc (l ++ [c]) = valOf acc l * 10 + (c.toNat - 48) := by
  induction l with
  | nil => intro acc; rw [List.nil_append, valOf_cons, valOf_nil, valOf_nil]
  | cons d r ih => intro acc; rw [List.cons_append, valOf_cons, valOf_cons]; exact ih _

theorem dec_step (u : Nat) : Lib.decDigits u = if u < 10 then [UInt8.ofNat (48 + u)] else Lib.decDigits (u / 10) ++ [UInt8.ofNat (48 + u % 10)] := by
  rw [Lib.decDigits]
  split <;> rfl
theorem toNat_dig {k : Nat} (h : k < 10) : (UInt8.ofNat (48 + k)).toNat = 48 + k := by
  rw [UInt8.toNat_ofNat']; omega
theorem dec_dig (u : Nat) : ∀ b ∈ Lib.decDigits u, isDig b = true := by
  induction u using Nat.strongRecOn with
  | ind u ih =>
    rw [dec_step]
    split
    · intro b hb
      simp only [List.mem_singleton] at hb
      subst hb
      rw [isDig_iff, toNat_dig (by assumption)]
      omega
    · intro b hb
      simp only [List.mem_append, List.mem_singleton] at hb
      rcases hb with hb | rfl
      · exact ih (u / 10) (by omega) b hb
      · rw [isDig_iff, toNat_dig (by omega)]
        omega
theorem dec_ne (u : Nat) : Lib.decDigits u ≠ [] := by
  rw [dec_step]
  split <;> simp
theorem dec_val (u : Nat) : valOf 0 (Lib.decDigits u) = u := by
  induction u using Nat.strongRecOn with
  | ind u ih =>
    rw [dec_step]
    split
    · rw [valOf_cons, valOf_nil, toNat_dig (by assumption)]
      omega
    · rw [valOf_snoc, ih (u / 10) (by omega), toNat_dig (by omega)]
      omega
theorem dec_head (u : Nat) : (Lib.decDigits u).head? = some 48 → u = 0 := by
  induction u using Nat.strongRecOn with
  | ind u ih =>
    rw [dec_step]
    split
    · intro h
      simp only [List.head?_cons, Option.some.injEq] at h
      have := congrArg UInt8.toNat h
      rw [toNat_dig (by assumption)] at this
      have e : (48 : UInt8).toNat = 48 := rfl
      omega
    · intro h
      obtain ⟨a, r, e⟩ := List.exists_cons_of_ne_nil (dec_ne (u / 10))
      have := ih (u / 10) (by omega) (by rw [e] at h ⊢; simpa using h)
      omega
theorem dec_one (u : Nat) (h : 1 < (Lib.decDigits u).length) : (Lib.decDigits u).head? ≠ some 48 := by
  intro e
  have := dec_head u e
  subst this
  rw [dec_step] at h
  simp at h
theorem ofNat_toNat (c : UInt8) {k : Nat} (h : c.toNat = k) : UInt8.ofNat k = c := by
  subst h; exact UInt8.ofNat_toNat
theorem dec_of (n : Nat) : ∀ ds : List UInt8, ds.length = n → (∀ b ∈ ds, isDig b = true) → ds ≠ [] → ¬ (1 < ds.length ∧ ds.head? = some 48) → Lib.decDigits (valOf 0 ds) = ds := by
  induction n with
  | zero => intro ds h _ hne _; exact absurd (List.length_eq_zero_iff.1 h) hne
  | succ n ih =>
    intro ds hlen hd hne hz
    obtain ⟨l, c, rfl⟩ : ∃ l c, ds = l ++ [c] := ⟨ds.dropLast, ds.getLast hne, (List.dropLast_concat_getLast hne).symm⟩
    have hc := isDig_iff.1 (hd c (by simp))
    rw [valOf_snoc]
    cases l with
    | nil =>
      rw [valOf_nil, dec_step, if_pos (by omega), ofNat_toNat c (by omega)]
      rfl
    | cons a r =>
      have ha : a ≠ 48 := by
        intro e
        subst e
        exact hz ⟨by simp, rfl⟩
      have hda := isDig_iff.1 (hd a (by simp))
      have ha' : a.toNat ≠ 48 := fun e => ha (UInt8.toNat_inj.1 (by rw [e]; rfl))
      have hv : 1 ≤ valOf 0 (a :: r) := by
        have := valOf_ge r (0 * 10 + (a.toNat - 48))
        rw [valOf_cons]
        omega
      have e := ih (a :: r) (by simpa using hlen) (fun b hb => hd b (List.mem_append_left _ hb)) (by simp) (fun h => ha (by simpa using h.2))
      rw [dec_step, if_neg (by omega)]
      rw [show (valOf 0 (a :: r) * 10 + (c.toNat - 48)) / 10 = valOf 0 (a :: r) by omega, e]
      rw [show (valOf 0 (a :: r) * 10 + (c.toNat - 48)) % 10 = c.toNat - 48 by omega]
      rw [ofNat_toNat c (by omega)]

theorem dig_split (l : List UInt8) : l = digs l ++ l.drop (digs l).length ∧ noDig (l.drop (digs l).length) ∧ ∀ b ∈ digs l, isDig b = true := by
  induction l with
  | nil => exact ⟨rfl, by intro b hb; simp [digs] at hb, by intro b hb; simp [digs] at hb⟩
  | cons a r ih =>
    cases h : isDig a
    · have e : digs (a :: r) = [] := by simp [digs, h]
      rw [e]
      exact ⟨rfl, by intro b hb; simp at hb; subst hb; exact h, by intro b hb; simp at hb⟩
    · have e : digs (a :: r) = a :: digs r := by simp [digs, h]
      rw [e]
      refine ⟨by simp only [List.length_cons, List.drop_succ_cons, List.cons_append, List.cons.injEq, true_and]; exact ih.1, by simpa using ih.2.1, ?_⟩
      intro b hb
      simp only [List.mem_cons] at hb
      rcases hb with rfl | hb
      · exact h
      · exact ih.2.2 b hb
theorem digs_app {d r : List UInt8} (hd : ∀ b ∈ d, isDig b = true) (hr : noDig r) : digs (d ++ r) = d := by
  induction d with
  | nil =>
    cases r with
    | nil => rfl
    | cons a t => have := hr a rfl; simp [digs, this]
  | cons a t ih =>
    have h := hd a (by simp)
    have := ih (fun b hb => hd b (by simp [hb]))
    simp only [digs] at this
    simp [digs, h, this]

def parseNum (l : List UInt8) : Option (Int × List UInt8) :=
  if digs l = [] ∨ (1 < (digs l).length ∧ (digs l).head? = some 48) then none
  else if valOf 0 (digs l) < 9223372036854775808 then some (valOf 0 (digs l), l.drop (digs l).length) else none
theorem parseNum_iff {l : List UInt8} {v : Int} {r : List UInt8} : parseNum l = some (v, r) ↔ 0 ≤ v ∧ v < 9223372036854775808 ∧ l = Lib.decDigits v.toNat ++ r ∧ noDig r := by
  unfold parseNum
  constructor
  · intro h
    split at h
    · simp at h
    · split at h
      · rename_i h1 h2
        simp only [Option.some.injEq, Prod.mk.injEq] at h
        obtain ⟨rfl, rfl⟩ := h
        obtain ⟨e, hn, hd⟩ := dig_split l
        refine ⟨by omega, by omega, ?_, hn⟩
        rw [Int.toNat_natCast, dec_of _ (digs l) rfl hd (fun e => h1 (.inl e)) (fun e => h1 (.inr e))]
        exact e
      · simp at h
  · rintro ⟨h0, h1, rfl, hn⟩
    have e := digs_app (dec_dig v.toNat) hn
    rw [e, if_neg, if_pos (by rw [dec_val]; omega), dec_val]
    · simp; omega
    · rintro (h | ⟨h, h2⟩)
      · exact dec_ne _ h
      · exact dec_one _ h h2

/-- What strconv makes of digits. -/
theorem uint_digs (ds : List UInt8) : ∀ acc, acc ≤ 18446744073709551615 → (∀ b ∈ ds, isDig b = true) → Lib.parseUintM 18446744073709551615 acc ds = if valOf acc ds ≤ 18446744073709551615 then .ok (valOf acc ds) else .range := by
  induction ds with
  | nil => intro acc ha _; rw [valOf_nil, if_pos ha]; rfl
  | cons c r ih =>
    intro acc ha hd
    have hc := isDig_iff.1 (hd c (by simp))
    have hge := valOf_ge r (acc * 10 + (c.toNat - 48))
    rw [valOf_cons]
    simp only [Lib.parseUintM]
    rw [if_pos hc]
    split
    · rw [if_neg (by omega)]
    · split
      · rw [if_neg (by omega)]
      · exact ih _ (by omega) (fun b hb => hd b (by simp [hb]))
theorem int_digs {ds : List UInt8} (hne : ds ≠ []) (hd : ∀ b ∈ ds, isDig b = true) : Lib.parseIntB 64 ds = if valOf 0 ds < 9223372036854775808 then .ok (valOf 0 ds : Nat) else .range := by
  cases ds with
  | nil => exact absurd rfl hne
  | cons c r =>
    have hc := isDig_iff.1 (hd c (by simp))
    rw [Lib.parseIntB_plain 64 c r (by omega) (by omega), Lib.parseUintB, if_neg (by simp)]
    have e : (2 : Nat) ^ 64 - 1 = 18446744073709551615 := by decide
    have e2 : (2 : Nat) ^ (64 - 1) = 9223372036854775808 := by decide
    rw [e, e2, uint_digs _ 0 (by omega) hd]
    by_cases h : valOf 0 (c :: r) ≤ 18446744073709551615
    · rw [if_pos h]
      simp only [Lib.signlessC]
      by_cases h2 : valOf 0 (c :: r) < 9223372036854775808
      · rw [if_pos h2, if_neg (by omega)]
      · rw [if_neg h2, if_pos (by omega)]
    · rw [if_neg h, if_neg (by omega)]
      rfl

def strip (p l : List UInt8) : Option (List UInt8) := if Lib.hasPrefix l p then some (l.drop p.length) else none
theorem strip_iff {p l r : List UInt8} : strip p l = some r ↔ l = p ++ r := by
  unfold strip Lib.hasPrefix
  constructor
  · intro h
    split at h
    · rename_i hp
      obtain ⟨t, rfl⟩ := List.isPrefixOf_iff_prefix.1 hp
      simp at h
      rw [h]
    · simp at h
  · rintro rfl
    rw [if_pos (List.isPrefixOf_iff_prefix.2 ⟨r, rfl⟩)]
    simp
def num (p l : List UInt8) : Option (Int × List UInt8) := (strip p l).bind parseNum
theorem num_iff {p l : List UInt8} {v : Int} {r : List UInt8} : num p l = some (v, r) ↔ 0 ≤ v ∧ v < 9223372036854775808 ∧ l = p ++ (Lib.decDigits v.toNat ++ r) ∧ noDig r := by
  unfold num
  rw [Option.bind_eq_some_iff]
  constructor
  · rintro ⟨q, h1, h2⟩
    rw [strip_iff] at h1
    rw [parseNum_iff] at h2
    subst h1
    obtain ⟨a, b, c, d⟩ := h2
    exact ⟨a, b, by rw [c], d⟩
  · rintro ⟨a, b, c, d⟩
    exact ⟨_, strip_iff.2 c, parseNum_iff.2 ⟨a, b, rfl, d⟩⟩

/-- A reader: none: it is bad. -/
abbrev St := Option (List UInt8)
def numS (p : List UInt8) : St → Int × St
  | none => (0, none)
  | some l => match num p l with
    | none => (0, none)
    | some (v, r) => (v, some r)
def textS (p : List UInt8) : St → St
  | none => none
  | some l => strip p l
def moreS : St → Bool
  | some (_ :: _) => true
  | _ => false
theorem numS_iff {p : List UInt8} {st : St} {v : Int} {r : List UInt8} : numS p st = (v, some r) ↔ ∃ l, st = some l ∧ num p l = some (v, r) := by
  cases st with
  | none => simp [numS]
  | some l =>
    simp only [numS]
    cases h : num p l with
    | none => simp [h]
    | some q => obtain ⟨a, b⟩ := q; simp [h]
theorem moreS_no {st : St} (h : moreS st = false) {l : List UInt8} (e : st = some l) : l = [] := by
  subst e
  cases l with
  | nil => rfl
  | cons a b => simp [moreS] at h
end Go.Proofs.YtakdliecjfeedaaGreatDoor

/- The texts of configurations and tasks: what is read is what was written. -/
namespace Go.Proofs.YtakdliecjfeedaaGreatDoor
open Go Go.RowKit

def kCores : List UInt8 := [99, 111, 114, 101, 115, 32]
def kSyncs : List UInt8 := [32, 115, 121, 110, 99, 115, 32]
def kLag : List UInt8 := [32, 108, 97, 103, 32]
def kMove : List UInt8 := [32, 109, 111, 118, 101, 32]
def kRes : List UInt8 := [32, 114, 101, 115]
def dec (n : Int) : List UInt8 := Lib.decDigits n.toNat
def resT (l : List Int) : List UInt8 := l.flatMap fun x => 32 :: dec x
def resTT (l : List Int) : List UInt8 := if l = [] then [] else kRes ++ resT l
def secT (s : Sec) : List UInt8 := 32 :: (dec s.res ++ (64 :: (dec s.pos ++ (43 :: dec s.len))))
def secsT (l : List Sec) : List UInt8 := l.flatMap secT
def putCfgT (c : Cfg) : List UInt8 := kCores ++ (dec c.cores ++ (kSyncs ++ (dec c.syncs ++ (kLag ++ (dec c.lag ++ (kMove ++ (dec c.move ++ resTT c.res)))))))
def putTskT (t : Tsk) : List UInt8 := dec t.c ++ (47 :: (dec t.d ++ (47 :: (dec t.t ++ secsT t.secs))))

def agentsS : Nat → St → List Int × St
  | 0, st => ([], st)
  | k + 1, st => if moreS st then ((numS [32] st).1 :: (agentsS k (numS [32] st).2).1, (agentsS k (numS [32] st).2).2) else ([], st)
def agentsA (st : St) : List Int × St := ((numS [32] st).1 :: (agentsS 5 (numS [32] st).2).1, (agentsS 5 (numS [32] st).2).2)
def secS (st : St) : Sec × St := (⟨(numS [32] st).1, (numS [64] (numS [32] st).2).1, (numS [43] (numS [64] (numS [32] st).2).2).1⟩, (numS [43] (numS [64] (numS [32] st).2).2).2)
def secsS : Nat → St → List Sec × St
  | 0, st => ([], st)
  | k + 1, st => if moreS st then ((secS st).1 :: (secsS k (secS st).2).1, (secsS k (secS st).2).2) else ([], st)

def cfgS1 (l : List UInt8) : Int × St := numS kCores (some l)
def cfgS2 (l : List UInt8) : Int × St := numS kSyncs (cfgS1 l).2
def cfgS3 (l : List UInt8) : Int × St := numS kLag (cfgS2 l).2
def cfgS4 (l : List UInt8) : Int × St := numS kMove (cfgS3 l).2
def cfgS5 (l : List UInt8) : List Int × St := if moreS (cfgS4 l).2 then agentsA (textS kRes (cfgS4 l).2) else ([], (cfgS4 l).2)
def cfgOf (l : List UInt8) : Cfg := ⟨(cfgS1 l).1, (cfgS2 l).1, (cfgS3 l).1, (cfgS4 l).1, (cfgS5 l).1⟩
def getCfg (l : List UInt8) : Option Cfg := if (cfgS5 l).2 = some [] ∧ cfgB (cfgOf l) = true then some (cfgOf l) else none
def tskS1 (l : List UInt8) : Int × St := numS [] (some l)
def tskS2 (l : List UInt8) : Int × St := numS [47] (tskS1 l).2
def tskS3 (l : List UInt8) : Int × St := numS [47] (tskS2 l).2
def tskS4 (l : List UInt8) : List Sec × St := secsS 2 (tskS3 l).2
def tskOf (l : List UInt8) : Tsk := ⟨(tskS1 l).1, (tskS2 l).1, (tskS3 l).1, (tskS4 l).1⟩
def getTsk (n : Int) (l : List UInt8) : Option Tsk := if (tskS4 l).2 = some [] ∧ tskB n (tskOf l) = true then some (tskOf l) else none

theorem noDig_nil : noDig [] := by intro b hb; simp at hb
theorem noDig_cons {a : UInt8} {r : List UInt8} (h : isDig a = false) : noDig (a :: r) := by intro b hb; simp at hb; subst hb; exact h
theorem noDig_resT (l : List Int) : noDig (resT l) := by
  cases l with
  | nil => exact noDig_nil
  | cons x r => exact noDig_cons (by decide)
theorem noDig_secsT (l : List Sec) : noDig (secsT l) := by
  cases l with
  | nil => exact noDig_nil
  | cons x r => exact noDig_cons (by decide)
theorem noDig_resTT (l : List Int) : noDig (resTT l) := by
  unfold resTT
  split
  · exact noDig_nil
  · exact noDig_cons (by decide)

theorem numS_sound {p : List UInt8} {st : St} {r : List UInt8} (h : (numS p st).2 = some r) : 0 ≤ (numS p st).1 ∧ st = some (p ++ (dec (numS p st).1 ++ r)) := by
  obtain ⟨l, e, hn⟩ := numS_iff.1 (show numS p st = ((numS p st).1, some r) by rw [← h])
  obtain ⟨h0, _, h2, _⟩ := num_iff.1 hn
  exact ⟨h0, e.trans (congrArg some h2)⟩
theorem numS_complete {p : List UInt8} {v : Int} {r : List UInt8} (h0 : 0 ≤ v) (h1 : v < 9223372036854775808) (hr : noDig r) : numS p (some (p ++ (dec v ++ r))) = (v, some r) :=
  numS_iff.2 ⟨_, rfl, num_iff.2 ⟨h0, h1, rfl, hr⟩⟩

theorem agentsS_sound : ∀ (k : Nat) (st : St), (agentsS k st).2 = some [] → st = some (resT (agentsS k st).1) := by
  intro k
  induction k with
  | zero => intro st h; exact h
  | succ k ih =>
    intro st h
    unfold agentsS at h ⊢
    split
    · rename_i hm
      rw [if_pos hm] at h
      have := ih _ h
      obtain ⟨_, e⟩ := numS_sound this
      exact e
    · rename_i hm
      rw [if_neg hm] at h
      exact h
theorem agentsS_complete : ∀ (k : Nat) (vs : List Int), vs.length ≤ k → (∀ v ∈ vs, 0 ≤ v ∧ v < 9223372036854775808) → agentsS k (some (resT vs)) = (vs, some []) := by
  intro k
  induction k with
  | zero =>
    intro vs h _
    have := List.length_eq_zero_iff.1 (Nat.le_zero.1 h)
    subst this
    rfl
  | succ k ih =>
    intro vs h hv
    cases vs with
    | nil => rfl
    | cons v r =>
      have e : numS [32] (some (resT (v :: r))) = (v, some (resT r)) := numS_complete (p := [32]) (hv v (by simp)).1 (hv v (by simp)).2 (noDig_resT r)
      have := ih r (by simpa using h) (fun x hx => hv x (by simp [hx]))
      rw [agentsS, if_pos (show moreS (some (resT (v :: r))) = true from rfl), e]
      simp only [this]
theorem agentsS_len : ∀ (k : Nat) (st : St), (agentsS k st).1.length ≤ k := by
  intro k
  induction k with
  | zero => intro st; exact Nat.le_refl _
  | succ k ih =>
    intro st
    unfold agentsS
    split
    · simp only [List.length_cons]; have := ih (numS [32] st).2; omega
    · simp
theorem secS_sound {st : St} {r : List UInt8} (h : (secS st).2 = some r) : st = some (secT (secS st).1 ++ r) := by
  obtain ⟨_, e3⟩ := numS_sound (p := [43]) h
  obtain ⟨_, e2⟩ := numS_sound (p := [64]) e3
  obtain ⟨_, e1⟩ := numS_sound (p := [32]) e2
  exact e1.trans (congrArg some (by simp only [secT, secS, List.cons_append, List.append_assoc, List.nil_append]))
theorem secS_complete {s : Sec} {r : List UInt8} (h : 0 ≤ s.res ∧ s.res < 9223372036854775808 ∧ 0 ≤ s.pos ∧ s.pos < 9223372036854775808 ∧ 0 ≤ s.len ∧ s.len < 9223372036854775808) (hr : noDig r) : secS (some (secT s ++ r)) = (s, some r) := by
  have e1 : numS [32] (some (secT s ++ r)) = (s.res, some (64 :: (dec s.pos ++ (43 :: (dec s.len ++ r))))) := by
    have := numS_complete (p := [32]) (v := s.res) (r := 64 :: (dec s.pos ++ (43 :: (dec s.len ++ r)))) h.1 h.2.1 (noDig_cons (by decide))
    simp only [secT, List.cons_append, List.append_assoc]
    exact this
  have e2 := numS_complete (p := [64]) (v := s.pos) (r := 43 :: (dec s.len ++ r)) h.2.2.1 h.2.2.2.1 (noDig_cons (by decide))
  have e3 := numS_complete (p := [43]) (v := s.len) (r := r) h.2.2.2.2.1 h.2.2.2.2.2 hr
  simp only [List.cons_append, List.nil_append] at e2 e3
  unfold secS
  rw [e1]
  simp only [e2, e3]
theorem secsS_sound : ∀ (k : Nat) (st : St), (secsS k st).2 = some [] → st = some (secsT (secsS k st).1) := by
  intro k
  induction k with
  | zero => intro st h; exact h
  | succ k ih =>
    intro st h
    unfold secsS at h ⊢
    split
    · rename_i hm
      rw [if_pos hm] at h
      exact secS_sound (ih _ h)
    · rename_i hm
      rw [if_neg hm] at h
      exact h
theorem secsS_complete : ∀ (k : Nat) (vs : List Sec), vs.length ≤ k → (∀ s ∈ vs, 0 ≤ s.res ∧ s.res < 9223372036854775808 ∧ 0 ≤ s.pos ∧ s.pos < 9223372036854775808 ∧ 0 ≤ s.len ∧ s.len < 9223372036854775808) → secsS k (some (secsT vs)) = (vs, some []) := by
  intro k
  induction k with
  | zero =>
    intro vs h _
    have := List.length_eq_zero_iff.1 (Nat.le_zero.1 h)
    subst this
    rfl
  | succ k ih =>
    intro vs h hv
    cases vs with
    | nil => rfl
    | cons v r =>
      have e : secS (some (secsT (v :: r))) = (v, some (secsT r)) := secS_complete (hv v (by simp)) (noDig_secsT r)
      have := ih r (by simpa using h) (fun x hx => hv x (by simp [hx]))
      rw [secsS, if_pos (show moreS (some (secsT (v :: r))) = true from rfl), e]
      simp only [this]
theorem secsS_len : ∀ (k : Nat) (st : St), (secsS k st).1.length ≤ k := by
  intro k
  induction k with
  | zero => intro st; exact Nat.le_refl _
  | succ k ih =>
    intro st
    unfold secsS
    split
    · simp only [List.length_cons]; have := ih (secS st).2; omega
    · simp

theorem cfgB_iff {c : Cfg} : cfgB c = true ↔ (1 ≤ c.cores ∧ c.cores ≤ 6) ∧ (0 ≤ c.syncs ∧ c.syncs ≤ 3) ∧ (0 ≤ c.lag ∧ c.lag ≤ 5) ∧ (0 ≤ c.move ∧ c.move ≤ 5) ∧ c.res.length ≤ 6 ∧ ∀ x ∈ c.res, 0 ≤ x ∧ x < c.syncs := by
  simp only [cfgB, Bool.and_eq_true, inB_iff, resAllB, resB, decide_eq_true_eq, List.all_eq_true, oneOfB_iff]
  constructor
  · rintro ⟨⟨⟨⟨a, b⟩, c⟩, d⟩, e, f⟩; exact ⟨a, b, c, d, e, f⟩
  · rintro ⟨a, b, c, d, e, f⟩; exact ⟨⟨⟨⟨a, b⟩, c⟩, d⟩, e, f⟩
theorem secsB_all {n c : Int} : ∀ (l : List Sec) (lo : Int), 1 ≤ lo → secsB n c lo l = true → ∀ s ∈ l, (0 ≤ s.res ∧ s.res < n) ∧ (1 ≤ s.len ∧ s.len ≤ 200) ∧ 1 ≤ s.pos ∧ s.pos ≤ c - 1 := by
  intro l
  induction l with
  | nil => intro lo _ _ s hs; simp at hs
  | cons x r ih =>
    intro lo hlo h s hs
    simp only [secsB, secB, Bool.and_eq_true, oneOfB_iff, inB_iff] at h
    simp only [List.mem_cons] at hs
    rcases hs with rfl | hs
    · exact ⟨h.1.1.1, h.1.1.2, by omega, h.1.2.2⟩
    · exact ih (x.pos + 1) (by omega) h.2 s hs
theorem tskB_facts {n : Int} {t : Tsk} (h : tskB n t = true) : 1 ≤ t.c ∧ t.c ≤ t.d ∧ t.d ≤ t.t ∧ t.t ≤ 200 ∧ t.secs.length ≤ 2 ∧ ∀ s ∈ t.secs, (0 ≤ s.res ∧ s.res < n) ∧ (1 ≤ s.len ∧ s.len ≤ 200) ∧ 1 ≤ s.pos ∧ s.pos ≤ t.c - 1 := by
  simp only [tskB, timesB, secsAllB, Bool.and_eq_true, inB_iff, decide_eq_true_eq] at h
  exact ⟨h.1.2.1, h.1.2.2, h.1.1.2.2, h.1.1.1.2, h.2.1, secsB_all _ 1 (by omega) h.2.2⟩

theorem resTT_cons (x : Int) (r : List Int) : resTT (x :: r) = kRes ++ ([32] ++ (dec x ++ resT r)) := by
  unfold resTT
  rw [if_neg (by simp)]
  rfl
theorem agentsA_sound (st : St) (h : (agentsA (textS kRes st)).2 = some []) : st = some (resTT (agentsA (textS kRes st)).1) := by
  have a := agentsS_sound _ _ h
  obtain ⟨_, b⟩ := numS_sound a
  cases st with
  | none => simp [textS] at b
  | some q => exact congrArg some ((strip_iff.1 (show strip kRes q = some _ from b)).trans (resTT_cons _ _).symm)
theorem getCfg_iff {l : List UInt8} {c : Cfg} : getCfg l = some c ↔ cfgB c = true ∧ l = putCfgT c := by
  constructor
  · intro h
    unfold getCfg at h
    split at h
    · rename_i hh
      obtain ⟨h5, hb⟩ := hh
      simp only [Option.some.injEq] at h
      rw [← h]
      refine ⟨hb, ?_⟩
      have e4 : (cfgS4 l).2 = some (resTT (cfgS5 l).1) := by
        unfold cfgS5 at h5 ⊢
        split
        · rename_i hm
          rw [if_pos hm] at h5
          exact agentsA_sound _ h5
        · rename_i hm
          rw [if_neg hm] at h5
          exact h5
      obtain ⟨_, e3⟩ := numS_sound (p := kMove) e4
      obtain ⟨_, e2⟩ := numS_sound (p := kLag) e3
      obtain ⟨_, e1⟩ := numS_sound (p := kSyncs) e2
      obtain ⟨_, e0⟩ := numS_sound (p := kCores) e1
      exact Option.some.inj e0
    · simp at h
  · rintro ⟨hb, rfl⟩
    obtain ⟨h1, h2, h3, h4, h5, h6⟩ := cfgB_iff.1 hb
    have e1 : cfgS1 (putCfgT c) = (c.cores, _) := numS_complete (by omega) (by omega) (noDig_cons (by decide))
    have e2 : cfgS2 (putCfgT c) = (c.syncs, some (kLag ++ (dec c.lag ++ (kMove ++ (dec c.move ++ resTT c.res))))) := by unfold cfgS2; rw [e1]; exact numS_complete (by omega) (by omega) (noDig_cons (by decide))
    have e3 : cfgS3 (putCfgT c) = (c.lag, some (kMove ++ (dec c.move ++ resTT c.res))) := by unfold cfgS3; rw [e2]; exact numS_complete (by omega) (by omega) (noDig_cons (by decide))
    have e4 : cfgS4 (putCfgT c) = (c.move, some (resTT c.res)) := by unfold cfgS4; rw [e3]; exact numS_complete (by omega) (by omega) (noDig_resTT _)
    have e5 : cfgS5 (putCfgT c) = (c.res, some []) := by
      unfold cfgS5
      rw [e4]
      cases hr : c.res with
      | nil => rfl
      | cons x r =>
        rw [hr] at h5 h6
        have hm : moreS (some (resTT (x :: r))) = true := rfl
        rw [if_pos hm]
        have ht : textS kRes (some (resTT (x :: r))) = some ([32] ++ (dec x ++ resT r)) := strip_iff.2 rfl
        have hx := h6 x (by simp)
        have hn : numS [32] (some ([32] ++ (dec x ++ resT r))) = (x, some (resT r)) := numS_complete (by omega) (by omega) (noDig_resT r)
        rw [ht]
        unfold agentsA
        rw [hn]
        simp only [agentsS_complete 5 r (by simpa using h5) (fun v hv => by have := h6 v (by simp [hv]); omega)]
    have ec : cfgOf (putCfgT c) = c := by unfold cfgOf; rw [e1, e2, e3, e4, e5]
    unfold getCfg
    rw [ec, e5, if_pos ⟨rfl, hb⟩]
theorem getTsk_iff {n : Int} (hn : n ≤ 1000000) {l : List UInt8} {t : Tsk} : getTsk n l = some t ↔ tskB n t = true ∧ l = putTskT t := by
  constructor
  · intro h
    unfold getTsk at h
    split at h
    · rename_i hh
      obtain ⟨h4, hb⟩ := hh
      simp only [Option.some.injEq] at h
      rw [← h]
      refine ⟨hb, ?_⟩
      have e3 := secsS_sound _ _ h4
      obtain ⟨_, e2⟩ := numS_sound (p := [47]) e3
      obtain ⟨_, e1⟩ := numS_sound (p := [47]) e2
      obtain ⟨_, e0⟩ := numS_sound (p := []) e1
      exact Option.some.inj e0
    · simp at h
  · rintro ⟨hb, rfl⟩
    obtain ⟨h1, h2, h3, h4, h5, h6⟩ := tskB_facts hb
    have e1 : tskS1 (putTskT t) = (t.c, _) := numS_complete (p := []) (by omega) (by omega) (noDig_cons (by decide))
    have e2 : tskS2 (putTskT t) = (t.d, some (47 :: (dec t.t ++ secsT t.secs))) := by unfold tskS2; rw [e1]; exact numS_complete (p := [47]) (by omega) (by omega) (noDig_cons (by decide))
    have e3 : tskS3 (putTskT t) = (t.t, some (secsT t.secs)) := by unfold tskS3; rw [e2]; exact numS_complete (p := [47]) (by omega) (by omega) (noDig_secsT _)
    have e4 : tskS4 (putTskT t) = (t.secs, some []) := by
      unfold tskS4
      rw [e3]
      exact secsS_complete 2 _ h5 (fun s hs => by have := h6 s hs; omega)
    have ec : tskOf (putTskT t) = t := by unfold tskOf; rw [e1, e2, e3, e4]
    unfold getTsk
    rw [ec, e4, if_pos ⟨rfl, hb⟩]
end Go.Proofs.YtakdliecjfeedaaGreatDoor
