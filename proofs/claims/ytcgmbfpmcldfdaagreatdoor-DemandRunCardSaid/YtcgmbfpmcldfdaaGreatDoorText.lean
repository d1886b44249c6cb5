/- Texts: numbers in base 10; what stands ahead of them; both ways. -/
import Derived.Test.YtcgmbfpmcldfdaaGreatDoorSpec
namespace Go.Proofs.YtcgmbfpmcldfdaaGreatDoor
open Go Go.RowKit

def isDig (b : UInt8) : Bool := decide (48 ≤ b.toNat) && decide (b.toNat ≤ 57)
def digs (l : List UInt8) : List UInt8 := l.takeWhile isDig
def valOf (acc : Nat) (l : List UInt8) : Nat := l.foldl (fun a c => a * 10 + (c.toNat - 48)) acc
def noDig (l : List UInt8) : Prop := ∀ b, l.head? = some b → isDig b = false
theorem isDig_iff {b : UInt8} : isDig b = true ↔ 48 ≤ b.toNat ∧ b.toNat ≤ 57 := by simp [isDig]

theorem valOf_nil (acc : Nat) : valOf acc [] = acc := by unfold valOf; rw [List.foldl_nil]
theorem valOf_cons (acc : Nat) (c : UInt8) (r : List UInt8) : valOf acc (c :: r) = valOf (acc * 10 + (c.toNat - 48)) r := by unfold valOf; rw [List.foldl_cons]
theorem valOf_ge (l : List UInt8) : ∀ acc, acc ≤ valOf acc l := by
  induction l with
  | nil => intro acc; rw [valOf_nil]; exact Nat.le_refl _
  | cons c r ih => intro acc; have := ih (acc * 10 + (c.toNat - 48)); rw [valOf_cons]; omega
theorem valOf_snoc (l : List UInt8) (c : UInt8) : ∀ acc, valOf acc (l ++ [c]) = valOf acc l * 10 + (c.toNat - 48) := by
  induction l with
  | nil => intro acc; rw [List.nil_append, valOf_cons, valOf_nil, valOf_nil]
  | cons d r ih => intro acc; rw [List.cons_append, valOf_cons, valOf_cons]; exact ih _

theorem dec_step (u : Nat) : Lib.decDigits u = if u < 10 then [UInt8.ofNat (48 + u)] else Lib.decDigits (u / 10) ++ [UInt8.ofNat (48 + u % 10)] := by
  rw [Lib.decDigits]
  split <;> rfl
theorem toNat_dig {k : Nat} (h : k < 10) : (UInt8.ofNat (48 + k)).toNat = 48 + k := by
  rw [UInt8.toNat_ofNat']; omega
theorem dec_dig (u : Nat) : ∀ b ∈ Lib.decDigits u, isDig b = true := by
  induction u using Nat.strongRecOn with
  | ind u ih =>
    rw [dec_step]
    split
    · intro b hb
      simp only [List.mem_singleton] at hb
      subst hb
      rw [isDig_iff, toNat_dig (by assumption)]
      omega
    · intro b hb
      simp only [List.mem_append, List.mem_singleton] at hb
      rcases hb with hb | rfl
      · exact ih (u / 10) (by omega) b hb
      · rw [isDig_iff, toNat_dig (by omega)]
        omega
theorem dec_ne (u : Nat) : Lib.decDigits u ≠ [] := by
  rw [dec_step]
  split <;> simp
theorem dec_val (u : Nat) : valOf 0 (Lib.decDigits u) = u := by
  induction u using Nat.strongRecOn with
  | ind u ih =>
    rw [dec_step]
    split
    · rw [valOf_cons, valOf_nil, toNat_dig (by assumption)]
      omega
    · rw [valOf_snoc, ih (u / 10) (by omega), toNat_dig (by omega)]
      omega
theorem dec_head (u : Nat) : (Lib.decDigits u).head? = some 48 → u = 0 := by
  induction u using Nat.strongRecOn with
  | ind u ih =>
    rw [dec_step]
    split
    · intro h
      simp only [List.head?_cons, Option.some.injEq] at h
      have := congrArg UInt8.toNat h
      rw [toNat_dig (by assumption)] at this
      have e : (48 : UInt8).toNat = 48 := rfl
      omega
    · intro h
      obtain ⟨a, r, e⟩ := List.exists_cons_of_ne_nil (dec_ne (u / 10))
      have := ih (u / 10) (by omega) (by rw [e] at h ⊢; simpa using h)
      omega
theorem dec_one (u : Nat) (h : 1 < (Lib.decDigits u).length) : (Lib.decDigits u).head? ≠ some 48 := by
  intro e
  have := dec_head u e
  subst this
  rw [dec_step] at h
  simp at h
theorem ofNat_toNat (c : UInt8) {k : Nat} (h : c.toNat = k) : UInt8.ofNat k = c := by
  subst h; exact UInt8.ofNat_toNat
theorem dec_of (n : Nat) : ∀ ds : List UInt8, ds.length = n → (∀ b ∈ ds, isDig b = true) → ds ≠ [] → ¬ (1 < ds.length ∧ ds.head? = some 48) → Lib.decDigits (valOf 0 ds) = ds := by
  induction n with
  | zero => intro ds h _ hne _; exact absurd (List.length_eq_zero_iff.1 h) hne
  | succ n ih =>
    intro ds hlen hd hne hz
    obtain ⟨l, c, rfl⟩ : ∃ l c, ds = l ++ [c] := ⟨ds.dropLast, ds.getLast hne, (List.dropLast_concat_getLast hne).symm⟩
    have hc := isDig_iff.1 (hd c (by simp))
    rw [valOf_snoc]
    cases l with
    | nil =>
      rw [valOf_nil, dec_step, if_pos (by omega), ofNat_toNat c (by omega)]
      rfl
    | cons a r =>
      have ha : a ≠ 48 := by
        intro e
        subst e
        exact hz ⟨by simp, rfl⟩
      have hda := isDig_iff.1 (hd a (by simp))
      have ha' : a.toNat ≠ 48 := fun e => ha (UInt8.toNat_inj.1 (by rw [e]; rfl))
      have hv : 1 ≤ valOf 0 (a :: r) := by
        have := valOf_ge r (0 * 10 + (a.toNat - 48))
        rw [valOf_cons]
        omega
      have e := ih (a :: r) (by simpa using hlen) (fun b hb => hd b (List.mem_append_left _ hb)) (by simp) (fun h => ha (by simpa using h.2))
      rw [dec_step, if_neg (by omega)]
      rw [show (valOf 0 (a :: r) * 10 + (c.toNat - 48)) / 10 = valOf 0 (a :: r) by omega, e]
      rw [show (valOf 0 (a :: r) * 10 + (c.toNat - 48)) % 10 = c.toNat - 48 by omega]
      rw [ofNat_toNat c (by omega)]

theorem dig_split (l : List UInt8) : l = digs l ++ l.drop (digs l).length ∧ noDig (l.drop (digs l).length) ∧ ∀ b ∈ digs l, isDig b = true := by
  induction l with
  | nil => exact ⟨rfl, by intro b hb; simp [digs] at hb, by intro b hb; simp [digs] at hb⟩
  | cons a r ih =>
    cases h : isDig a
    · have e : digs (a :: r) = [] := by simp [digs, h]
      rw [e]
      exact ⟨rfl, by intro b hb; simp at hb; subst hb; exact h, by intro b hb; simp at hb⟩
    · have e : digs (a :: r) = a :: digs r := by simp [digs, h]
      rw [e]
      refine ⟨by simp only [List.length_cons, List.drop_succ_cons, List.cons_append, List.cons.injEq, true_and]; exact ih.1, by simpa using ih.2.1, ?_⟩
      intro b hb
      simp only [List.mem_cons] at hb
      rcases hb with rfl | hb
      · exact h
      · exact ih.2.2 b hb
theorem digs_app {d r : List UInt8} (hd : ∀ b ∈ d, isDig b = true) (hr : noDig r) : digs (d ++ r) = d := by
  induction d with
  | nil =>
    cases r with
    | nil => rfl
    | cons a t => have := hr a rfl; simp [digs, this]
  | cons a t ih =>
    have h := hd a (by simp)
    have := ih (fun b hb => hd b (by simp [hb]))
    simp only [digs] at this
    simp [digs, h, this]

def parseNum (l : List UInt8) : Option (Int × List UInt8) :=
  if digs l = [] ∨ (1 < (digs l).length ∧ (digs l).head? = some 48) then none
  else if valOf 0 (digs l) < 9223372036854775808 then some (valOf 0 (digs l), l.drop (digs l).length) else none
theorem parseNum_iff {l : List UInt8} {v : Int} {r : List UInt8} : parseNum l = some (v, r) ↔ 0 ≤ v ∧ v < 9223372036854775808 ∧ l = Lib.decDigits v.toNat ++ r ∧ noDig r := by
  unfold parseNum
  constructor
  · intro h
    split at h
    · simp at h
    · split at h
      · rename_i h1 h2
        simp only [Option.some.injEq, Prod.mk.injEq] at h
        obtain ⟨rfl, rfl⟩ := h
        obtain ⟨e, hn, hd⟩ := dig_split l
        refine ⟨by omega, by omega, ?_, hn⟩
        rw [Int.toNat_natCast, dec_of _ (digs l) rfl hd (fun e => h1 (.inl e)) (fun e => h1 (.inr e))]
        exact e
      · simp at h
  · rintro ⟨h0, h1, rfl, hn⟩
    have e := digs_app (dec_dig v.toNat) hn
    rw [e, if_neg, if_pos (by rw [dec_val]; omega), dec_val]
    · simp; omega
    · rintro (h | ⟨h, h2⟩)
      · exact dec_ne _ h
      · exact dec_one _ h h2

/-- What strconv makes of digits. -/
theorem uint_digs (ds : List UInt8) : ∀ acc, acc ≤ 18446744073709551615 → (∀ b ∈ ds, isDig b = true) → Lib.parseUintM 18446744073709551615 acc ds = if valOf acc ds ≤ 18446744073709551615 then .ok (valOf acc ds) else .range := by
  induction ds with
  | nil => intro acc ha _; rw [valOf_nil, if_pos ha]; rfl
  | cons c r ih =>
    intro acc ha hd
    have hc := isDig_iff.1 (hd c (by simp))
    have hge := valOf_ge r (acc * 10 + (c.toNat - 48))
    rw [valOf_cons]
    simp only [Lib.parseUintM]
    rw [if_pos hc]
    split
    · rw [if_neg (by omega)]
    · split
      · rw [if_neg (by omega)]
      · exact ih _ (by omega) (fun b hb => hd b (by simp [hb]))
theorem int_digs {ds : List UInt8} (hne : ds ≠ []) (hd : ∀ b ∈ ds, isDig b = true) : Lib.parseIntB 64 ds = if valOf 0 ds < 9223372036854775808 then .ok (valOf 0 ds : Nat) else .range := by
  cases ds with
  | nil => exact absurd rfl hne
  | cons c r =>
    have hc := isDig_iff.1 (hd c (by simp))
    rw [Lib.parseIntB_plain 64 c r (by omega) (by omega), Lib.parseUintB, if_neg (by simp)]
    have e : (2 : Nat) ^ 64 - 1 = 18446744073709551615 := by decide
    have e2 : (2 : Nat) ^ (64 - 1) = 9223372036854775808 := by decide
    rw [e, e2, uint_digs _ 0 (by omega) hd]
    by_cases h : valOf 0 (c :: r) ≤ 18446744073709551615
    · rw [if_pos h]
      simp only [Lib.signlessC]
      by_cases h2 : valOf 0 (c :: r) < 9223372036854775808
      · rw [if_pos h2, if_neg (by omega)]
      · rw [if_neg h2, if_pos (by omega)]
    · rw [if_neg h, if_neg (by omega)]
      rfl

def strip (p l : List UInt8) : Option (List UInt8) := if Lib.hasPrefix l p then some (l.drop p.length) else none
theorem strip_iff {p l r : List UInt8} : strip p l = some r ↔ l = p ++ r := by
  unfold strip Lib.hasPrefix
  constructor
  · intro h
    split at h
    · rename_i hp
      obtain ⟨t, rfl⟩ := List.isPrefixOf_iff_prefix.1 hp
      simp at h
      rw [h]
    · simp at h
  · rintro rfl
    rw [if_pos (List.isPrefixOf_iff_prefix.2 ⟨r, rfl⟩)]
    simp
def num (p l : List UInt8) : Option (Int × List UInt8) := (strip p l).bind parseNum
theorem num_iff {p l : List UInt8} {v : Int} {r : List UInt8} : num p l = some (v, r) ↔ 0 ≤ v ∧ v < 9223372036854775808 ∧ l = p ++ (Lib.decDigits v.toNat ++ r) ∧ noDig r := by
  unfold num
  rw [Option.bind_eq_some_iff]
  constructor
  · rintro ⟨q, h1, h2⟩
    rw [strip_iff] at h1
    rw [parseNum_iff] at h2
    subst h1
    obtain ⟨a, b, c, d⟩ := h2
    exact ⟨a, b, by rw [c], d⟩
  · rintro ⟨a, b, c, d⟩
    exact ⟨_, strip_iff.2 c, parseNum_iff.2 ⟨a, b, rfl, d⟩⟩

/-- A reader: none: it is bad. -/
abbrev St := Option (List UInt8)
def numS (p : List UInt8) : St → Int × St
  | none => (0, none)
  | some l => match num p l with
    | none => (0, none)
    | some (v, r) => (v, some r)
def textS (p : List UInt8) : St → St
  | none => none
  | some l => strip p l
def moreS : St → Bool
  | some (_ :: _) => true
  | _ => false
theorem numS_iff {p : List UInt8} {st : St} {v : Int} {r : List UInt8} : numS p st = (v, some r) ↔ ∃ l, st = some l ∧ num p l = some (v, r) := by
  cases st with
  | none => simp [numS]
  | some l =>
    simp only [numS]
    cases h : num p l with
    | none => simp [h]
    | some q => obtain ⟨a, b⟩ := q; simp [h]
theorem moreS_no {st : St} (h : moreS st = false) {l : List UInt8} (e : st = some l) : l = [] := by
  subst e
  cases l with
  | nil => rfl
  | cons a b => simp [moreS] at h
end Go.Proofs.YtcgmbfpmcldfdaaGreatDoor
