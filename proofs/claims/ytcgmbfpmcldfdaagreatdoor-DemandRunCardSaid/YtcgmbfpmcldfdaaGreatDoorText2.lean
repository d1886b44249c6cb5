/- The texts of configurations and tasks: what is read is what was written. -/
import Derived.Test.YtcgmbfpmcldfdaaGreatDoorText
namespace Go.Proofs.YtcgmbfpmcldfdaaGreatDoor
open Go Go.RowKit

def kCores : List UInt8 := [99, 111, 114, 101, 115, 32]
def kSyncs : List UInt8 := [32, 115, 121, 110, 99, 115, 32]
def kLag : List UInt8 := [32, 108, 97, 103, 32]
def kMove : List UInt8 := [32, 109, 111, 118, 101, 32]
def kRes : List UInt8 := [32, 114, 101, 115]
def dec (n : Int) : List UInt8 := Lib.decDigits n.toNat
def resT (l : List Int) : List UInt8 := l.flatMap fun x => 32 :: dec x
def resTT (l : List Int) : List UInt8 := if l = [] then [] else kRes ++ resT l
def secT (s : Sec) : List UInt8 := 32 :: (dec s.res ++ (64 :: (dec s.pos ++ (43 :: dec s.len))))
def secsT (l : List Sec) : List UInt8 := l.flatMap secT
def putCfgT (c : Cfg) : List UInt8 := kCores ++ (dec c.cores ++ (kSyncs ++ (dec c.syncs ++ (kLag ++ (dec c.lag ++ (kMove ++ (dec c.move ++ resTT c.res)))))))
def putTskT (t : Tsk) : List UInt8 := dec t.c ++ (47 :: (dec t.d ++ (47 :: (dec t.t ++ secsT t.secs))))

def agentsS : Nat → St → List Int × St
  | 0, st => ([], st)
  | k + 1, st => if moreS st then ((numS [32] st).1 :: (agentsS k (numS [32] st).2).1, (agentsS k (numS [32] st).2).2) else ([], st)
def agentsA (st : St) : List Int × St := ((numS [32] st).1 :: (agentsS 5 (numS [32] st).2).1, (agentsS 5 (numS [32] st).2).2)
def secS (st : St) : Sec × St := (⟨(numS [32] st).1, (numS [64] (numS [32] st).2).1, (numS [43] (numS [64] (numS [32] st).2).2).1⟩, (numS [43] (numS [64] (numS [32] st).2).2).2)
def secsS : Nat → St → List Sec × St
  | 0, st => ([], st)
  | k + 1, st => if moreS st then ((secS st).1 :: (secsS k (secS st).2).1, (secsS k (secS st).2).2) else ([], st)

def cfgS1 (l : List UInt8) : Int × St := numS kCores (some l)
def cfgS2 (l : List UInt8) : Int × St := numS kSyncs (cfgS1 l).2
def cfgS3 (l : List UInt8) : Int × St := numS kLag (cfgS2 l).2
def cfgS4 (l : List UInt8) : Int × St := numS kMove (cfgS3 l).2
def cfgS5 (l : List UInt8) : List Int × St := if moreS (cfgS4 l).2 then agentsA (textS kRes (cfgS4 l).2) else ([], (cfgS4 l).2)
def cfgOf (l : List UInt8) : Cfg := ⟨(cfgS1 l).1, (cfgS2 l).1, (cfgS3 l).1, (cfgS4 l).1, (cfgS5 l).1⟩
def getCfg (l : List UInt8) : Option Cfg := if (cfgS5 l).2 = some [] ∧ cfgB (cfgOf l) = true then some (cfgOf l) else none
def tskS1 (l : List UInt8) : Int × St := numS [] (some l)
def tskS2 (l : List UInt8) : Int × St := numS [47] (tskS1 l).2
def tskS3 (l : List UInt8) : Int × St := numS [47] (tskS2 l).2
def tskS4 (l : List UInt8) : List Sec × St := secsS 2 (tskS3 l).2
def tskOf (l : List UInt8) : Tsk := ⟨(tskS1 l).1, (tskS2 l).1, (tskS3 l).1, (tskS4 l).1⟩
def getTsk (n : Int) (l : List UInt8) : Option Tsk := if (tskS4 l).2 = some [] ∧ tskB n (tskOf l) = true then some (tskOf l) else none

theorem noDig_nil : noDig [] := by intro b hb; simp at hb
theorem noDig_cons {a : UInt8} {r : List UInt8} (h : isDig a = false) : noDig (a :: r) := by intro b hb; simp at hb; subst hb; exact h
theorem noDig_resT (l : List Int) : noDig (resT l) := by
  cases l with
  | nil => exact noDig_nil
  | cons x r => exact noDig_cons (by decide)
theorem noDig_secsT (l : List Sec) : noDig (secsT l) := by
  cases l with
  | nil => exact noDig_nil
  | cons x r => exact noDig_cons (by decide)
theorem noDig_resTT (l : List Int) : noDig (resTT l) := by
  unfold resTT
  split
  · exact noDig_nil
  · exact noDig_cons (by decide)

theorem numS_sound {p : List UInt8} {st : St} {r : List UInt8} (h : (numS p st).2 = some r) : 0 ≤ (numS p st).1 ∧ st = some (p ++ (dec (numS p st).1 ++ r)) := by
  obtain ⟨l, e, hn⟩ := numS_iff.1 (show numS p st = ((numS p st).1, some r) by rw [← h])
  obtain ⟨h0, _, h2, _⟩ := num_iff.1 hn
  exact ⟨h0, e.trans (congrArg some h2)⟩
theorem numS_complete {p : List UInt8} {v : Int} {r : List UInt8} (h0 : 0 ≤ v) (h1 : v < 9223372036854775808) (hr : noDig r) : numS p (some (p ++ (dec v ++ r))) = (v, some r) :=
  numS_iff.2 ⟨_, rfl, num_iff.2 ⟨h0, h1, rfl, hr⟩⟩

theorem agentsS_sound : ∀ (k : Nat) (st : St), (agentsS k st).2 = some [] → st = some (resT (agentsS k st).1) := by
  intro k
  induction k with
  | zero => intro st h; exact h
  | succ k ih =>
    intro st h
    unfold agentsS at h ⊢
    split
    · rename_i hm
      rw [if_pos hm] at h
      have := ih _ h
      obtain ⟨_, e⟩ := numS_sound this
      exact e
    · rename_i hm
      rw [if_neg hm] at h
      exact h
theorem agentsS_complete : ∀ (k : Nat) (vs : List Int), vs.length ≤ k → (∀ v ∈ vs, 0 ≤ v ∧ v < 9223372036854775808) → agentsS k (some (resT vs)) = (vs, some []) := by
  intro k
  induction k with
  | zero =>
    intro vs h _
    have := List.length_eq_zero_iff.1 (Nat.le_zero.1 h)
    subst this
    rfl
  | succ k ih =>
    intro vs h hv
    cases vs with
    | nil => rfl
    | cons v r =>
      have e : numS [32] (some (resT (v :: r))) = (v, some (resT r)) := numS_complete (p := [32]) (hv v (by simp)).1 (hv v (by simp)).2 (noDig_resT r)
      have := ih r (by simpa using h) (fun x hx => hv x (by simp [hx]))
      rw [agentsS, if_pos (show moreS (some (resT (v :: r))) = true from rfl), e]
      simp only [this]
theorem agentsS_len : ∀ (k : Nat) (st : St), (agentsS k st).1.length ≤ k := by
  intro k
  induction k with
  | zero => intro st; exact Nat.le_refl _
  | succ k ih =>
    intro st
    unfold agentsS
    split
    · simp only [List.length_cons]; have := ih (numS [32] st).2; omega
    · simp
theorem secS_sound {st : St} {r : List UInt8} (h : (secS st).2 = some r) : st = some (secT (secS st).1 ++ r) := by
  obtain ⟨_, e3⟩ := numS_sound (p := [43]) h
  obtain ⟨_, e2⟩ := numS_sound (p := [64]) e3
  obtain ⟨_, e1⟩ := numS_sound (p := [32]) e2
  exact e1.trans (congrArg some (by simp only [secT, secS, List.cons_append, List.append_assoc, List.nil_append]))
theorem secS_complete {s : Sec} {r : List UInt8} (h : 0 ≤ s.res ∧ s.res < 9223372036854775808 ∧ 0 ≤ s.pos ∧ s.pos < 9223372036854775808 ∧ 0 ≤ s.len ∧ s.len < 9223372036854775808) (hr : noDig r) : secS (some (secT s ++ r)) = (s, some r) := by
  have e1 : numS [32] (some (secT s ++ r)) = (s.res, some (64 :: (dec s.pos ++ (43 :: (dec s.len ++ r))))) := by
    have := numS_complete (p := [32]) (v := s.res) (r := 64 :: (dec s.pos ++ (43 :: (dec s.len ++ r)))) h.1 h.2.1 (noDig_cons (by decide))
    simp only [secT, List.cons_append, List.append_assoc]
    exact this
  have e2 := numS_complete (p := [64]) (v := s.pos) (r := 43 :: (dec s.len ++ r)) h.2.2.1 h.2.2.2.1 (noDig_cons (by decide))
  have e3 := numS_complete (p := [43]) (v := s.len) (r := r) h.2.2.2.2.1 h.2.2.2.2.2 hr
  simp only [List.cons_append, List.nil_append] at e2 e3
  unfold secS
  rw [e1]
  simp only [e2, e3]
theorem secsS_sound : ∀ (k : Nat) (st : St), (secsS k st).2 = some [] → st = some (secsT (secsS k st).1) := by
  intro k
  induction k with
  | zero => intro st h; exact h
  | succ k ih =>
    intro st h
    unfold secsS at h ⊢
    split
    · rename_i hm
      rw [if_pos hm] at h
      exact secS_sound (ih _ h)
    · rename_i hm
      rw [if_neg hm] at h
      exact h
theorem secsS_complete : ∀ (k : Nat) (vs : List Sec), vs.length ≤ k → (∀ s ∈ vs, 0 ≤ s.res ∧ s.res < 9223372036854775808 ∧ 0 ≤ s.pos ∧ s.pos < 9223372036854775808 ∧ 0 ≤ s.len ∧ s.len < 9223372036854775808) → secsS k (some (secsT vs)) = (vs, some []) := by
  intro k
  induction k with
  | zero =>
    intro vs h _
    have := List.length_eq_zero_iff.1 (Nat.le_zero.1 h)
    subst this
    rfl
  | succ k ih =>
    intro vs h hv
    cases vs with
    | nil => rfl
    | cons v r =>
      have e : secS (some (secsT (v :: r))) = (v, some (secsT r)) := secS_complete (hv v (by simp)) (noDig_secsT r)
      have := ih r (by simpa using h) (fun x hx => hv x (by simp [hx]))
      rw [secsS, if_pos (show moreS (some (secsT (v :: r))) = true from rfl), e]
      simp only [this]
theorem secsS_len : ∀ (k : Nat) (st : St), (secsS k st).1.length ≤ k := by
  intro k
  induction k with
  | zero => intro st; exact Nat.le_refl _
  | succ k ih =>
    intro st
    unfold secsS
    split
    · simp only [List.length_cons]; have := ih (secS st).2; omega
    · simp

theorem cfgB_iff {c : Cfg} : cfgB c = true ↔ (1 ≤ c.cores ∧ c.cores ≤ 6) ∧ (0 ≤ c.syncs ∧ c.syncs ≤ 3) ∧ (0 ≤ c.lag ∧ c.lag ≤ 5) ∧ (0 ≤ c.move ∧ c.move ≤ 5) ∧ c.res.length ≤ 6 ∧ ∀ x ∈ c.res, 0 ≤ x ∧ x < c.syncs := by
  simp only [cfgB, Bool.and_eq_true, inB_iff, resAllB, resB, decide_eq_true_eq, List.all_eq_true, oneOfB_iff]
  constructor
  · rintro ⟨⟨⟨⟨a, b⟩, c⟩, d⟩, e, f⟩; exact ⟨a, b, c, d, e, f⟩
  · rintro ⟨a, b, c, d, e, f⟩; exact ⟨⟨⟨⟨a, b⟩, c⟩, d⟩, e, f⟩
theorem secsB_all {n c : Int} : ∀ (l : List Sec) (lo : Int), 1 ≤ lo → secsB n c lo l = true → ∀ s ∈ l, (0 ≤ s.res ∧ s.res < n) ∧ (1 ≤ s.len ∧ s.len ≤ 200) ∧ 1 ≤ s.pos ∧ s.pos ≤ c - 1 := by
  intro l
  induction l with
  | nil => intro lo _ _ s hs; simp at hs
  | cons x r ih =>
    intro lo hlo h s hs
    simp only [secsB, secB, Bool.and_eq_true, oneOfB_iff, inB_iff] at h
    simp only [List.mem_cons] at hs
    rcases hs with rfl | hs
    · exact ⟨h.1.1.1, h.1.1.2, by omega, h.1.2.2⟩
    · exact ih (x.pos + 1) (by omega) h.2 s hs
theorem tskB_facts {n : Int} {t : Tsk} (h : tskB n t = true) : 1 ≤ t.c ∧ t.c ≤ t.d ∧ t.d ≤ t.t ∧ t.t ≤ 200 ∧ t.secs.length ≤ 2 ∧ ∀ s ∈ t.secs, (0 ≤ s.res ∧ s.res < n) ∧ (1 ≤ s.len ∧ s.len ≤ 200) ∧ 1 ≤ s.pos ∧ s.pos ≤ t.c - 1 := by
  simp only [tskB, timesB, secsAllB, Bool.and_eq_true, inB_iff, decide_eq_true_eq] at h
  exact ⟨h.1.2.1, h.1.2.2, h.1.1.2.2, h.1.1.1.2, h.2.1, secsB_all _ 1 (by omega) h.2.2⟩

theorem resTT_cons (x : Int) (r : List Int) : resTT (x :: r) = kRes ++ ([32] ++ (dec x ++ resT r)) := by
  unfold resTT
  rw [if_neg (by simp)]
  rfl
theorem agentsA_sound (st : St) (h : (agentsA (textS kRes st)).2 = some []) : st = some (resTT (agentsA (textS kRes st)).1) := by
  have a := agentsS_sound _ _ h
  obtain ⟨_, b⟩ := numS_sound a
  cases st with
  | none => simp [textS] at b
  | some q => exact congrArg some ((strip_iff.1 (show strip kRes q = some _ from b)).trans (resTT_cons _ _).symm)
theorem getCfg_iff {l : List UInt8} {c : Cfg} : getCfg l = some c ↔ cfgB c = true ∧ l = putCfgT c := by
  constructor
  · intro h
    unfold getCfg at h
    split at h
    · rename_i hh
      obtain ⟨h5, hb⟩ := hh
      simp only [Option.some.injEq] at h
      rw [← h]
      refine ⟨hb, ?_⟩
      have e4 : (cfgS4 l).2 = some (resTT (cfgS5 l).1) := by
        unfold cfgS5 at h5 ⊢
        split
        · rename_i hm
          rw [if_pos hm] at h5
          exact agentsA_sound _ h5
        · rename_i hm
          rw [if_neg hm] at h5
          exact h5
      obtain ⟨_, e3⟩ := numS_sound (p := kMove) e4
      obtain ⟨_, e2⟩ := numS_sound (p := kLag) e3
      obtain ⟨_, e1⟩ := numS_sound (p := kSyncs) e2
      obtain ⟨_, e0⟩ := numS_sound (p := kCores) e1
      exact Option.some.inj e0
    · simp at h
  · rintro ⟨hb, rfl⟩
    obtain ⟨h1, h2, h3, h4, h5, h6⟩ := cfgB_iff.1 hb
    have e1 : cfgS1 (putCfgT c) = (c.cores, _) := numS_complete (by omega) (by omega) (noDig_cons (by decide))
    have e2 : cfgS2 (putCfgT c) = (c.syncs, some (kLag ++ (dec c.lag ++ (kMove ++ (dec c.move ++ resTT c.res))))) := by unfold cfgS2; rw [e1]; exact numS_complete (by omega) (by omega) (noDig_cons (by decide))
    have e3 : cfgS3 (putCfgT c) = (c.lag, some (kMove ++ (dec c.move ++ resTT c.res))) := by unfold cfgS3; rw [e2]; exact numS_complete (by omega) (by omega) (noDig_cons (by decide))
    have e4 : cfgS4 (putCfgT c) = (c.move, some (resTT c.res)) := by unfold cfgS4; rw [e3]; exact numS_complete (by omega) (by omega) (noDig_resTT _)
    have e5 : cfgS5 (putCfgT c) = (c.res, some []) := by
      unfold cfgS5
      rw [e4]
      cases hr : c.res with
      | nil => rfl
      | cons x r =>
        rw [hr] at h5 h6
        have hm : moreS (some (resTT (x :: r))) = true := rfl
        rw [if_pos hm]
        have ht : textS kRes (some (resTT (x :: r))) = some ([32] ++ (dec x ++ resT r)) := strip_iff.2 rfl
        have hx := h6 x (by simp)
        have hn : numS [32] (some ([32] ++ (dec x ++ resT r))) = (x, some (resT r)) := numS_complete (by omega) (by omega) (noDig_resT r)
        rw [ht]
        unfold agentsA
        rw [hn]
        simp only [agentsS_complete 5 r (by simpa using h5) (fun v hv => by have := h6 v (by simp [hv]); omega)]
    have ec : cfgOf (putCfgT c) = c := by unfold cfgOf; rw [e1, e2, e3, e4, e5]
    unfold getCfg
    rw [ec, e5, if_pos ⟨rfl, hb⟩]
theorem getTsk_iff {n : Int} (hn : n ≤ 1000000) {l : List UInt8} {t : Tsk} : getTsk n l = some t ↔ tskB n t = true ∧ l = putTskT t := by
  constructor
  · intro h
    unfold getTsk at h
    split at h
    · rename_i hh
      obtain ⟨h4, hb⟩ := hh
      simp only [Option.some.injEq] at h
      rw [← h]
      refine ⟨hb, ?_⟩
      have e3 := secsS_sound _ _ h4
      obtain ⟨_, e2⟩ := numS_sound (p := [47]) e3
      obtain ⟨_, e1⟩ := numS_sound (p := [47]) e2
      obtain ⟨_, e0⟩ := numS_sound (p := []) e1
      exact Option.some.inj e0
    · simp at h
  · rintro ⟨hb, rfl⟩
    obtain ⟨h1, h2, h3, h4, h5, h6⟩ := tskB_facts hb
    have e1 : tskS1 (putTskT t) = (t.c, _) := numS_complete (p := []) (by omega) (by omega) (noDig_cons (by decide))
    have e2 : tskS2 (putTskT t) = (t.d, some (47 :: (dec t.t ++ secsT t.secs))) := by unfold tskS2; rw [e1]; exact numS_complete (p := [47]) (by omega) (by omega) (noDig_cons (by decide))
    have e3 : tskS3 (putTskT t) = (t.t, some (secsT t.secs)) := by unfold tskS3; rw [e2]; exact numS_complete (p := [47]) (by omega) (by omega) (noDig_secsT _)
    have e4 : tskS4 (putTskT t) = (t.secs, some []) := by
      unfold tskS4
      rw [e3]
      exact secsS_complete 2 _ h5 (fun s hs => by have := h6 s hs; omega)
    have ec : tskOf (putTskT t) = t := by unfold tskOf; rw [e1, e2, e3, e4]
    unfold getTsk
    rw [ec, e4, if_pos ⟨rfl, hb⟩]
end Go.Proofs.YtcgmbfpmcldfdaaGreatDoor
