/- A region that draws its order and ends in stores: what its loads read stands until the stores, the numbers Z, each of which waits, directly or through others, for all that is taken first. -/
import Derived.Test.YtakdliecjfeedaaGreatDoorOwn
import Derived.Deep.RegionHeld3
namespace Go.Proofs.YtakdliecjfeedaaGreatDoor
open Go Go.RowKit
section
variable {P : Program} {md : Region.Mode} {ops : Array Oper} {Q : Exit → Act → World → Prop} {S : World → Prop} {Z : List Nat}
/-- Whichever order is picked: behind each operation but those of Z the condition S stands. -/
def RunsZ (P : Program) (md : Region.Mode) (ops : Array Oper) (Q : Exit → Act → World → Prop) (S : World → Prop) (Z : List Nat) : Nat → Array Bool → Act → World → Prop
  | 0, l, a, w => Region.ready md ops l = [] ∧ Q .normal a w
  | n + 1, l, a, w => (Region.ready md ops l = [] → Q .normal a w) ∧ ∀ i ∈ Region.ready md ops l, wpOp P ops Q i (fun a' w' => (i ∉ Z → S w') ∧ RunsZ P md ops Q S Z n (l.setIfInBounds i true) a' w') a w
theorem RunsZ.any {n : Nat} : ∀ {l : Array Bool} {a : Act} {w : World}, RunsZ P md ops Q S Z n l a w → wpAny P md ops Q n l a w := by
  induction n with
  | zero => intro l a w h; exact h
  | succ n ih => intro l a w h; exact ⟨h.1, fun i hi => wpOp_mono (fun a' w' h' => ih h'.2) (h.2 i hi)⟩
/-- Of what has come up all that it waits for has, too. -/
def Closed (md : Region.Mode) (ops : Array Oper) (l : Array Bool) : Prop := ∀ (j : Nat) (o : Oper), ops[j]? = some o → l[j]? = some true → ∀ e ∈ o.after, Region.binds md e = true → l[e.on]? = some true
/-- z waits for i, in at most f steps. -/
def waitsB (md : Region.Mode) (ops : Array Oper) : Nat → Nat → Nat → Bool
  | 0, _, _ => false
  | f + 1, z, i => match ops[z]? with
    | some o => o.after.any (fun e => Region.binds md e && (e.on == i || waitsB md ops f e.on i))
    | none => false
theorem waits_listed {l : Array Bool} (c : Closed md ops l) (i : Nat) : ∀ (f z : Nat), waitsB md ops f z i = true → l[z]? = some true → l[i]? = some true := by
  intro f
  induction f with
  | zero => intro z h; simp [waitsB] at h
  | succ f ih =>
    intro z h hz
    unfold waitsB at h
    cases ho : ops[z]? with
    | none => rw [ho] at h; simp at h
    | some o =>
      rw [ho] at h
      simp only [Array.any_eq_true, Bool.and_eq_true, Bool.or_eq_true, beq_iff_eq] at h
      obtain ⟨k, hk, hb, he⟩ := h
      have hl := c z o ho hz _ (Array.getElem_mem hk) hb
      rcases he with he | he
      · rw [← he]; exact hl
      · exact ih _ he hl
theorem ready_facts {l : Array Bool} {i : Nat} (h : i ∈ Region.ready md ops l) : l[i]? ≠ some true ∧ ∃ o, ops[i]? = some o ∧ ∀ e ∈ o.after, Region.binds md e = true → l[e.on]? = some true := by
  obtain ⟨hj, o, ho, hall⟩ := mem_ready.1 h
  refine ⟨fun e => ?_, o, ho, fun e he hb => ?_⟩
  · simp [e] at hj
  · have t := hall e he hb
    rcases Nat.lt_or_ge e.on l.size with q | q
    · simp [q] at t ⊢; exact t
    · simp [Array.getElem?_eq_none q] at t
theorem Closed.step {l : Array Bool} (c : Closed md ops l) {i : Nat} (h : i ∈ Region.ready md ops l) : Closed md ops (l.setIfInBounds i true) := by
  obtain ⟨_, oi, hoi, hall⟩ := ready_facts h
  have up : ∀ k : Nat, l[k]? = some true → (l.setIfInBounds i true)[k]? = some true := by
    intro k hk
    by_cases e : i = k
    · subst e; rw [Array.getElem?_setIfInBounds_self]; simp [(Array.getElem?_eq_some_iff.1 hk).1]
    · rw [Array.getElem?_setIfInBounds_ne e]; exact hk
  intro j o ho hj e he hb
  by_cases q : i = j
  · subst q
    rw [hoi] at ho
    cases ho
    exact up _ (hall e he hb)
  · rw [Array.getElem?_setIfInBounds_ne q] at hj
    exact up _ (c j o ho hj e he hb)
theorem waits_not {l : Array Bool} (c : Closed md ops l) {f z i : Nat} (hw : waitsB md ops f z i = true) (hi : i ∈ Region.ready md ops l) (hz : z ∈ Region.ready md ops l) : False := by
  obtain ⟨ni, _⟩ := ready_facts hi
  obtain ⟨_, o, ho, hall⟩ := ready_facts hz
  cases f with
  | zero => simp [waitsB] at hw
  | succ f =>
    unfold waitsB at hw
    rw [ho] at hw
    simp only [Array.any_eq_true, Bool.and_eq_true, Bool.or_eq_true, beq_iff_eq] at hw
    obtain ⟨k, hk, hb, he⟩ := hw
    have hl := hall _ (Array.getElem_mem hk) hb
    rcases he with he | he
    · rw [he] at hl; exact ni hl
    · exact ni (waits_listed c i f _ he hl)
/-- Number i may be run at once: it yields v wherever S stands, and all of Z wait for it. -/
theorem RunsZ.now {f i : Nat} {oi : Oper} {v : Value} (hi : ops[i]? = some oi) (sel : Region.noSelect ops = true) (hz : ∀ z ∈ Z, waitsB md ops f z i = true)
    (hQ : ∀ c a w, Q (.panic c) (a.put oi.dst v) w → Q (.panic c) a w) {n : Nat} : ∀ {l : Array Bool} {a : Act} {w : World}, Closed md ops l →
    (∀ j oj, ops[j]? = some oj → j ≠ i → l.getD j true = false → (∀ e ∈ oj.after, Region.binds md e = true → e.on ≠ i) → oi.apart ops oj = true) →
    i ∈ Region.ready md ops l → YieldsIf P ops S oi v a → S w → RunsZ P md ops Q S Z n (l.setIfInBounds i true) (a.put oi.dst v) w → RunsZ P md ops Q S Z (n + 1) l a w := by
  have ns := Region.noSelect_spec sel
  have out : ∀ (l : Array Bool) (j : Nat) (o : Oper), i ∈ Region.ready md ops l → j ∈ Region.ready md ops l → ops[j]? = some o → ∀ e ∈ o.after, Region.binds md e = true → e.on ≠ i := by
    intro l j o ri rj ho e he hb hon
    obtain ⟨ni, _⟩ := ready_facts ri
    obtain ⟨_, o', ho', hall⟩ := ready_facts rj
    rw [ho] at ho'
    cases ho'
    have := hall e he hb
    rw [hon] at this
    exact ni this
  induction n with
  | zero =>
    intro l a w _ _ ri hy hS H
    refine ⟨fun e => (by rw [e] at ri; cases ri), fun j rj => ?_⟩
    by_cases e : j = i
    · subst e; exact hy.wpOp hi hS ⟨fun _ => hS, H⟩
    · have := ready_mono rj e
      rw [H.1] at this
      cases this
  | succ n ih =>
    intro l a w c free ri hy hS H
    refine ⟨fun e => (by rw [e] at ri; cases ri), fun j rj => ?_⟩
    by_cases e : j = i
    · subst e; exact hy.wpOp hi hS ⟨fun _ => hS, H⟩
    · obtain ⟨hj, oj, hoj, _⟩ := mem_ready.1 rj
      have no := out l j oj ri rj hoj
      have jz : j ∉ Z := fun m => waits_not c (hz j m) ri rj
      have st := wpOp_putIf hoj (free j oj hoj e hj no) (fun cs b => ns i oi cs b hi) (fun cs b => ns j oj cs b hoj) hQ hy (H.2 j (ready_mono rj e))
      refine wpOp_mono (fun a' w' h => ⟨h.2.1, ih (l := l.setIfInBounds j true) (c.step rj) ?_ (ready_mono ri (Ne.symm e)) h.1 (h.2.1 jz) ?_⟩) st
      · intro k ok hk ne un nw
        refine free k ok hk ne ?_ nw
        by_cases q : j = k
        · subst q; exact hj
        · rw [getD_set_ne true q] at un; exact un
      · rw [Array.setIfInBounds_comm _ _ e]
        exact h.2.2
/-- 'Closed', reckoned. -/
def closedB (md : Region.Mode) (ops : Array Oper) (l : Array Bool) : Bool := (List.range ops.size).all fun j => match ops[j]? with
  | some o => (l[j]? != some true) || o.after.all (fun e => !(Region.binds md e) || l[e.on]? == some true)
  | none => true
theorem closed_of {l : Array Bool} (h : closedB md ops l = true) : Closed md ops l := by
  intro j o ho hj e he hb
  unfold closedB at h
  rw [List.all_eq_true] at h
  have hjl : j < ops.size := (Array.getElem?_eq_some_iff.1 ho).1
  have := h j (List.mem_range.2 hjl)
  rw [ho] at this
  simp only [hj, bne_self_eq_false, Bool.false_or, Array.all_eq_true] at this
  obtain ⟨k, hk, rfl⟩ := Array.getElem_of_mem he
  have t := this k hk
  rw [hb] at t
  simpa using t
theorem RunsZ.take (f : Nat) {i : Nat} {oi : Oper} {v : Value} {n : Nat} {l : Array Bool} {a : Act} {w : World} (hi : ops[i]? = some oi) (sel : Region.noSelect ops = true) (hf : Region.free md ops l i = true) (hr : (Region.ready md ops l).contains i = true)
    (hz : (Z.all fun z => waitsB md ops f z i) = true) (hc : closedB md ops l = true) (hQ : ∀ c a w, Q (.panic c) (a.put oi.dst v) w → Q (.panic c) a w) (hy : YieldsIf P ops S oi v a) (hS : S w)
    (h : RunsZ P md ops Q S Z n (l.setIfInBounds i true) (a.put oi.dst v) w) : RunsZ P md ops Q S Z (n + 1) l a w :=
  RunsZ.now hi sel (fun z m => List.all_eq_true.1 hz z m) hQ (closed_of hc) (Region.free_spec hi hf) (by simpa using hr) hy hS h
/-- Number i alone may come up. -/
theorem RunsZ.one {i : Nat} {o : Oper} {n : Nat} {l : Array Bool} {a : Act} {w : World} (hr : Region.ready md ops l = [i]) (ho : ops[i]? = some o) (hw : Region.wanted o (yielded ops a.tmps) = true)
    (h : ∀ K : Act → World → Prop, Hid (∀ a' w', (i ∉ Z → S w') → RunsZ P md ops Q S Z n (l.setIfInBounds i true) a' w' → K a' w') → o.wp P a w K Q) : RunsZ P md ops Q S Z (n + 1) l a w := by
  refine ⟨fun e => (by rw [e] at hr; cases hr), fun j hj => ?_⟩
  rw [hr] at hj
  simp at hj
  subst hj
  unfold wpOp
  simp only [ho, hw, if_true]
  exact .inl (h _ (fun a' w' h1 h2 => ⟨h1, h2⟩))
theorem RunsZ.done {n : Nat} {l : Array Bool} {a : Act} {w : World} (hr : Region.ready md ops l = []) (h : Q .normal a w) : RunsZ P md ops Q S Z n l a w := by
  cases n with
  | zero => exact ⟨hr, h⟩
  | succ n => exact ⟨fun _ => h, by rw [hr]; simp⟩
theorem wp_region_runsZ {id : Nat} {a : Act} {w : World} (hm : P.follows .mixedOrders = true) (h : RunsZ P .any ops Q S Z ops.size (Array.replicate ops.size false) a w.drew) : (Code.region id ops true).wp P Q a w :=
  wp_region_any hm (RunsZ.any h)
end
end Go.Proofs.YtakdliecjfeedaaGreatDoor
