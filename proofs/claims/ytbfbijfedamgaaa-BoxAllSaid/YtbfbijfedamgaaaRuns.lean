/- A region that draws its order and ends in a store: what its loads read stands until that store, number z, which waits for them all. -/
import Derived.Test.YtbfbijfedamgaaaPair
import Derived.Deep.RegionHeld3
namespace Go.Proofs.Ytbfbijfedamgaaa
open Go.RowKit
section
variable {P : Program} {md : Region.Mode} {ops : Array Oper} {Q : Exit → Act → World → Prop} {S : World → Prop} {z : Nat}
/-- Whichever order is picked: behind each operation but number z the condition S stands. -/
def Runs (P : Program) (md : Region.Mode) (ops : Array Oper) (Q : Exit → Act → World → Prop) (S : World → Prop) (z : Nat) : Nat → Array Bool → Act → World → Prop
  | 0, l, a, w => Region.ready md ops l = [] ∧ Q .normal a w
  | n + 1, l, a, w => (Region.ready md ops l = [] → Q .normal a w) ∧ ∀ i ∈ Region.ready md ops l, wpOp P ops Q i (fun a' w' => (i ≠ z → S w') ∧ Runs P md ops Q S z n (l.setIfInBounds i true) a' w') a w
theorem Runs.any {n : Nat} : ∀ {l : Array Bool} {a : Act} {w : World}, Runs P md ops Q S z n l a w → wpAny P md ops Q n l a w := by
  induction n with
  | zero => intro l a w h; exact h
  | succ n ih => intro l a w h; exact ⟨h.1, fun i hi => wpOp_mono (fun a' w' h' => ih h'.2) (h.2 i hi)⟩
/-- Number i may be run at once: it yields v wherever S stands, and number z waits for it. -/
theorem Runs.now {i : Nat} {oi : Oper} {v : Value} (hi : ops[i]? = some oi) (sel : Region.noSelect ops = true) (hz : ∀ o, ops[z]? = some o → ∃ e ∈ o.after, Region.binds md e = true ∧ e.on = i)
    (hQ : ∀ c a w, Q (.panic c) (a.put oi.dst v) w → Q (.panic c) a w) {n : Nat} : ∀ {l : Array Bool} {a : Act} {w : World},
    (∀ j oj, ops[j]? = some oj → j ≠ i → l.getD j true = false → (∀ e ∈ oj.after, Region.binds md e = true → e.on ≠ i) → oi.apart ops oj = true) →
    i ∈ Region.ready md ops l → YieldsIf P ops S oi v a → S w → Runs P md ops Q S z n (l.setIfInBounds i true) (a.put oi.dst v) w → Runs P md ops Q S z (n + 1) l a w := by
  have ns := Region.noSelect_spec sel
  -- an operation that waits for i cannot be ready beside it
  have out : ∀ (l : Array Bool) (j : Nat) (o : Oper), i ∈ Region.ready md ops l → j ∈ Region.ready md ops l → ops[j]? = some o → ¬ ∃ e ∈ o.after, Region.binds md e = true ∧ e.on = i := by
    rintro l j o ri rj ho ⟨e, he, hb, rfl⟩
    obtain ⟨hj, o', ho', hall⟩ := mem_ready.1 rj
    rw [ho] at ho'
    cases ho'
    have t := hall e he hb
    have f := (mem_ready.1 ri).1
    rcases Nat.lt_or_ge e.on l.size with q | q
    · simp [q] at t f; rw [f] at t; cases t
    · simp [Array.getElem?_eq_none q] at t
  induction n with
  | zero =>
    intro l a w _ ri hy hS H
    refine ⟨fun e => (by rw [e] at ri; cases ri), fun j rj => ?_⟩
    by_cases e : j = i
    · subst e; exact hy.wpOp hi hS ⟨fun _ => hS, H⟩
    · have := ready_mono rj e
      rw [H.1] at this
      cases this
  | succ n ih =>
    intro l a w free ri hy hS H
    refine ⟨fun e => (by rw [e] at ri; cases ri), fun j rj => ?_⟩
    by_cases e : j = i
    · subst e; exact hy.wpOp hi hS ⟨fun _ => hS, H⟩
    · obtain ⟨hj, oj, hoj, _⟩ := mem_ready.1 rj
      have no : ∀ e ∈ oj.after, Region.binds md e = true → e.on ≠ i := fun x hx hb hon => out l j oj ri rj hoj ⟨x, hx, hb, hon⟩
      have jz : j ≠ z := by rintro rfl; exact out l j oj ri rj hoj (hz oj hoj)
      have st := wpOp_putIf hoj (free j oj hoj e hj no) (fun cs b => ns i oi cs b hi) (fun cs b => ns j oj cs b hoj) hQ hy (H.2 j (ready_mono rj e))
      refine wpOp_mono (fun a' w' h => ⟨h.2.1, ih (l := l.setIfInBounds j true) ?_ (ready_mono ri (Ne.symm e)) h.1 (h.2.1 jz) ?_⟩) st
      · intro k ok hk ne un nw
        refine free k ok hk ne ?_ nw
        by_cases q : j = k
        · subst q; exact hj
        · rw [getD_set_ne true q] at un; exact un
      · rw [Array.setIfInBounds_comm _ _ e]
        exact h.2.2
theorem Runs.take {i : Nat} {oi : Oper} {v : Value} {n : Nat} {l : Array Bool} {a : Act} {w : World} (hi : ops[i]? = some oi) (sel : Region.noSelect ops = true) (hf : Region.free md ops l i = true) (hr : (Region.ready md ops l).contains i = true)
    (hz : (match ops[z]? with | some o => o.after.any (fun e => Region.binds md e && e.on == i) | none => true) = true)
    (hQ : ∀ c a w, Q (.panic c) (a.put oi.dst v) w → Q (.panic c) a w) (hy : YieldsIf P ops S oi v a) (hS : S w)
    (h : Runs P md ops Q S z n (l.setIfInBounds i true) (a.put oi.dst v) w) : Runs P md ops Q S z (n + 1) l a w := by
  refine Runs.now hi sel (fun o ho => ?_) hQ (Region.free_spec hi hf) (by simpa using hr) hy hS h
  rw [ho] at hz
  simp only [Array.any_eq_true, Bool.and_eq_true, beq_iff_eq] at hz
  obtain ⟨k, hk, h1, h2⟩ := hz
  exact ⟨_, Array.getElem_mem hk, h1, h2⟩
/-- Number i alone may come up. -/
theorem Runs.one {i : Nat} {o : Oper} {n : Nat} {l : Array Bool} {a : Act} {w : World} (hr : Region.ready md ops l = [i]) (ho : ops[i]? = some o) (hw : Region.wanted o (yielded ops a.tmps) = true)
    (h : ∀ K : Act → World → Prop, Hid (∀ a' w', (i ≠ z → S w') → Runs P md ops Q S z n (l.setIfInBounds i true) a' w' → K a' w') → o.wp P a w K Q) : Runs P md ops Q S z (n + 1) l a w := by
  refine ⟨fun e => (by rw [e] at hr; cases hr), fun j hj => ?_⟩
  rw [hr] at hj
  simp at hj
  subst hj
  unfold wpOp
  simp only [ho, hw, if_true]
  exact .inl (h _ (fun a' w' h1 h2 => ⟨h1, h2⟩))
theorem Runs.done {n : Nat} {l : Array Bool} {a : Act} {w : World} (hr : Region.ready md ops l = []) (h : Q .normal a w) : Runs P md ops Q S z n l a w := by
  cases n with
  | zero => exact ⟨hr, h⟩
  | succ n => exact ⟨fun _ => h, by rw [hr]; simp⟩
theorem wp_region_runs {id : Nat} {a : Act} {w : World} (hm : P.follows .mixedOrders = true) (h : Runs P .any ops Q S z ops.size (Array.replicate ops.size false) a w.drew) : (Code.region id ops true).wp P Q a w :=
  wp_region_any hm (Runs.any h)
theorem wp_append_tail (w : World) {o : Oper} {a : Act} {K : Act → World → Prop} (s x : Operand) (t : TypeId)
    (ho : o.op = .call { callee := .builtin .append, args := #[s, x], argTypes := #[t, t] })
    (v' : Value) (w' : World) (v y : Value) (hs : a.eval s = v) (hx : a.eval x = y) (hrun : (Builtin.append_ #[t, t] o.type #[v, y]).run P w = .ok v' w') (h : K (a.put o.dst v') w') : o.wp P a w K Q := by
  unfold Oper.wp execOp
  simp only [ho, resolve, invoke, builtin, Sem.run_bind, Sem.run_pure, Result.andThen_ok, List.map_toArray, List.map_cons, List.map_nil, hs, hx, hrun]
  exact h
end
end Go.Proofs.Ytbfbijfedamgaaa
