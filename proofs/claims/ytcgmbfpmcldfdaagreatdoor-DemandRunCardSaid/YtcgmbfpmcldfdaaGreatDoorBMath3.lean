/- Plain mathematics of a core that does first what is due first. -/
import Derived.Test.YtcgmbfpmcldfdaaGreatDoorBMath2
namespace Go.Proofs.YtcgmbfpmcldfdaaGreatDoor
open Go Go.RowKit
-- BODY

/-- What of a load is under way: what is left of it, when it is due, when the next one may come. -/
structure Jb where
  left : Int
  due : Int
  next : Int
  deriving Inhabited
def hJ (s : Sec) (j : Jb) (t d : Int) : Int := (if j.due ≤ d then j.left else 0) + s.res * cntD s.pos s.len (d - max j.next t)
/-- The most that may have to be done from t to d. -/
def hhL : List Sec → List Jb → Int → Int → Int
  | s :: l, j :: js, t, d => hJ s j t d + hhL l js t d
  | _, _, _, _ => 0
def JOk (j : Jb) : Prop := (0 ≤ j.left ∧ j.left ≤ 20000) ∧ (0 ≤ j.due ∧ j.due ≤ 1000) ∧ 0 ≤ j.next ∧ j.next ≤ 1000
structure Good (l : List Sec) (js : List Jb) (t : Int) : Prop where
  len : js.length = l.length
  ok : ∀ j ∈ js, JOk j
  most : ∀ d, t ≤ d → hhL l js t d ≤ d - t
theorem hJ_nonneg {s : Sec} {j : Jb} (hs : ldB s = true) (hj : JOk j) (t d : Int) : 0 ≤ hJ s j t d := by
  have hx := ldB_iff.1 hs
  have := Int.mul_nonneg (a := s.res) (b := cntD s.pos s.len (d - max j.next t)) (by omega) (cnt_nonneg (by omega))
  obtain ⟨⟨h1, _⟩, _⟩ := hj
  unfold hJ
  split <;> omega
theorem hh_nonneg {l : List Sec} {js : List Jb} (hl : ∀ s ∈ l, ldB s = true) (hj : ∀ j ∈ js, JOk j) (t d : Int) : 0 ≤ hhL l js t d := by
  induction l generalizing js with
  | nil => simp [hhL]
  | cons s l ih =>
    cases js with
    | nil => simp [hhL]
    | cons j js =>
      have h1 := hJ_nonneg (hl s (by simp)) (hj j (by simp)) t d
      have h2 := ih (js := js) (fun y hy => hl y (by simp [hy])) (fun y hy => hj y (by simp [hy]))
      simp only [hhL]; omega
theorem hh_ge {l : List Sec} {js : List Jb} (hl : ∀ s ∈ l, ldB s = true) (hj : ∀ j ∈ js, JOk j) {i : Nat} {s : Sec} {j : Jb} (hi : l[i]? = some s) (hi' : js[i]? = some j) (t d : Int) : hJ s j t d ≤ hhL l js t d := by
  induction l generalizing js i with
  | nil => simp at hi
  | cons s0 l ih =>
    cases js with
    | nil => simp at hi'
    | cons j0 js =>
      have h1 := hJ_nonneg (hl s0 (by simp)) (hj j0 (by simp)) t d
      have h2 := hh_nonneg (l := l) (js := js) (fun y hy => hl y (by simp [hy])) (fun y hy => hj y (by simp [hy])) t d
      cases i with
      | zero => simp at hi hi'; subst hi hi'; simp only [hhL]; omega
      | succ i =>
        have h3 := ih (js := js) (i := i) (fun y hy => hl y (by simp [hy])) (fun y hy => hj y (by simp [hy])) (by simpa using hi) (by simpa using hi')
        simp only [hhL]; omega
theorem hh_set {l : List Sec} {js : List Jb} {i : Nat} {s : Sec} {j : Jb} (hi : l[i]? = some s) (hi' : js[i]? = some j) (j' : Jb) (t d : Int) : hhL l (js.set i j') t d + hJ s j t d = hhL l js t d + hJ s j' t d := by
  induction l generalizing js i with
  | nil => simp at hi
  | cons s0 l ih =>
    cases js with
    | nil => simp at hi'
    | cons j0 js =>
      cases i with
      | zero => simp at hi hi'; subst hi hi'; simp only [List.set_cons_zero, hhL]; omega
      | succ i =>
        have h3 := ih (js := js) (i := i) (by simpa using hi) (by simpa using hi')
        simp only [List.set_cons_succ, hhL]; omega
theorem hh_later {l : List Sec} {js : List Jb} (hl : ∀ s ∈ l, ldB s = true) {t u : Int} (h : t ≤ u) (d : Int) : hhL l js u d ≤ hhL l js t d := by
  induction l generalizing js with
  | nil => simp [hhL]
  | cons s l ih =>
    cases js with
    | nil => simp [hhL]
    | cons j js =>
      have hx := ldB_iff.1 (hl s (by simp))
      have h2 := ih (js := js) (fun y hy => hl y (by simp [hy]))
      have := mul_le' (a := s.res) (by omega) (cnt_mono (D := s.pos) (T := s.len) (s := d - max j.next u) (t := d - max j.next t) (by omega) (by omega))
      simp only [hhL, hJ]; omega
/-- Nothing that is due by d is left: only what is to come counts. -/
theorem hh_idle {l : List Sec} {js : List Jb} (hl : ∀ s ∈ l, ldB s = true) (t d : Int) (h : ∀ j ∈ js, j.left = 0 ∨ d < j.due) (hlen : js.length = l.length) : hhL l js t d ≤ dueL l (d - t) := by
  induction l generalizing js with
  | nil => simp [hhL, dueL]
  | cons s l ih =>
    cases js with
    | nil => simp at hlen
    | cons j js =>
      have hx := ldB_iff.1 (hl s (by simp))
      have h2 := ih (js := js) (fun y hy => hl y (by simp [hy])) (fun y hy => h y (by simp [hy])) (by simpa using hlen)
      have := mul_le' (a := s.res) (by omega) (cnt_mono (D := s.pos) (T := s.len) (s := d - max j.next t) (t := d - t) (by omega) (by omega))
      have h3 := h j (by simp)
      have : (if j.due ≤ d then j.left else 0) = 0 := by split <;> omega
      simp only [hhL, hJ, dueL]; omega
theorem hJ_release {s : Sec} {j : Jb} (hs : ldB s = true) {t gap : Int} (h0 : j.left = 0) (hn : j.next ≤ t) (hg : 0 ≤ gap) (d : Int) : hJ s ⟨s.res, t + s.pos, t + s.len + gap⟩ t d ≤ hJ s j t d := by
  have hx := ldB_iff.1 hs
  unfold hJ
  simp only [h0]
  rw [show max j.next t = t by omega, show max (t + s.len + gap) t = t + s.len + gap by omega]
  by_cases hd : d - t < s.pos
  · rw [if_neg (by omega), cnt_ahead hd, cnt_ahead (by omega)]; simp
  · rw [if_pos (by omega)]
    have e : cntD s.pos s.len (d - t) = (d - t - s.pos) / s.len + 1 := by unfold cntD; rw [if_neg hd]
    have g : cntD s.pos s.len (d - (t + s.len + gap)) ≤ (d - t - s.pos) / s.len := by
      have h1 := cnt_mono (D := s.pos) (T := s.len) (s := d - (t + s.len + gap)) (t := d - t - s.len) (by omega) (by omega)
      have h2 : cntD s.pos s.len (d - t - s.len) ≤ (d - t - s.pos) / s.len := by
        unfold cntD
        split
        · exact dv_nonneg (by omega) (by omega)
        · have : (d - t - s.pos) / s.len = (d - t - s.len - s.pos) / s.len + 1 := by
            rw [show d - t - s.pos = (d - t - s.len - s.pos) + s.len by omega, Int.add_ediv_of_dvd_right ⟨1, by omega⟩, Int.ediv_self (by omega)]
          omega
      omega
    have := mul_le' (a := s.res) (by omega) g
    rw [e, Int.mul_add]
    split <;> omega
theorem mem_set {js : List Jb} {i : Nat} {j' x : Jb} (h : x ∈ js.set i j') : x ∈ js ∨ x = j' := List.mem_or_eq_of_mem_set h
theorem Good.start {l : List Sec} (h : fitB l = true) : Good l (List.replicate l.length ⟨0, 0, 0⟩) 0 := by
  refine ⟨by simp, fun j hj => ?_, fun d hd => ?_⟩
  · obtain ⟨_, rfl⟩ := List.mem_replicate.1 hj
    exact ⟨⟨by simp, by simp⟩, ⟨by simp, by simp⟩, by simp, by simp⟩
  · have h1 := hh_idle (js := List.replicate l.length ⟨0, 0, 0⟩) (ldsB_all (fit_lds h)) 0 d (fun j hj => by obtain ⟨_, rfl⟩ := List.mem_replicate.1 hj; exact .inl rfl) (by simp)
    have h2 := fit_due h (t := d - 0) (by omega)
    omega
theorem Good.release {l : List Sec} {js : List Jb} {t : Int} (g : Good l js t) (hl : ∀ s ∈ l, ldB s = true) {i : Nat} {s : Sec} {j : Jb} (hi : l[i]? = some s) (hi' : js[i]? = some j) {gap : Int} (h0 : j.left = 0) (hn : j.next ≤ t) (hg : 0 ≤ gap) (hg2 : gap ≤ 15) (ht : 0 ≤ t) (ht2 : t ≤ 600) : Good l (js.set i ⟨s.res, t + s.pos, t + s.len + gap⟩) t := by
  have hs := hl s (List.mem_of_getElem? hi)
  have hx := ldB_iff.1 hs
  refine ⟨by simpa using g.len, fun x hx' => ?_, fun d hd => ?_⟩
  · rcases mem_set hx' with h | rfl
    · exact g.ok x h
    · unfold JOk; simp only; omega
  · have h1 := hh_set hi hi' ⟨s.res, t + s.pos, t + s.len + gap⟩ t d
    have h2 := hJ_release hs h0 hn hg d
    have h3 := g.most d hd
    omega
/-- Nothing is late. -/
theorem Good.late {l : List Sec} {js : List Jb} {t : Int} (g : Good l js t) (hl : ∀ s ∈ l, ldB s = true) {i : Nat} {s : Sec} {j : Jb} (hi : l[i]? = some s) (hi' : js[i]? = some j) (h : 0 < j.left) : t < j.due := by
  refine Classical.byContradiction fun hc => ?_
  have h1 := hh_ge hl g.ok hi hi' t t
  have h2 := g.most t (by omega)
  have hx := ldB_iff.1 (hl s (List.mem_of_getElem? hi))
  have h3 := Int.mul_nonneg (a := s.res) (b := cntD s.pos s.len (t - max j.next t)) (by omega) (cnt_nonneg (by omega))
  unfold hJ at h1
  rw [if_pos (by omega)] at h1
  omega
theorem Good.idle {l : List Sec} {js : List Jb} {t : Int} (g : Good l js t) (hf : fitB l = true) (h : ∀ j ∈ js, j.left = 0) : Good l js (t + 1) := by
  refine ⟨g.len, g.ok, fun d hd => ?_⟩
  have h1 := hh_idle (ldsB_all (fit_lds hf)) (t + 1) d (fun j hj => .inl (h j hj)) g.len
  have h2 := fit_due hf (t := d - (t + 1)) (by omega)
  omega
theorem Good.run {l : List Sec} {js : List Jb} {t : Int} (g : Good l js t) (hf : fitB l = true) {b : Nat} {j : Jb} (hb : js[b]? = some j) (h0 : 0 < j.left) (hm : ∀ x ∈ js, 0 < x.left → j.due ≤ x.due) : Good l (js.set b ⟨j.left - 1, j.due, j.next⟩) (t + 1) := by
  have hl := ldsB_all (fit_lds hf)
  have hbl : b < l.length := by rw [← g.len]; exact (List.getElem?_eq_some_iff.1 hb).1
  obtain ⟨s, hs⟩ : ∃ s, l[b]? = some s := ⟨_, List.getElem?_eq_getElem hbl⟩
  have hj := g.ok j (List.mem_of_getElem? hb)
  have hlen : (js.set b ⟨j.left - 1, j.due, j.next⟩).length = l.length := by simpa using g.len
  refine ⟨hlen, fun x hx => ?_, fun d hd => ?_⟩
  · rcases mem_set hx with h | rfl
    · exact g.ok x h
    · unfold JOk at *; simp only; omega
  · by_cases hdd : j.due ≤ d
    · have h1 := hh_set hs hb ⟨j.left - 1, j.due, j.next⟩ t d
      have h2 := hh_later (js := js.set b ⟨j.left - 1, j.due, j.next⟩) hl (show t ≤ t + 1 by omega) d
      have h3 := g.most d (by omega)
      unfold hJ at h1
      simp only [hdd, if_true] at h1
      omega
    · have h1 := hh_idle (js := js.set b ⟨j.left - 1, j.due, j.next⟩) hl (t + 1) d (fun x hx => by
        rcases mem_set hx with h | rfl
        · by_cases hx0 : 0 < x.left
          · have := hm x h hx0; right; omega
          · have := (g.ok x h).1; left; omega
        · right; simp only; omega) hlen
      have h2 := fit_due hf (t := d - (t + 1)) (by omega)
      omega
-- END
end Go.Proofs.YtcgmbfpmcldfdaaGreatDoor
