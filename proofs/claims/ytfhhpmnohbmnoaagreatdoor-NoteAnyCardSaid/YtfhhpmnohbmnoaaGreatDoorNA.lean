/- Texts of configurations and tasks: when they are equal, how long they are, what is read out of them. -/
import Derived.Test.YtfhhpmnohbmnoaaGreatDoorFour
import Derived.Test.YtfhhpmnohbmnoaaGreatDoorTells
import Derived.Test.YtfhhpmnohbmnoaaGreatDoorNMath
namespace Go.Proofs.YtfhhpmnohbmnoaaGreatDoor
open Go Go.RowKit

theorem toL_ne {p q : ByteArray} (h : ¬ p = q) : ¬ p.toList = q.toList := by
  intro e
  rw [ByteArray.toList_eq, ByteArray.toList_eq] at e
  exact h (bytes_ext e)
theorem cfg_text {p : ByteArray} {c : Cfg} (h : p.data.toList = putCfgL c) (hc : cfgB c = true) : getCfg p.data.toList = some c := by
  unfold putCfgL at h
  rw [hc] at h
  exact getCfg_iff.2 ⟨hc, h⟩
theorem tsk_text {p : ByteArray} {t : Tsk} (h : p.data.toList = putTskL t) (ht : tskB 6 t = true) : getTsk 6 p.data.toList = some t := by
  unfold putTskL at h
  rw [ht] at h
  exact (getTsk_iff (by omega)).2 ⟨ht, h⟩
theorem cfg_ne {p q : ByteArray} {c d : Cfg} (h : p.data.toList = putCfgL c) (hc : cfgB c = true) (h2 : q.data.toList = putCfgL d) (hd : cfgB d = true) (hne : ¬ c = d) : ¬ p = q := by
  intro e
  subst e
  have a := cfg_text h hc
  have b := cfg_text h2 hd
  rw [a] at b
  exact hne (Option.some.inj b)
theorem cfg_alike {p q : ByteArray} {c d : Cfg} (h : p.data.toList = putCfgL c) (h2 : q.data.toList = putCfgL d) (e : c = d) : p = q := by
  subst e
  exact bytes_ext (h.trans h2.symm)
theorem tsk_ne {p q : ByteArray} {c d : Tsk} (h : p.data.toList = putTskL c) (hc : tskB 6 c = true) (h2 : q.data.toList = putTskL d) (hd : tskB 6 d = true) (hne : ¬ c = d) : ¬ p = q := by
  intro e
  subst e
  have a := tsk_text h hc
  have b := tsk_text h2 hd
  rw [a] at b
  exact hne (Option.some.inj b)
theorem tsk_alike {p q : ByteArray} {c d : Tsk} (h : p.data.toList = putTskL c) (h2 : q.data.toList = putTskL d) (e : c = d) : p = q := by
  subst e
  exact bytes_ext (h.trans h2.symm)
theorem putt_no {t : ByteArray} {c : Tsk} (h : t.data.toList = putTskL c) (hc : tskB 6 c = false) : t = ⟨#[]⟩ := by
  unfold putTskL at h
  rw [hc] at h
  obtain ⟨d⟩ := t
  simp at h
  rw [h]
theorem putt_yes {t : ByteArray} {c : Tsk} (h : t.data.toList = putTskL c) (hc : tskB 6 c = true) : ¬ t = ⟨#[]⟩ := by
  intro e
  subst e
  unfold putTskL at h
  rw [hc] at h
  exact (putTsk_len hc).2 h.symm
theorem resT_len : ∀ (l : List Int), (∀ x ∈ l, x < 100000) → (resT l).length ≤ 6 * l.length := by
  intro l
  induction l with
  | nil => intro _; simp [resT]
  | cons x r ih =>
    intro h
    have h1 := dec_len (h x (by simp))
    have h2 := ih (fun y hy => h y (by simp [hy]))
    have e : resT (x :: r) = (32 :: dec x) ++ resT r := by simp [resT]
    rw [e, List.length_append]
    simp only [List.length_cons]
    omega
theorem putCfg_len {c : Cfg} (h : cfgB c = true) : (putCfgT c).length ≤ 100 := by
  obtain ⟨h1, h2, h3, h4, h5, h6⟩ := cfgB_iff.1 h
  have z1 := dec_len (x := c.cores) (by omega)
  have z2 := dec_len (x := c.syncs) (by omega)
  have z3 := dec_len (x := c.lag) (by omega)
  have z4 := dec_len (x := c.move) (by omega)
  have z5 := resT_len c.res (fun x hx => by have := h6 x hx; omega)
  have z6 : (resTT c.res).length ≤ 4 + (resT c.res).length := by
    unfold resTT
    split
    · simp
    · simp [kRes]; omega
  unfold putCfgT
  simp only [List.length_append, kCores, kSyncs, kLag, kMove, List.length_cons, List.length_nil]
  omega
theorem cfg_size {p : ByteArray} {c : Cfg} (h : p.data.toList = putCfgL c) : p.size ≤ 100 := by
  have e : p.size = p.data.toList.length := by simp
  rw [e, h]
  unfold putCfgL
  split
  · rename_i hc; exact putCfg_len hc
  · simp
theorem tsk_size {p : ByteArray} {c : Tsk} (h : p.data.toList = putTskL c) : p.size ≤ 60 := by
  have e : p.size = p.data.toList.length := by simp
  rw [e, h]
  unfold putTskL
  split
  · rename_i hc; exact (putTsk_len hc).1
  · simp
/-- A configuration out of its text. -/
theorem getCfg_own {co sy la mo : Int} {l : List Int} {n : Nat} (hn : l.length = n) (p : ByteArray) (hp : p.data.toList = putCfgL ⟨co, sy, la, mo, l⟩) (hc : cfgB ⟨co, sy, la, mo, l⟩ = true) (w : World) (hE : Env w) :
    Calls Tryz.prog 27 #[.string p] w fun e w' => ∃ xa xk, e = .returned (.tuple #[.agg #[.int .i64 co, .int .i64 sy, .int .i64 la, .int .i64 mo, .slice xa n xk], .int .i64 0]) ∧ Ints w' (.slice xa n xk) l ∧ Below w.heap.size w w' := by
  refine (getCfg_any p w (by have := cfg_size hp; omega) hE).mono ?_
  rintro e w' ⟨g, h⟩
  have hg := cfg_text hp hc
  rcases h with ⟨h, _⟩ | ⟨c, u, h, hi, rfl⟩
  · rw [hg] at h; cases h
  · rw [hg] at h
    cases h
    obtain ⟨xa, xk, rfl⟩ := hi.form
    subst hn
    exact ⟨xa, xk, rfl, hi, g⟩
/-- A task out of its text: whether it is one where there are n agents. -/
theorem getTsk_own {co sy la mo c d t : Int} {v : Value} {l : List Int} {m : List Sec} {n q : Nat} (hn : l.length = n) (h6 : n ≤ 6) (hq : m.length = q) (r : ByteArray) (hr : r.data.toList = putTskL ⟨c, d, t, m⟩) (hc : cfgB ⟨co, sy, la, mo, l⟩ = true) (w : World) (hE : Env w) (hv : Ints w v l) (X : Bool) (hX : tskB n ⟨c, d, t, m⟩ = X) :
    Calls Tryz.prog 28 #[.agg #[.int .i64 co, .int .i64 sy, .int .i64 la, .int .i64 mo, v], .string r] w fun e w' => Below w.heap.size w w' ∧ ((X = false ∧ e = .returned (.tuple #[.agg #[.int .i64 0, .int .i64 0, .int .i64 0, .slice none 0 0], .int .i64 1])) ∨ (X = true ∧ ∃ ya yk, e = .returned (.tuple #[.agg #[.int .i64 c, .int .i64 d, .int .i64 t, .slice ya q yk], .int .i64 0]) ∧ Secs w' (.slice ya q yk) m)) := by
  refine (getTsk_any co sy la mo v l r w (by have := tsk_size hr; omega) hE hv (by omega)).mono ?_
  rintro e w' ⟨g, h⟩
  refine ⟨g, ?_⟩
  cases X with
  | true =>
    have ht : tskB 6 ⟨c, d, t, m⟩ = true := tskB_mono (by omega) hX
    have hg : getTsk (n : Int) r.data.toList = some ⟨c, d, t, m⟩ := by
      unfold putTskL at hr
      rw [ht] at hr
      exact (getTsk_iff (by omega)).2 ⟨hX, hr⟩
    rcases h with ⟨h, _⟩ | ⟨y, u, _, h, hi, rfl⟩
    · simp only [hn, hg, hc] at h
      rcases h with h | h <;> cases h
    · simp only [hn, hg] at h
      cases h
      obtain ⟨ya, yk, rfl⟩ := hi.form
      subst hq
      exact .inr ⟨rfl, ya, yk, rfl, hi⟩
  | false =>
    have hg : getTsk (n : Int) r.data.toList = none := none_of (by omega) (fun y h1 h2 => by
      have h3 : tskB 6 y = true := tskB_mono (by omega) h1
      by_cases ht : tskB 6 ⟨c, d, t, m⟩ = true
      · have a := tsk_text hr ht
        have b := (getTsk_iff (n := 6) (by omega)).2 ⟨h3, h2⟩
        rw [a] at b
        cases b
        rw [hX] at h1
        cases h1
      · have e := putt_no hr (by simpa using ht)
        subst e
        exact (putTsk_len h3).2 h2.symm)
    rcases h with ⟨_, rfl⟩ | ⟨y, u, _, h, hi, rfl⟩
    · exact .inl ⟨rfl, rfl⟩
    · simp only [hn, hg] at h
      cases h
end Go.Proofs.YtfhhpmnohbmnoaaGreatDoor
