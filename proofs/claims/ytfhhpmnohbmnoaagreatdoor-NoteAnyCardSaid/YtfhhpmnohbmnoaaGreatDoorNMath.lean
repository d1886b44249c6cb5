/- What is no task's text. -/
import Derived.Test.YtfhhpmnohbmnoaaGreatDoorPut
namespace Go.Proofs.YtfhhpmnohbmnoaaGreatDoor
open Go Go.RowKit

theorem dec_first {x : Int} {b : UInt8} (h : (dec x).head? = some b) : isDig b = true := by
  obtain ⟨a, r, e⟩ := List.exists_cons_of_ne_nil (dec_ne x.toNat)
  unfold dec at h
  rw [e] at h
  simp at h
  subst h
  exact dec_dig x.toNat a (by rw [e]; simp)
theorem put_first {y : Tsk} {b : UInt8} (h : (putTskT y).head? = some b) : (dec y.c).head? = some b := by
  obtain ⟨a, r, e⟩ := List.exists_cons_of_ne_nil (dec_ne y.c.toNat)
  have e2 : dec y.c = a :: r := e
  unfold putTskT at h
  rw [e2] at h ⊢
  simpa using h
theorem none_of {n : Int} (hn : n ≤ 1000000) {l : List UInt8} (h : ∀ y, tskB n y = true → l = putTskT y → False) : getTsk n l = none := by
  cases e : getTsk n l with
  | none => rfl
  | some y =>
    obtain ⟨h1, h2⟩ := (getTsk_iff hn).1 e
    exact (h y h1 h2).elim
theorem no_nought {n : Int} (hn : n ≤ 1000000) (l : List UInt8) : getTsk n (48 :: l) = none := none_of hn (fun y h1 h2 => by
  have := put_first (y := y) (b := 48) (by rw [← h2]; rfl)
  have e := dec_head y.c.toNat this
  have := (tskB_facts h1).1
  omega)
theorem no_plus {n : Int} (hn : n ≤ 1000000) (l : List UInt8) : getTsk n (43 :: l) = none := none_of hn (fun y h1 h2 => by
  have := dec_first (put_first (y := y) (b := 43) (by rw [← h2]; rfl))
  revert this
  decide)
theorem dec_last (x : Int) (l : List UInt8) : ∃ b, (l ++ dec x).getLast? = some b ∧ isDig b = true := by
  have hne : dec x ≠ [] := dec_ne x.toNat
  refine ⟨(dec x).getLast hne, ?_, dec_dig x.toNat _ (List.getLast_mem hne)⟩
  rw [List.getLast?_append, List.getLast?_eq_some_getLast hne]
  rfl
theorem put_last (y : Tsk) : ∃ b, (putTskT y).getLast? = some b ∧ isDig b = true := by
  obtain ⟨c, d, t, m⟩ := y
  rcases List.eq_nil_or_concat m with rfl | ⟨m', s, rfl⟩
  · have := dec_last t (dec c ++ (47 :: (dec d ++ [47])))
    simpa [putTskT, secsT] using this
  · have := dec_last s.len (dec c ++ (47 :: (dec d ++ (47 :: (dec t ++ (secsT m' ++ (32 :: (dec s.res ++ (64 :: (dec s.pos ++ [43]))))))))))
    simpa [putTskT, secsT, secT] using this
theorem no_blank {n : Int} (hn : n ≤ 1000000) (l : List UInt8) : getTsk n (l ++ [32]) = none := none_of hn (fun y h1 h2 => by
  obtain ⟨b, hb, hd⟩ := put_last y
  rw [← h2] at hb
  simp at hb
  subst hb
  revert hd
  decide)
theorem secsT_len : ∀ (m : List Sec), (∀ s ∈ m, (0 ≤ s.res ∧ s.res < 6) ∧ (1 ≤ s.len ∧ s.len ≤ 200) ∧ 1 ≤ s.pos ∧ s.pos ≤ 200) → (secsT m).length ≤ 18 * m.length := by
  intro m
  induction m with
  | nil => intro _; simp [secsT]
  | cons s r ih =>
    intro h
    have h1 := h s (by simp)
    have h2 := ih (fun x hx => h x (by simp [hx]))
    have z1 := dec_len (x := s.res) (by omega)
    have z2 := dec_len (x := s.pos) (by omega)
    have z3 := dec_len (x := s.len) (by omega)
    have e : secsT (s :: r) = secT s ++ secsT r := by simp [secsT]
    rw [e, List.length_append]
    simp only [secT, List.length_cons, List.length_append]
    omega
theorem putTsk_len {t : Tsk} (h : tskB 6 t = true) : (putTskT t).length ≤ 60 ∧ putTskT t ≠ [] := by
  obtain ⟨h1, h2, h3, h4, h5, h6⟩ := tskB_facts h
  have z1 := dec_len (x := t.c) (by omega)
  have z2 := dec_len (x := t.d) (by omega)
  have z3 := dec_len (x := t.t) (by omega)
  have z4 := secsT_len t.secs (fun s hs => by have := h6 s hs; omega)
  constructor
  · unfold putTskT
    simp only [List.length_append, List.length_cons]
    omega
  · intro e
    obtain ⟨b, hb, _⟩ := put_last t
    rw [e] at hb
    simp at hb
end Go.Proofs.YtfhhpmnohbmnoaaGreatDoor
