/- For the law of the limits: literals, what a text says. -/
import Derived.Test.YtfhhpmnohbmnoaaGreatDoorKeep
import Derived.Test.YtfhhpmnohbmnoaaGreatDoorPut
import Derived.Laws.Closers25
namespace Go.Proofs.YtfhhpmnohbmnoaaGreatDoor
open Go Go.RowKit

def sixL : List Int := [0, 1, 2, 0, 1, 2]
theorem own_six (w : World) (e : TypeId) : (w.alloc (.cells #[.int .i64 0, .int .i64 1, .int .i64 2, .int .i64 0, .int .i64 1, .int .i64 2] e)).ownsRow w.heap.size e 1 (.slice (some ⟨w.heap.size, 0, none⟩) 6 6) 6 (sixL.map mkI) :=
  ⟨rfl, .inr ⟨w.heap.size, 6, #[.int .i64 0, .int .i64 1, .int .i64 2, .int .i64 0, .int .i64 1, .int .i64 2], rfl, Nat.le_refl _, heap_alloc_new _ _, Nat.le_refl _, by unfold maxLen; omega, rfl, rfl⟩⟩
theorem ints_six (w : World) (e : TypeId) (o : Obj) : Ints ((w.alloc (.cells #[.int .i64 0, .int .i64 1, .int .i64 2, .int .i64 0, .int .i64 1, .int .i64 2] e)).alloc o) (.slice (some ⟨w.heap.size, 0, none⟩) 6 6) sixL :=
  Ints.below (own_ints (own_six w e)) (balloc _ _)
theorem blk_two (w : World) (o : Obj) (cs : Array Value) (t : TypeId) : Blk ((w.alloc o).alloc (.cells cs t)) (w.heap.size + 1) cs t := by
  have h := heap_alloc_new (w.alloc o) (.cells cs t)
  have e : (w.alloc o).heap.size = w.heap.size + 1 := by simp
  rw [e] at h
  exact h
theorem ints_nil (w : World) : Ints w (.slice none 0 0) [] := .inl ⟨rfl, _, _, rfl⟩
theorem put_no {t : ByteArray} {c : Cfg} (h : t.data.toList = putCfgL c) (hc : cfgB c = false) : t = ⟨#[]⟩ := by
  unfold putCfgL at h
  rw [hc] at h
  obtain ⟨d⟩ := t
  simp at h
  rw [h]
theorem put_yes {t : ByteArray} {c : Cfg} (h : t.data.toList = putCfgL c) (hc : cfgB c = true) : ¬ t = ⟨#[]⟩ := by
  intro e
  subst e
  unfold putCfgL putCfgT kCores at h
  rw [hc] at h
  simp at h
theorem put_yes2 {t : ByteArray} (h : ¬ t = ⟨#[]⟩) : ¬ t.toList = [] := by
  intro e
  have d := decide_eq_emptyBytes t
  rw [e] at d
  exact h (of_decide_eq_true d)
end Go.Proofs.YtfhhpmnohbmnoaaGreatDoor
