/- A task in a box, its copy in its place. -/
import Derived.Test.YtfhhpmnohbmnoaaGreatDoorTwo
import Derived.Test.YtfhhpmnohbmnoaaGreatDoorTells
import Derived.Test.YtfhhpmnohbmnoaaGreatDoorNMath
namespace Go.Proofs.YtfhhpmnohbmnoaaGreatDoor
open Go Go.RowKit

theorem TBox.copied {w v1 v2 : World} {c d t : Int} {o : Value} {st : Option Addr} {q kt : Nat} {m : List Sec} (h : TBox w w.heap.size #[.int .i64 c, .int .i64 d, .int .i64 t, o] 27 v1) (h5 : 5 ≤ w.heap.size) (hq : m.length = q) (own : v2.ownsRow v1.heap.size 57 3 (.slice st q kt) q (secC m)) (g : Below v1.heap.size v1 v2) :
    TBox w w.heap.size #[.int .i64 c, .int .i64 d, .int .i64 t, .slice st q kt] 27 ((((v2.setCell ⟨w.heap.size, 0, none⟩ (.int .i64 c)).setCell ⟨w.heap.size, 1, none⟩ (.int .i64 d)).setCell ⟨w.heap.size, 2, none⟩ (.int .i64 t)).setCell ⟨w.heap.size, 3, none⟩ (.slice st q kt)) ∧ Secs ((((v2.setCell ⟨w.heap.size, 0, none⟩ (.int .i64 c)).setCell ⟨w.heap.size, 1, none⟩ (.int .i64 d)).setCell ⟨w.heap.size, 2, none⟩ (.int .i64 t)).setCell ⟨w.heap.size, 3, none⟩ (.slice st q kt)) (.slice st q kt) m := by
  have h2 := h.below g
  have z1 : w.heap.size < v1.heap.size := h.blk.lt
  have k := ((((h2.blk.set 0 (.int .i64 c)).1.set 1 (.int .i64 d)).1.set 2 (.int .i64 t)).1.set 3 (.slice st q kt)).1
  have o4 := only4 v2 w.heap.size (.int .i64 c) (.int .i64 d) (.int .i64 t) (.slice st q kt)
  have s2 : Secs v2 (.slice st q kt) m := own_secs (by rw [hq]; exact own)
  exact ⟨⟨h2.env.only o4 (by simpa using h5), k, h2.bel.trans (o4.belowOf (by have := h2.blk.lt; omega) (by simp))⟩, s2.off o4 (fun j hj => by have := (own.lt j hj).1; simp; omega)⟩
theorem own_zero6 (w : World) (e : TypeId) : (w.alloc (.cells #[.int .i64 0, .int .i64 0, .int .i64 0, .int .i64 0, .int .i64 0, .int .i64 0] e)).ownsRow w.heap.size e 1 (.slice (some ⟨w.heap.size, 0, none⟩) 6 6) 6 (six0.map mkI) :=
  ⟨rfl, .inr ⟨w.heap.size, 6, #[.int .i64 0, .int .i64 0, .int .i64 0, .int .i64 0, .int .i64 0, .int .i64 0], rfl, Nat.le_refl _, heap_alloc_new _ _, Nat.le_refl _, by unfold maxLen; omega, rfl, rfl⟩⟩
/-- The configuration of six resources in its box. -/
structure Nb (w : World) (g h : Nat) (z : World) : Prop where
  env : Env z
  blk : Blk z h #[.int .i64 1, .int .i64 1, .int .i64 0, .int .i64 0, .slice (some ⟨g, 0, none⟩) 6 6] 24
  ints : Ints z (.slice (some ⟨g, 0, none⟩) 6 6) six0
  bel : Below w.heap.size w z
theorem Nb.below {w x z : World} {g h : Nat} (n : Nb w g h x) (b : Below x.heap.size x z) : Nb w g h z := ⟨n.env.below b, n.blk.below b, n.ints.below b, btrans n.bel b⟩
theorem Nb.start {w x : World} (hE : Env x) (hB : Below w.heap.size w x) : Nb w x.heap.size (x.heap.size + 1) ((x.alloc (.cells #[.int .i64 0, .int .i64 0, .int .i64 0, .int .i64 0, .int .i64 0, .int .i64 0] 3)).alloc (.cells #[.int .i64 1, .int .i64 1, .int .i64 0, .int .i64 0, .slice (some ⟨x.heap.size, 0, none⟩) 6 6] 24)) := by
  have g0 := balloc x (.cells #[.int .i64 0, .int .i64 0, .int .i64 0, .int .i64 0, .int .i64 0, .int .i64 0] 3)
  have g1 := balloc (x.alloc (.cells #[.int .i64 0, .int .i64 0, .int .i64 0, .int .i64 0, .int .i64 0, .int .i64 0] 3)) (.cells #[.int .i64 1, .int .i64 1, .int .i64 0, .int .i64 0, .slice (some ⟨x.heap.size, 0, none⟩) 6 6] 24)
  exact ⟨(hE.below g0).below g1, blk_two _ _ _ _, Ints.below (own_ints (l := six0) (own_zero6 x 3)) g1, btrans hB (btrans g0 g1)⟩
theorem six_cfg : cfgB ⟨1, 1, 0, 0, six0⟩ = true := by decide
theorem got_none {l : List UInt8} {w w' : World} {e : Ending} (hn : getTsk 6 l = none) (h : GotTsk ⟨1, 1, 0, 0, six0⟩ l w e w') : e = .returned (.tuple #[.agg zTsk, .int .i64 1]) ∧ Below w.heap.size w w' := by
  rcases h with ⟨b, ⟨_, rfl⟩ | ⟨t, u, _, h, _⟩⟩
  · exact ⟨rfl, b⟩
  · have e : ((six0.length : Nat) : Int) = 6 := rfl
    simp only [e, hn] at h
    cases h
theorem get_none_at {w W : World} {g h : Nat} (N : Nb w g h W) (t : ByteArray) (ht : t.size ≤ 1000) (hn : getTsk 6 t.data.toList = none) :
    Calls Tryz.prog 28 #[.agg #[.int .i64 1, .int .i64 1, .int .i64 0, .int .i64 0, .slice (some ⟨g, 0, none⟩) 6 6], .string t] W fun e w' => e = .returned (.tuple #[.agg #[.int .i64 0, .int .i64 0, .int .i64 0, .slice none 0 0], .int .i64 1]) ∧ Below W.heap.size W w' := by
  refine (getTsk_any 1 1 0 0 (.slice (some ⟨g, 0, none⟩) 6 6) six0 t W (by omega) N.env N.ints (by decide)).mono ?_
  intro e w' hg
  exact got_none hn hg
theorem none_nought (p : ByteArray) : getTsk 6 ((⟨#[48]⟩ : ByteArray) ++ p).data.toList = none := by
  have e : ((⟨#[48]⟩ : ByteArray) ++ p).data.toList = 48 :: p.data.toList := by simp
  rw [e]
  exact no_nought (by omega) _
theorem none_plus (p : ByteArray) : getTsk 6 ((⟨#[43]⟩ : ByteArray) ++ p).data.toList = none := by
  have e : ((⟨#[43]⟩ : ByteArray) ++ p).data.toList = 43 :: p.data.toList := by simp
  rw [e]
  exact no_plus (by omega) _
theorem none_blank (p : ByteArray) : getTsk 6 (p ++ (⟨#[32]⟩ : ByteArray)).data.toList = none := by
  have e : (p ++ (⟨#[32]⟩ : ByteArray)).data.toList = p.data.toList ++ [32] := by simp
  rw [e]
  exact no_blank (by omega) _
theorem size_more (a p : ByteArray) (h : p.size ≤ 60) (ha : a.size = 1) : (a ++ p).size ≤ 1000 ∧ (p ++ a).size ≤ 1000 := by
  rw [ByteArray.size_append, ByteArray.size_append]; omega
end Go.Proofs.YtfhhpmnohbmnoaaGreatDoor
