/- Two texts in a row; a text's bytes, one of them turned; the least configuration in its box. -/
import Derived.Test.YtfhhpmnohbmnoaaGreatDoorNA
import Derived.Test.YtfhhpmnohbmnoaaGreatDoorRunsZ
import Derived.Laws.IdiomStrings
import Derived.Laws.BytesArg
namespace Go.Proofs.YtfhhpmnohbmnoaaGreatDoor
open Go Go.RowKit

variable {w x y z : World} {co sy la mo c d t : Int} {sc st : Option Addr} {n kc q kt : Nat} {l : List Int} {m : List Sec}
theorem Cop.one (h : Cop w co sy la mo sc n kc l c d t st q kt m x) :
    Cop w 1 0 0 0 none 0 0 [] c d t st q kt m (((((x.setCell ⟨w.heap.size, 0, none⟩ (.int .i64 1)).setCell ⟨w.heap.size, 1, none⟩ (.int .i64 0)).setCell ⟨w.heap.size, 2, none⟩ (.int .i64 0)).setCell ⟨w.heap.size, 3, none⟩ (.int .i64 0)).setCell ⟨w.heap.size, 4, none⟩ (.slice none 0 0)) := by
  have k5 := (((((h.ct.bc.set 0 (.int .i64 1)).1.set 1 (.int .i64 0)).1.set 2 (.int .i64 0)).1.set 3 (.int .i64 0)).1.set 4 (.slice none 0 0)).1
  have o5 := only5 x w.heap.size (.int .i64 1) (.int .i64 0) (.int .i64 0) (.int .i64 0) (.slice none 0 0)
  have f := h.ct.five
  exact ⟨⟨f, h.ct.env.only o5 (by simp; omega), k5, h.ct.bt.only o5 (by simp), h.ct.bel.trans (o5.belowOf (by have := h.ct.bc.lt; omega) (by simp))⟩, rfl, h.lt, ⟨rfl, .inl ⟨rfl, rfl⟩⟩, own_off h.ot o5 (fun j hj => by have := (h.ot.lt j hj).1; simp; omega), fun j k hj => by simp [Value.ownBlock] at hj⟩
/-- The configuration, the task, the row of their texts. -/
structure Rn (w : World) (co sy la mo : Int) (sc : Option Addr) (n kc : Nat) (l : List Int) (c d t : Int) (st : Option Addr) (q kt : Nat) (m : List Sec) (g : Nat) (p r : ByteArray) (z : World) : Prop where
  cop : Cop w co sy la mo sc n kc l c d t st q kt m z
  blk : Blk z g #[.string p, .string r] 9
theorem Rn.below {g : Nat} {p r : ByteArray} (h : Rn w co sy la mo sc n kc l c d t st q kt m g p r x) (b : Below x.heap.size x y) : Rn w co sy la mo sc n kc l c d t st q kt m g p r y := ⟨h.cop.below b, h.blk.below b⟩
theorem Rn.drew {g : Nat} {p r : ByteArray} (h : Rn w co sy la mo sc n kc l c d t st q kt m g p r x) : Rn w co sy la mo sc n kc l c d t st q kt m g p r x.drew := h.below ((Below.refl _ _).drew)
theorem Rn.made {p r : ByteArray} (h : Cop w co sy la mo sc n kc l c d t st q kt m x) : Rn w co sy la mo sc n kc l c d t st q kt m x.heap.size p r (x.alloc (.cells #[.string p, .string r] 9)) := ⟨h.below (balloc _ _), heap_alloc_new _ _⟩
theorem Rn.text {g : Nat} {p r : ByteArray} (h : Rn w co sy la mo sc n kc l c d t st q kt m g p r x) {i : Nat} (hi : i < 2) : ∃ s, x.cell? ⟨g, i, none⟩ = some (.string s) ∧ (s = p ∨ s = r) := by
  obtain rfl | rfl : i = 0 ∨ i = 1 := by omega
  · exact ⟨p, h.blk.cell 0, .inl rfl⟩
  · exact ⟨r, h.blk.cell 1, .inr rfl⟩
/-- A row of bytes. -/
def Bt (z : World) (g k : Nat) (xs : List Int) : Prop := ∃ C fr, z.heap[g]? = some (.cells C 5 fr) ∧ xs.length = k ∧ (∀ i, i < k → C[i]? = some (.int .u8 (xs.getD i 0))) ∧ k ≤ fr.1
variable {g k i : Nat} {xs : List Int}
theorem Bt.lt (h : Bt z g k xs) : g < z.heap.size := by
  obtain ⟨C, fr, h, _⟩ := h
  exact (Array.getElem?_eq_some_iff.1 h).1
theorem Bt.len (h : Bt z g k xs) : xs.length = k := by
  obtain ⟨C, fr, _, h, _⟩ := h
  exact h
theorem Bt.below (h : Bt z g k xs) (b : Below z.heap.size z y) : Bt y g k xs := by
  have hl := h.lt
  obtain ⟨C, fr, h, r⟩ := h
  exact ⟨C, fr, (b.block g hl).trans h, r⟩
theorem Bt.drew (h : Bt z g k xs) : Bt z.drew g k xs := h.below ((Below.refl _ _).drew)
theorem Bt.cell (h : Bt z g k xs) (hi : i < k) : z.cell? ⟨g, i, none⟩ = some (.int .u8 (xs.getD i 0)) := by
  obtain ⟨C, fr, h, _, hc, _⟩ := h
  simp only [World.cell?, h]
  simpa using hc i hi
theorem Bt.frozen (h : Bt z g k xs) (hi : i < k) : z.frozen? ⟨g, i, none⟩ = false := by
  obtain ⟨C, fr, h, _, _, hf⟩ := h
  unfold World.frozen?
  rw [h]
  simp
  omega
theorem Bt.set (h : Bt z g k xs) (hi : i < k) (v : Int) : Bt (z.setCell ⟨g, i, none⟩ (.int .u8 v)) g k (xs.set i v) := by
  obtain ⟨C, fr, h, hl, hc, hf⟩ := h
  refine ⟨C.setIfInBounds i (.int .u8 v), fr, ?_, by simpa using hl, fun j hj => ?_, hf⟩
  · simp [World.setCell, Array.getElem?_modify, h]
  · have hci := hc i hi
    have hcj := hc j hj
    have hCi := (Array.getElem?_eq_some_iff.1 hci).1
    by_cases e : i = j
    · subst e
      simp [hCi, List.getD, hl, hi]
    · rw [Array.getElem?_setIfInBounds_ne e, hcj]
      simp [List.getD, List.getElem?_set_ne e]
theorem Bt.set_below (hg : x.heap.size ≤ g) (b : Below x.heap.size x z) (v : Int) : Below x.heap.size x (z.setCell ⟨g, i, none⟩ (.int .u8 v)) := b.setCell (p := ⟨g, i, none⟩) hg _
theorem Bt.made (z : World) (s : ByteArray) (cap : Nat) (e : TypeId) (he : e = 5) : Bt ((z.alloc (.cells (bytesRow s cap) e ((bytesRow s cap).size, (bytesRow s cap).size + 1))).drew) z.heap.size s.size (s.data.toList.map (fun b => (b.toNat : Int))) := by
  subst he
  refine ⟨_, _, heap_alloc_new _ _, by simp, fun j hj => ?_, ?_⟩
  · have hj2 : j < s.data.size := hj
    rw [bytesRow_at s cap j hj2]
    simp [List.getD]
    rw [Array.getElem?_eq_getElem hj2]
    rfl
  · simp [bytesRow]
theorem bt_conv (s : ByteArray) (w : World) : (convert 9 53 (.string s)).run Tryz.prog w = .ok (.slice (some ⟨w.heap.size, 0, none⟩) s.size (grownCap w s.size 0 5)) (w.drew.alloc (.cells (bytesRow s (grownCap w s.size 0 5)) 5 ((bytesRow s (grownCap w s.size 0 5)).size, (bytesRow s (grownCap w s.size 0 5)).size + 1))) :=
  run_bytes_of_string (P := Tryz.prog) w 9 53 5 s Tryz.underlying9 Tryz.underlying53 Tryz.underlying5
theorem Bt.text (h : Bt z g k xs) (cap : Nat) : (convert 53 9 (.slice (some ⟨g, 0, none⟩) k cap)).run Tryz.prog z = .ok (.string (strOfNums xs)) z :=
  run_convert_bytes_arg (P := Tryz.prog) z 53 5 Tryz.underlying53 Tryz.underlying5 g 0 k cap xs h.len (fun i hi => by have := h.cell hi; simpa using this) 9 Tryz.underlying9
/-- Behind '[]byte(s)': its bytes, all else as it was. -/
theorem Bt.born {p r s : ByteArray} {gt : Nat} (h : Rn w co sy la mo sc n kc l c d t st q kt m gt p r x) (cap : Nat) : Rn w co sy la mo sc n kc l c d t st q kt m gt p r ((x.alloc (.cells (bytesRow s cap) 5 ((bytesRow s cap).size, (bytesRow s cap).size + 1))).drew) ∧ Bt ((x.alloc (.cells (bytesRow s cap) 5 ((bytesRow s cap).size, (bytesRow s cap).size + 1))).drew) x.heap.size s.size (s.data.toList.map (fun b => (b.toNat : Int))) ∧ Below x.heap.size x ((x.alloc (.cells (bytesRow s cap) 5 ((bytesRow s cap).size, (bytesRow s cap).size + 1))).drew) := by
  have b : Below x.heap.size x ((x.alloc (.cells (bytesRow s cap) 5 ((bytesRow s cap).size, (bytesRow s cap).size + 1))).drew) := btrans (balloc x _) ((Below.refl _ _).drew)
  exact ⟨h.below b, Bt.made x s cap _ rfl, b⟩
/-- Behind a byte that was turned. -/
theorem Bt.turn {p r : ByteArray} {gt : Nat} (h : Rn w co sy la mo sc n kc l c d t st q kt m gt p r x) (hg : x.heap.size = g) (hb : Bt z g k xs) (b : Below x.heap.size x z) (hi : i < k) (v : Int) : Rn w co sy la mo sc n kc l c d t st q kt m gt p r (z.setCell ⟨g, i, none⟩ (.int .u8 v)) ∧ Bt (z.setCell ⟨g, i, none⟩ (.int .u8 v)) g k (xs.set i v) :=
  ⟨h.below (Bt.set_below (by omega) b v), hb.set hi v⟩
end Go.Proofs.YtfhhpmnohbmnoaaGreatDoor
