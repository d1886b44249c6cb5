/- What lies in the package-level variables; blocks of the program's own making. -/
import Derived.Test.YtakdliecjfeedaaGreatDoorText2
import Derived.Test.YtakdliecjfeedaaGreatDoorShelf
import Derived.Lib.LaidTab
namespace Go.Proofs.YtakdliecjfeedaaGreatDoor
open Go Go.RowKit

theorem gSyn : Tryz.prog.globalNamed "strconv.ErrSyntax" = some 3 := by kernel_rfl
theorem gRan : Tryz.prog.globalNamed "strconv.ErrRange" = some 4 := by kernel_rfl
theorem gPow : Tryz.prog.globalNamed "internal/strconv.uint64pow10" = some 2 := by kernel_rfl
/-- The variables that strconv reads. -/
def Env (w : World) : Prop := 5 ≤ w.heap.size ∧ (∃ tp p, w.var? Tryz.prog "strconv.ErrSyntax" = some #[.iface tp p]) ∧ (∃ tp p, w.var? Tryz.prog "strconv.ErrRange" = some #[.iface tp p]) ∧ Lib.TabIs Tryz.prog w "internal/strconv.uint64pow10" .u64 Lib.pow10Tab
theorem var_kept {w w' : World} {g : Nat} {name : String} (hg : Tryz.prog.globalNamed name = some g) (h : w'.heap[g]? = w.heap[g]?) : w'.var? Tryz.prog name = w.var? Tryz.prog name := by
  unfold World.var?
  rw [hg]
  simp only [Option.bind_some]
  rw [h]
theorem Env.kept {w w' : World} (h : Env w) (hs : w.heap.size ≤ w'.heap.size) (hb : ∀ k, k < 5 → w'.heap[k]? = w.heap[k]?) : Env w' := by
  obtain ⟨h0, ⟨a, b, h1⟩, ⟨c, d, h2⟩, h3⟩ := h
  exact ⟨by omega, ⟨a, b, (var_kept gSyn (hb 3 (by omega))).trans h1⟩, ⟨c, d, (var_kept gRan (hb 4 (by omega))).trans h2⟩, by unfold Lib.TabIs at *; exact (var_kept gPow (hb 2 (by omega))).trans h3⟩
theorem Env.below {w w' : World} (h : Env w) (g : Below w.heap.size w w') : Env w' := h.kept g.size (fun k hk => g.block k (by have := h.1; omega))

/-- But for the blocks in S nothing that was there has turned. -/
structure Only (S : List Nat) (w w' : World) : Prop where
  os : w'.os = w.os
  tape : w'.tape = w.tape
  output : w'.output = w.output
  size : w.heap.size ≤ w'.heap.size
  block : ∀ k, k < w.heap.size → k ∉ S → w'.heap[k]? = w.heap[k]?
theorem Only.refl (S : List Nat) (w : World) : Only S w w := ⟨rfl, rfl, rfl, Nat.le_refl _, fun _ _ _ => rfl⟩
theorem Below.only {w w' : World} (h : Below w.heap.size w w') (S : List Nat) : Only S w w' := ⟨h.os, h.tape, h.output, h.size, fun k hk _ => h.block k hk⟩
theorem Only.trans {S T : List Nat} {a b c : World} (h : Only S a b) (k : Only T b c) (hT : ∀ x ∈ T, x ∈ S ∨ a.heap.size ≤ x) : Only S a c :=
  ⟨k.os.trans h.os, k.tape.trans h.tape, k.output.trans h.output, Nat.le_trans h.size k.size, fun i hi hs => (k.block i (Nat.lt_of_lt_of_le hi h.size) (fun m => by rcases hT i m with q | q; exact hs q; omega)).trans (h.block i hi hs)⟩
theorem Only.same {S : List Nat} {a b c : World} (h : Only S a b) (k : Only S b c) : Only S a c := h.trans k (fun _ m => .inl m)
theorem Only.below {S : List Nat} {a b c : World} (h : Only S a b) (k : Below b.heap.size b c) : Only S a c := h.trans (Below.only k []) (by simp)
theorem Only.setCell {S : List Nat} {a w : World} (h : Only S a w) {p : Addr} (hp : p.block ∈ S) (u : Value) : Only S a (w.setCell p u) :=
  ⟨h.os, h.tape, h.output, by simpa [World.setCell] using h.size, fun k hk hs => (Below.heap_setCell _ _ _ k (fun e => hs (by rw [e]; exact hp))).trans (h.block k hk hs)⟩
/-- What was not there when all began may turn. -/
theorem Only.belowOf {S : List Nat} {B : Nat} {a b : World} (h : Only S a b) (hB : B ≤ a.heap.size) (hS : ∀ x ∈ S, B ≤ x) : Below B a b := ⟨h.os, h.tape, h.output, h.size, fun k hk => h.block k (by omega) (fun m => by have := hS k m; omega)⟩
theorem Env.only {S : List Nat} {w w' : World} (h : Env w) (g : Only S w w') (hS : ∀ k ∈ S, 5 ≤ k) : Env w' := h.kept g.size (fun k hk => g.block k (by have := h.1; omega) (fun m => by have := hS k m; omega))

/-- A reader lies in block b. -/
def RdAt (w : World) (b : Nat) (r : ByteArray) (bad : Bool) : Prop := w.heap[b]? = some (.cells #[.string r, .bool bad] 107 (0, 0))
def stOf (r : ByteArray) (bad : Bool) : St := if bad then none else some r.data.toList
def Rd (w : World) (b : Nat) (st : St) : Prop := ∃ r bad, RdAt w b r bad ∧ r.size ≤ 140737488355328 ∧ st = stOf r bad
theorem RdAt.lt {w : World} {b : Nat} {r : ByteArray} {bad : Bool} (h : RdAt w b r bad) : b < w.heap.size := (Array.getElem?_eq_some_iff.1 h).1
theorem RdAt.cells {w : World} {b : Nat} {r : ByteArray} {bad : Bool} (h : RdAt w b r bad) : w.cell? ⟨b, 0, none⟩ = some (.string r) ∧ w.cell? ⟨b, 1, none⟩ = some (.bool bad) ∧ w.frozen? ⟨b, 0, none⟩ = false ∧ w.frozen? ⟨b, 1, none⟩ = false := by
  unfold RdAt at h
  simp [World.cell?, World.frozen?, h]
theorem RdAt.below {w w' : World} {b : Nat} {r : ByteArray} {bad : Bool} (h : RdAt w b r bad) (g : Below w.heap.size w w') : RdAt w' b r bad := by
  have := h.lt
  unfold RdAt at *
  rw [g.block b this]; exact h
theorem Rd.below {w w' : World} {b : Nat} {st : St} (h : Rd w b st) (g : Below w.heap.size w w') : Rd w' b st := by
  obtain ⟨r, bad, h1, h2⟩ := h
  exact ⟨r, bad, h1.below g, h2⟩
theorem Rd.only {w w' : World} {b : Nat} {st : St} {S : List Nat} (h : Rd w b st) (g : Only S w w') (hb : b ∉ S) : Rd w' b st := by
  obtain ⟨r, bad, h1, h2⟩ := h
  refine ⟨r, bad, ?_, h2⟩
  have := h1.lt
  unfold RdAt at *
  rw [g.block b this hb]; exact h1
theorem Rd.lt {w : World} {b : Nat} {st : St} (h : Rd w b st) : b < w.heap.size := by
  obtain ⟨r, bad, h1, h2⟩ := h
  exact h1.lt
theorem Rd.belowB {w w' : World} {b B : Nat} {st : St} (h : Rd w b st) (hb : b < B) (g : Below B w w') : Rd w' b st := by
  obtain ⟨r, bad, h1, h2⟩ := h
  refine ⟨r, bad, ?_, h2⟩
  unfold RdAt at *
  rw [g.block b hb]; exact h1
theorem Only.bel {S : List Nat} {a b c : World} (h : Only S a b) (k : Below a.heap.size b c) : Only S a c :=
  ⟨k.os.trans h.os, k.tape.trans h.tape, k.output.trans h.output, Nat.le_trans h.size k.size, fun i hi hs => (k.block i hi).trans (h.block i hi hs)⟩
theorem RdAt.setBad {w : World} {b : Nat} {r : ByteArray} {bad : Bool} (h : RdAt w b r bad) : RdAt (w.setCell ⟨b, 1, none⟩ (.bool true)) b r true ∧ Only [b] w (w.setCell ⟨b, 1, none⟩ (.bool true)) := by
  refine ⟨?_, (Only.refl _ w).setCell (p := ⟨b, 1, none⟩) (by simp) _⟩
  have := heap_setCell_same w b 1 _ _ (.bool true) h
  unfold RdAt
  simpa using this
theorem RdAt.setRest {w : World} {b : Nat} {r : ByteArray} {bad : Bool} (h : RdAt w b r bad) (q : ByteArray) : RdAt (w.setCell ⟨b, 0, none⟩ (.string q)) b q bad ∧ Only [b] w (w.setCell ⟨b, 0, none⟩ (.string q)) := by
  refine ⟨?_, (Only.refl _ w).setCell (p := ⟨b, 0, none⟩) (by simp) _⟩
  have := heap_setCell_same w b 0 _ _ (.string q) h
  unfold RdAt
  simpa using this
theorem size_len (s : ByteArray) : s.data.toList.length = s.size := by rw [Array.length_toList]; rfl
theorem size_list (l : List UInt8) : (⟨l.toArray⟩ : ByteArray).size = l.length := by rw [← size_len]
end Go.Proofs.YtakdliecjfeedaaGreatDoor
