/- The rules and the texts, in plain words. -/
import Derived.Test.YtakdliecjfeedaaGreatDoorRows
import Derived.WalkKit
import Derived.ProofKit
import Derived.Lib.ItoaNum
import Derived.Lib.ParseIntBCases
import Derived.Lib.Strings
namespace Go.Proofs.YtakdliecjfeedaaGreatDoor
open Go Go.RowKit

structure Cfg where
  cores : Int
  syncs : Int
  lag : Int
  move : Int
  res : List Int
  deriving DecidableEq, Inhabited
structure Sec where
  res : Int
  pos : Int
  len : Int
  deriving DecidableEq, Inhabited
structure Tsk where
  c : Int
  d : Int
  t : Int
  secs : List Sec
  deriving DecidableEq, Inhabited

def inB (v lo hi : Int) : Bool := decide (lo ≤ v) && decide (v ≤ hi)
def oneOfB (n i : Int) : Bool := decide (0 ≤ i) && decide (i < n)
def resB (n : Int) (l : List Int) : Bool := l.all (oneOfB n)
def resAllB (n : Int) (l : List Int) : Bool := decide (l.length ≤ 6) && resB n l
def cfgB (c : Cfg) : Bool := inB c.cores 1 6 && inB c.syncs 0 3 && inB c.lag 0 5 && inB c.move 0 5 && resAllB c.syncs c.res
def secB (n c lo : Int) (s : Sec) : Bool := oneOfB n s.res && inB s.len 1 200 && inB s.pos lo (c - 1)
def secsB (n c : Int) : Int → List Sec → Bool
  | _, [] => true
  | lo, s :: r => secB n c lo s && secsB n c (s.pos + 1) r
def secsAllB (n : Int) (t : Tsk) : Bool := decide (t.secs.length ≤ 2) && secsB n t.c 1 t.secs
def timesB (t : Tsk) : Bool := inB t.t 1 200 && inB t.d 1 t.t && inB t.c 1 t.d
def tskB (n : Int) (t : Tsk) : Bool := timesB t && secsAllB n t
def loadB (c d t : Int) : Bool := inB c 1 20000 && inB t 1 200 && inB d 1 t
def pieceB (cores core off len c : Int) : Bool := oneOfB cores core && inB len 1 200 && inB off 0 (200 - len) && inB c 1 len
theorem inB_iff {v lo hi : Int} : inB v lo hi = true ↔ lo ≤ v ∧ v ≤ hi := by simp [inB]
theorem inB_no {v lo hi : Int} : inB v lo hi = false ↔ ¬ (lo ≤ v ∧ v ≤ hi) := by rw [← inB_iff]; simp
theorem oneOfB_iff {n i : Int} : oneOfB n i = true ↔ 0 ≤ i ∧ i < n := by simp [oneOfB]
theorem oneOfB_no {n i : Int} : oneOfB n i = false ↔ ¬ (0 ≤ i ∧ i < n) := by rw [← oneOfB_iff]; simp

/-- The slice holds these numbers; it begins where its block does. -/
def Ints (w : World) (v : Value) (l : List Int) : Prop :=
  (l = [] ∧ ∃ a cap, v = .slice a 0 cap) ∨ ∃ b cap, v = .slice (some ⟨b, 0, none⟩) l.length cap ∧ b < w.heap.size ∧ ∀ j x, l[j]? = some x → w.cell? ⟨b, j, none⟩ = some (.int .i64 x)
def Secs (w : World) (v : Value) (l : List Sec) : Prop :=
  (l = [] ∧ ∃ a cap, v = .slice a 0 cap) ∨ ∃ b cap, v = .slice (some ⟨b, 0, none⟩) l.length cap ∧ b < w.heap.size ∧ ∀ j s, l[j]? = some s → w.cell? ⟨b, j * 3, none⟩ = some (.int .i64 s.res) ∧ w.cell? ⟨b, j * 3 + 1, none⟩ = some (.int .i64 s.pos) ∧ w.cell? ⟨b, j * 3 + 2, none⟩ = some (.int .i64 s.len)
theorem Ints.below {w w' : World} {v : Value} {l : List Int} (h : Ints w v l) (g : Below w.heap.size w w') : Ints w' v l := by
  rcases h with h | ⟨b, cap, e, hb, hc⟩
  · exact .inl h
  · exact .inr ⟨b, cap, e, Nat.lt_of_lt_of_le hb g.size, fun j x hj => (g.cell (p := ⟨b, j, none⟩) hb).trans (hc j x hj)⟩
theorem Secs.below {w w' : World} {v : Value} {l : List Sec} (h : Secs w v l) (g : Below w.heap.size w w') : Secs w' v l := by
  rcases h with h | ⟨b, cap, e, hb, hc⟩
  · exact .inl h
  · refine .inr ⟨b, cap, e, Nat.lt_of_lt_of_le hb g.size, fun j x hj => ?_⟩
    obtain ⟨h1, h2, h3⟩ := hc j x hj
    exact ⟨(g.cell (p := ⟨b, j * 3, none⟩) hb).trans h1, (g.cell (p := ⟨b, j * 3 + 1, none⟩) hb).trans h2, (g.cell (p := ⟨b, j * 3 + 2, none⟩) hb).trans h3⟩
theorem Ints.form {w : World} {v : Value} {l : List Int} (h : Ints w v l) : ∃ a cap, v = .slice a l.length cap := by
  rcases h with ⟨rfl, a, cap, e⟩ | ⟨b, cap, e, _⟩
  · exact ⟨a, cap, e⟩
  · exact ⟨_, cap, e⟩
theorem Secs.form {w : World} {v : Value} {l : List Sec} (h : Secs w v l) : ∃ a cap, v = .slice a l.length cap := by
  rcases h with ⟨rfl, a, cap, e⟩ | ⟨b, cap, e, _⟩
  · exact ⟨a, cap, e⟩
  · exact ⟨_, cap, e⟩
theorem bcell {W w1 : World} (hb : Below W.heap.size W w1) : (∀ b o, b < W.heap.size → w1.cell? ⟨b, o, none⟩ = W.cell? ⟨b, o, none⟩) ∧ (∀ b o, b < W.heap.size → w1.frozen? ⟨b, o, none⟩ = W.frozen? ⟨b, o, none⟩) :=
  ⟨fun b o h => hb.cell (p := ⟨b, o, none⟩) h, fun b o h => hb.frozen (p := ⟨b, o, none⟩) h⟩
theorem ret_bool {a b : Bool} (h : a = b) : Ending.returned (.bool a) = .returned (.bool b) := by rw [h]
theorem ret_int {k : IntKind} {a b : Int} (h : a = b) : Ending.returned (.int k a) = .returned (.int k b) := by rw [h]
theorem ret_str {a b : ByteArray} (h : a = b) : Ending.returned (.string a) = .returned (.string b) := by rw [h]
theorem balloc (w : World) (o : Obj) : Below w.heap.size w (w.alloc o) := (Below.refl _ _).alloc (Nat.le_refl _) _
theorem btrans {a b c : World} (h : Below a.heap.size a b) (k : Below b.heap.size b c) : Below a.heap.size a c := h.trans (k.mono h.size)
end Go.Proofs.YtakdliecjfeedaaGreatDoor
