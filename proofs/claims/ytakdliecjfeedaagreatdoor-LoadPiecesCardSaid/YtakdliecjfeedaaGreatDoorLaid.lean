/- From what the rows list of the package-level variables to what the walks ask. -/
import Derived.Test.YtakdliecjfeedaaGreatDoorBegun
import Derived.Stop.LaidErr
import Derived.LaidMore
import Derived.LaidHandle
import Derived.MakeChecks
import Derived.Stop.Joined
namespace Go.Proofs.YtakdliecjfeedaaGreatDoor
open Go Go.RowKit

def laid5 : List (String × DataW Unit) := [("math/bits.deBruijn32tab", Rows.laid_math_bits_deBruijn32tab), ("math/bits.deBruijn64tab", Rows.laid_math_bits_deBruijn64tab), ("internal/strconv.uint64pow10", Rows.laid_internal_strconv_uint64pow10), ("strconv.ErrRange", Rows.laid_strconv_ErrRange), ("strconv.ErrSyntax", Rows.laid_strconv_ErrSyntax)]
theorem gBru : Tryz.prog.globalNamed "math/bits.deBruijn64tab" = some 6 := by kernel_rfl
theorem tSyn : (Tryz.prog.globals[3]?).map (·.type) = some 89 := by kernel_rfl
theorem tRan : (Tryz.prog.globals[4]?).map (·.type) = some 89 := by kernel_rfl
theorem tPow : (Tryz.prog.globals[2]?).map (·.type) = some 159 := by kernel_rfl
theorem cEs : Tryz.prog.cellsOf 173 = 1 := by kernel_rfl
theorem cStr : Tryz.prog.cellsOf 9 = 1 := by kernel_rfl
theorem cU64 : Tryz.prog.cellsOf 82 = 1 := by kernel_rfl
theorem cPow : Tryz.prog.cellsOf 159 = 20 := by kernel_rfl
theorem starEs : "*" ++ "errors.errorString" = "*errors.errorString" := by decide
theorem rowEs (u : TypeId) (h : Tryz.prog.typeName? 3 u = some "*errors.errorString") : u = 171 :=
  typeName_ptr_named (nm := "errors.errorString") (by rw [starEs]; kernel_rfl) (by kernel_rfl) (by decide) u (by rw [starEs]; exact h)
theorem powData : (Rows.laid_internal_strconv_uint64pow10 : DataW Unit) = Lib.tabData .u64 Lib.pow10Tab := by kernel_rfl
theorem env_of_laid {W : World} (h : laidMetH Tryz.prog laid5 W) : Env W := by
  rw [MakeChecks.laidMetH_plain _ _ _ (by kernel_rfl)] at h
  have h3 := h.tail.tail
  have hp : laidMet Tryz.prog (("internal/strconv.uint64pow10", Lib.tabData .u64 Lib.pow10Tab) :: [("strconv.ErrRange", Rows.laid_strconv_ErrRange), ("strconv.ErrSyntax", Rows.laid_strconv_ErrSyntax)]) W := by rw [← powData]; exact h3
  have ht := Lib.tabIs_of_head gPow tPow Tryz.underlying159 Tryz.underlying82 cU64 cPow hp
  obtain ⟨a1, s1, v1, -⟩ := laid_sentinel h3.tail gRan tRan Tryz.underlying89 rowEs Tryz.underlying171 Tryz.underlying173 rfl rfl Tryz.underlying9 cEs cStr
  obtain ⟨a2, s2, v2, -⟩ := laid_sentinel h3.tail.tail gSyn tSyn Tryz.underlying89 rowEs Tryz.underlying171 Tryz.underlying173 rfl rfl Tryz.underlying9 cEs cStr
  refine ⟨?_, ⟨_, _, v2⟩, ⟨_, _, v1⟩, ht⟩
  obtain ⟨ps, ⟨g, t, cs, f, p, q, hg, _, hv, _⟩, _⟩ := h.tail
  obtain rfl := Option.some.inj (gBru.symm.trans hg)
  unfold World.var? at hv
  rw [gBru] at hv
  simp only [Option.bind_some] at hv
  cases hb : W.heap[6]? with
  | none => rw [hb] at hv; simp at hv
  | some o => have := (Array.getElem?_eq_some_iff.1 hb).1; omega
theorem door_met (os : Os) (args : Array Value) : laidMetH Tryz.prog laid5 ((World.doorLaid Tryz.prog 62 os).forCall (fun _ _ => 0) ⟨#[], args, []⟩).memory :=
  laidMetH_of_parts3 (fuel := 8) (laidMet_of_run' 8 (by kernel_rfl) (by kernel_rfl)) (by kernel_rfl) (by kernel_rfl)
end Go.Proofs.YtakdliecjfeedaaGreatDoor
