/- Slices of one text each, as the things of a ring: told by the block that each lies in. -/
import Derived.Test.YtbfbijfedamgaaaOwn
import Derived.Laws.Pointers
namespace Go.Proofs.Ytbfbijfedamgaaa
open Go.RowKit
def mkR (x : Nat) : Value := .slice (some ⟨x, 0, none⟩) 1 1
theorem mkR_one (x : Nat) : (mkR x).oneCell' = true := rfl
end Go.Proofs.Ytbfbijfedamgaaa
