/-
  NARROWER THAN 'FOR EVERY INPUT', by the rows' own cells (each row's printed sentence says how): BusyAll: laid · BusyRun: laid · DemandAll: laid · DemandEver: laid · DemandRun: laid · DemandLess: laid · MostAll: laid · MostJust: laid · BusyOne: laid · BusyMore: laid · BusyOrder: laid · DemandFull: laid · DemandBound: laid · DemandNone: laid · MostEmpty: laid · MostTight: laid · MostLess: laid · DemandTwo: laid · BusySum: laid · MostZero: laid.
  DERIVED. THE GIVEN ROWS OF THIS SEAT. 20 by the template 'for every input the law returns true; each argument reads behind the call as it read before'; 0 by the template 'total and deterministic' (their statements: YtpbjodbcmaaheaaGreatDoorTotals.lean).
  GIVEN WITH THE SEED: the statements are not yours to turn. If you find one false, say at which input.
  Laid BY PROGRAM, IN A SANDBOX (cutbox-rows.mjs): the forced cells as the released guide's own fill.sh prints them over the translation 82c2171b7afb95cc… (all of the seat's roots in one cut). By AI agents, Wed Nov 11 2026. No macro, syntax, notation, axiom, sorry.
-/
import Derived.Test.YtpbjodbcmaaheaaGreatDoorChecked
import GoSem.Claim
import GoSem.ClaimJoined
import GoSem.ClaimMapViews
import Derived.JoinedTies
import Derived.KernelRfl
namespace Go.Proofs.YtpbjodbcmaaheaaGreatDoor
/- THE CELL 'sum', in the pinned program and in every row, IS THE sha256 OF THE DUMP (.gsa) THAT YtpbjodbcmaaheaaGreatDoorProg.lean LOADS. Nothing in Lean hashes anything: it is a label: what it is worth is what the hold of that sum in a sandbox is worth. -/
noncomputable def Tryz.pinned : Pinned := { name := "ytpbjodbcmaaheaagreatdoor", sum := "82c2171b7afb95cc589ed15b796e29121379589b64b31f16cc9c80f7b1eae118", checked := Tryz.checked }
namespace Rows
def none {H : Type} : Left H := { results := [], args := [] }

/- WHAT THE LISTED PACKAGE-LEVEL VARIABLES READ AS WHEN THE CALL BEGINS. Each datum BY PROGRAM (the guide's laid-datum.mjs) off the statement by which the dump's own 'gosem.cut.vars' lays the variable. In a bare row this is a premise. The card (YtpbjodbcmaaheaaGreatDoorCards.lean) ties it to the program's text. -/
def laid_math_bits_deBruijn32tab {H : Type} : DataW H := .agg [.lit (.int .u8 0), .lit (.int .u8 1), .lit (.int .u8 28), .lit (.int .u8 2), .lit (.int .u8 29), .lit (.int .u8 14), .lit (.int .u8 24), .lit (.int .u8 3), .lit (.int .u8 30), .lit (.int .u8 22), .lit (.int .u8 20), .lit (.int .u8 15), .lit (.int .u8 25), .lit (.int .u8 17), .lit (.int .u8 4), .lit (.int .u8 8), .lit (.int .u8 31), .lit (.int .u8 27), .lit (.int .u8 13), .lit (.int .u8 23), .lit (.int .u8 21), .lit (.int .u8 19), .lit (.int .u8 16), .lit (.int .u8 7), .lit (.int .u8 26), .lit (.int .u8 12), .lit (.int .u8 18), .lit (.int .u8 6), .lit (.int .u8 11), .lit (.int .u8 5), .lit (.int .u8 10), .lit (.int .u8 9)]
def laid_math_bits_deBruijn64tab {H : Type} : DataW H := .agg [.lit (.int .u8 0), .lit (.int .u8 1), .lit (.int .u8 56), .lit (.int .u8 2), .lit (.int .u8 57), .lit (.int .u8 49), .lit (.int .u8 28), .lit (.int .u8 3), .lit (.int .u8 61), .lit (.int .u8 58), .lit (.int .u8 42), .lit (.int .u8 50), .lit (.int .u8 38), .lit (.int .u8 29), .lit (.int .u8 17), .lit (.int .u8 4), .lit (.int .u8 62), .lit (.int .u8 47), .lit (.int .u8 59), .lit (.int .u8 36), .lit (.int .u8 45), .lit (.int .u8 43), .lit (.int .u8 51), .lit (.int .u8 22), .lit (.int .u8 53), .lit (.int .u8 39), .lit (.int .u8 33), .lit (.int .u8 30), .lit (.int .u8 24), .lit (.int .u8 18), .lit (.int .u8 12), .lit (.int .u8 5), .lit (.int .u8 63), .lit (.int .u8 55), .lit (.int .u8 48), .lit (.int .u8 27), .lit (.int .u8 60), .lit (.int .u8 41), .lit (.int .u8 37), .lit (.int .u8 16), .lit (.int .u8 46), .lit (.int .u8 35), .lit (.int .u8 44), .lit (.int .u8 21), .lit (.int .u8 52), .lit (.int .u8 32), .lit (.int .u8 23), .lit (.int .u8 11), .lit (.int .u8 54), .lit (.int .u8 26), .lit (.int .u8 40), .lit (.int .u8 15), .lit (.int .u8 34), .lit (.int .u8 20), .lit (.int .u8 31), .lit (.int .u8 10), .lit (.int .u8 25), .lit (.int .u8 14), .lit (.int .u8 19), .lit (.int .u8 9), .lit (.int .u8 13), .lit (.int .u8 8), .lit (.int .u8 7), .lit (.int .u8 6)]
def laid_internal_strconv_uint64pow10 {H : Type} : DataW H := .agg [.lit (.int .u64 1), .lit (.int .u64 10), .lit (.int .u64 100), .lit (.int .u64 1000), .lit (.int .u64 10000), .lit (.int .u64 100000), .lit (.int .u64 1000000), .lit (.int .u64 10000000), .lit (.int .u64 100000000), .lit (.int .u64 1000000000), .lit (.int .u64 10000000000), .lit (.int .u64 100000000000), .lit (.int .u64 1000000000000), .lit (.int .u64 10000000000000), .lit (.int .u64 100000000000000), .lit (.int .u64 1000000000000000), .lit (.int .u64 10000000000000000), .lit (.int .u64 100000000000000000), .lit (.int .u64 1000000000000000000), .lit (.int .u64 10000000000000000000)]
def laid_strconv_ErrRange {H : Type} : DataW H := .iface "*errors.errorString" (.ptr (.agg [.lit (.string [118, 97, 108, 117, 101, 32, 111, 117, 116, 32, 111, 102, 32, 114, 97, 110, 103, 101])]))
def laid_strconv_ErrSyntax {H : Type} : DataW H := .iface "*errors.errorString" (.ptr (.agg [.lit (.string [105, 110, 118, 97, 108, 105, 100, 32, 115, 121, 110, 116, 97, 120])]))

/-- 'hortatorlaw9.BusyAll': WHATEVER THE INPUT: true; the input reads as it did. -/
def busyAllSpec : ChangeSpec := { name := "busyAll", fn := fun _ => fun
  | [d1, d2] => { results := [.lit (.bool true)], args := [d1, d2] }
  | _ => none }
def busyAllRow : OpenClaim := { program := "ytpbjodbcmaaheaagreatdoor", sum := "82c2171b7afb95cc589ed15b796e29121379589b64b31f16cc9c80f7b1eae118", func := "hortator/hortatorlaw9.BusyAll", spec := "busyAll", unfollowed := true, recurses := true, named := ["internal/strconv.uint64pow10", "math/bits.deBruijn32tab", "math/bits.deBruijn64tab", "strconv.ErrSyntax", "strconv.ErrRange"], apart := false, laid := [("math/bits.deBruijn32tab", laid_math_bits_deBruijn32tab), ("math/bits.deBruijn64tab", laid_math_bits_deBruijn64tab), ("internal/strconv.uint64pow10", laid_internal_strconv_uint64pow10), ("strconv.ErrRange", laid_strconv_ErrRange), ("strconv.ErrSyntax", laid_strconv_ErrSyntax)] }
def BusyAllSaid : Prop := busyAllRow.holds Tryz.pinned (OpenSpec.ofChange busyAllSpec)

/-- ITS FALSE NEIGHBOUR: 'it returns false'. Refute it at one input. -/
def busyAllWrong : ChangeSpec := { name := "busyAll", fn := fun _ => fun
  | [d1, d2] => { results := [.lit (.bool false)], args := [d1, d2] }
  | _ => none }
def BusyAllWrongFalsely : Prop := busyAllRow.holds Tryz.pinned (OpenSpec.ofChange busyAllWrong)

/-- 'hortatorlaw9.BusyRun': WHATEVER THE INPUT: true; the input reads as it did. -/
def busyRunSpec : ChangeSpec := { name := "busyRun", fn := fun _ => fun
  | [d] => { results := [.lit (.bool true)], args := [d] }
  | _ => none }
def busyRunRow : OpenClaim := { program := "ytpbjodbcmaaheaagreatdoor", sum := "82c2171b7afb95cc589ed15b796e29121379589b64b31f16cc9c80f7b1eae118", func := "hortator/hortatorlaw9.BusyRun", spec := "busyRun", unfollowed := true, recurses := true, named := ["internal/strconv.uint64pow10", "math/bits.deBruijn32tab", "math/bits.deBruijn64tab", "strconv.ErrSyntax", "strconv.ErrRange"], apart := false, laid := [("math/bits.deBruijn32tab", laid_math_bits_deBruijn32tab), ("math/bits.deBruijn64tab", laid_math_bits_deBruijn64tab), ("internal/strconv.uint64pow10", laid_internal_strconv_uint64pow10), ("strconv.ErrRange", laid_strconv_ErrRange), ("strconv.ErrSyntax", laid_strconv_ErrSyntax)] }
def BusyRunSaid : Prop := busyRunRow.holds Tryz.pinned (OpenSpec.ofChange busyRunSpec)

/-- ITS FALSE NEIGHBOUR: 'it returns false'. Refute it at one input. -/
def busyRunWrong : ChangeSpec := { name := "busyRun", fn := fun _ => fun
  | [d] => { results := [.lit (.bool false)], args := [d] }
  | _ => none }
def BusyRunWrongFalsely : Prop := busyRunRow.holds Tryz.pinned (OpenSpec.ofChange busyRunWrong)

/-- 'hortatorlaw9.DemandAll': WHATEVER THE INPUT: true; the input reads as it did. -/
def demandAllSpec : ChangeSpec := { name := "demandAll", fn := fun _ => fun
  | [d1, d2] => { results := [.lit (.bool true)], args := [d1, d2] }
  | _ => none }
def demandAllRow : OpenClaim := { program := "ytpbjodbcmaaheaagreatdoor", sum := "82c2171b7afb95cc589ed15b796e29121379589b64b31f16cc9c80f7b1eae118", func := "hortator/hortatorlaw9.DemandAll", spec := "demandAll", unfollowed := true, recurses := true, named := ["internal/strconv.uint64pow10", "math/bits.deBruijn32tab", "math/bits.deBruijn64tab", "strconv.ErrSyntax", "strconv.ErrRange"], apart := false, laid := [("math/bits.deBruijn32tab", laid_math_bits_deBruijn32tab), ("math/bits.deBruijn64tab", laid_math_bits_deBruijn64tab), ("internal/strconv.uint64pow10", laid_internal_strconv_uint64pow10), ("strconv.ErrRange", laid_strconv_ErrRange), ("strconv.ErrSyntax", laid_strconv_ErrSyntax)] }
def DemandAllSaid : Prop := demandAllRow.holds Tryz.pinned (OpenSpec.ofChange demandAllSpec)

/-- ITS FALSE NEIGHBOUR: 'it returns false'. Refute it at one input. -/
def demandAllWrong : ChangeSpec := { name := "demandAll", fn := fun _ => fun
  | [d1, d2] => { results := [.lit (.bool false)], args := [d1, d2] }
  | _ => none }
def DemandAllWrongFalsely : Prop := demandAllRow.holds Tryz.pinned (OpenSpec.ofChange demandAllWrong)

/-- 'hortatorlaw9.DemandEver': WHATEVER THE INPUT: true; the input reads as it did. -/
def demandEverSpec : ChangeSpec := { name := "demandEver", fn := fun _ => fun
  | [d1, d2] => { results := [.lit (.bool true)], args := [d1, d2] }
  | _ => none }
def demandEverRow : OpenClaim := { program := "ytpbjodbcmaaheaagreatdoor", sum := "82c2171b7afb95cc589ed15b796e29121379589b64b31f16cc9c80f7b1eae118", func := "hortator/hortatorlaw9.DemandEver", spec := "demandEver", unfollowed := true, recurses := true, named := ["internal/strconv.uint64pow10", "math/bits.deBruijn32tab", "math/bits.deBruijn64tab", "strconv.ErrSyntax", "strconv.ErrRange"], apart := false, laid := [("math/bits.deBruijn32tab", laid_math_bits_deBruijn32tab), ("math/bits.deBruijn64tab", laid_math_bits_deBruijn64tab), ("internal/strconv.uint64pow10", laid_internal_strconv_uint64pow10), ("strconv.ErrRange", laid_strconv_ErrRange), ("strconv.ErrSyntax", laid_strconv_ErrSyntax)] }
def DemandEverSaid : Prop := demandEverRow.holds Tryz.pinned (OpenSpec.ofChange demandEverSpec)

/-- ITS FALSE NEIGHBOUR: 'it returns false'. Refute it at one input. -/
def demandEverWrong : ChangeSpec := { name := "demandEver", fn := fun _ => fun
  | [d1, d2] => { results := [.lit (.bool false)], args := [d1, d2] }
  | _ => none }
def DemandEverWrongFalsely : Prop := demandEverRow.holds Tryz.pinned (OpenSpec.ofChange demandEverWrong)

/-- 'hortatorlaw9.DemandRun': WHATEVER THE INPUT: true; the input reads as it did. -/
def demandRunSpec : ChangeSpec := { name := "demandRun", fn := fun _ => fun
  | [d1, d2] => { results := [.lit (.bool true)], args := [d1, d2] }
  | _ => none }
def demandRunRow : OpenClaim := { program := "ytpbjodbcmaaheaagreatdoor", sum := "82c2171b7afb95cc589ed15b796e29121379589b64b31f16cc9c80f7b1eae118", func := "hortator/hortatorlaw9.DemandRun", spec := "demandRun", unfollowed := true, recurses := true, named := ["internal/strconv.uint64pow10", "math/bits.deBruijn32tab", "math/bits.deBruijn64tab", "strconv.ErrSyntax", "strconv.ErrRange"], apart := false, laid := [("math/bits.deBruijn32tab", laid_math_bits_deBruijn32tab), ("math/bits.deBruijn64tab", laid_math_bits_deBruijn64tab), ("internal/strconv.uint64pow10", laid_internal_strconv_uint64pow10), ("strconv.ErrRange", laid_strconv_ErrRange), ("strconv.ErrSyntax", laid_strconv_ErrSyntax)] }
def DemandRunSaid : Prop := demandRunRow.holds Tryz.pinned (OpenSpec.ofChange demandRunSpec)

/-- ITS FALSE NEIGHBOUR: 'it returns false'. Refute it at one input. -/
def demandRunWrong : ChangeSpec := { name := "demandRun", fn := fun _ => fun
  | [d1, d2] => { results := [.lit (.bool false)], args := [d1, d2] }
  | _ => none }
def DemandRunWrongFalsely : Prop := demandRunRow.holds Tryz.pinned (OpenSpec.ofChange demandRunWrong)

/-- 'hortatorlaw9.DemandLess': WHATEVER THE INPUT: true; the input reads as it did. -/
def demandLessSpec : ChangeSpec := { name := "demandLess", fn := fun _ => fun
  | [d1, d2, d3, d4, d5] => { results := [.lit (.bool true)], args := [d1, d2, d3, d4, d5] }
  | _ => none }
def demandLessRow : OpenClaim := { program := "ytpbjodbcmaaheaagreatdoor", sum := "82c2171b7afb95cc589ed15b796e29121379589b64b31f16cc9c80f7b1eae118", func := "hortator/hortatorlaw9.DemandLess", spec := "demandLess", unfollowed := true, recurses := true, named := ["internal/strconv.uint64pow10", "math/bits.deBruijn32tab", "math/bits.deBruijn64tab", "strconv.ErrSyntax", "strconv.ErrRange"], apart := false, laid := [("math/bits.deBruijn32tab", laid_math_bits_deBruijn32tab), ("math/bits.deBruijn64tab", laid_math_bits_deBruijn64tab), ("internal/strconv.uint64pow10", laid_internal_strconv_uint64pow10), ("strconv.ErrRange", laid_strconv_ErrRange), ("strconv.ErrSyntax", laid_strconv_ErrSyntax)] }
def DemandLessSaid : Prop := demandLessRow.holds Tryz.pinned (OpenSpec.ofChange demandLessSpec)

/-- ITS FALSE NEIGHBOUR: 'it returns false'. Refute it at one input. -/
def demandLessWrong : ChangeSpec := { name := "demandLess", fn := fun _ => fun
  | [d1, d2, d3, d4, d5] => { results := [.lit (.bool false)], args := [d1, d2, d3, d4, d5] }
  | _ => none }
def DemandLessWrongFalsely : Prop := demandLessRow.holds Tryz.pinned (OpenSpec.ofChange demandLessWrong)

/-- 'hortatorlaw9.MostAll': WHATEVER THE INPUT: true; the input reads as it did. -/
def mostAllSpec : ChangeSpec := { name := "mostAll", fn := fun _ => fun
  | [d1, d2, d3, d4] => { results := [.lit (.bool true)], args := [d1, d2, d3, d4] }
  | _ => none }
def mostAllRow : OpenClaim := { program := "ytpbjodbcmaaheaagreatdoor", sum := "82c2171b7afb95cc589ed15b796e29121379589b64b31f16cc9c80f7b1eae118", func := "hortator/hortatorlaw9.MostAll", spec := "mostAll", unfollowed := true, recurses := true, named := ["internal/strconv.uint64pow10", "math/bits.deBruijn32tab", "math/bits.deBruijn64tab", "strconv.ErrSyntax", "strconv.ErrRange"], apart := false, laid := [("math/bits.deBruijn32tab", laid_math_bits_deBruijn32tab), ("math/bits.deBruijn64tab", laid_math_bits_deBruijn64tab), ("internal/strconv.uint64pow10", laid_internal_strconv_uint64pow10), ("strconv.ErrRange", laid_strconv_ErrRange), ("strconv.ErrSyntax", laid_strconv_ErrSyntax)] }
def MostAllSaid : Prop := mostAllRow.holds Tryz.pinned (OpenSpec.ofChange mostAllSpec)

/-- ITS FALSE NEIGHBOUR: 'it returns false'. Refute it at one input. -/
def mostAllWrong : ChangeSpec := { name := "mostAll", fn := fun _ => fun
  | [d1, d2, d3, d4] => { results := [.lit (.bool false)], args := [d1, d2, d3, d4] }
  | _ => none }
def MostAllWrongFalsely : Prop := mostAllRow.holds Tryz.pinned (OpenSpec.ofChange mostAllWrong)

/-- 'hortatorlaw9.MostJust': WHATEVER THE INPUT: true; the input reads as it did. -/
def mostJustSpec : ChangeSpec := { name := "mostJust", fn := fun _ => fun
  | [d1, d2, d3, d4] => { results := [.lit (.bool true)], args := [d1, d2, d3, d4] }
  | _ => none }
def mostJustRow : OpenClaim := { program := "ytpbjodbcmaaheaagreatdoor", sum := "82c2171b7afb95cc589ed15b796e29121379589b64b31f16cc9c80f7b1eae118", func := "hortator/hortatorlaw9.MostJust", spec := "mostJust", unfollowed := true, recurses := true, named := ["internal/strconv.uint64pow10", "math/bits.deBruijn32tab", "math/bits.deBruijn64tab", "strconv.ErrSyntax", "strconv.ErrRange"], apart := false, laid := [("math/bits.deBruijn32tab", laid_math_bits_deBruijn32tab), ("math/bits.deBruijn64tab", laid_math_bits_deBruijn64tab), ("internal/strconv.uint64pow10", laid_internal_strconv_uint64pow10), ("strconv.ErrRange", laid_strconv_ErrRange), ("strconv.ErrSyntax", laid_strconv_ErrSyntax)] }
def MostJustSaid : Prop := mostJustRow.holds Tryz.pinned (OpenSpec.ofChange mostJustSpec)

/-- ITS FALSE NEIGHBOUR: 'it returns false'. Refute it at one input. -/
def mostJustWrong : ChangeSpec := { name := "mostJust", fn := fun _ => fun
  | [d1, d2, d3, d4] => { results := [.lit (.bool false)], args := [d1, d2, d3, d4] }
  | _ => none }
def MostJustWrongFalsely : Prop := mostJustRow.holds Tryz.pinned (OpenSpec.ofChange mostJustWrong)

/-- 'hortatorlaw9.BusyOne': WHATEVER THE INPUT: true; the input reads as it did. -/
def busyOneSpec : ChangeSpec := { name := "busyOne", fn := fun _ => fun
  | [d1, d2] => { results := [.lit (.bool true)], args := [d1, d2] }
  | _ => none }
def busyOneRow : OpenClaim := { program := "ytpbjodbcmaaheaagreatdoor", sum := "82c2171b7afb95cc589ed15b796e29121379589b64b31f16cc9c80f7b1eae118", func := "hortator/hortatorlaw9.BusyOne", spec := "busyOne", unfollowed := true, recurses := true, named := ["internal/strconv.uint64pow10", "math/bits.deBruijn32tab", "math/bits.deBruijn64tab", "strconv.ErrSyntax", "strconv.ErrRange"], apart := false, laid := [("math/bits.deBruijn32tab", laid_math_bits_deBruijn32tab), ("math/bits.deBruijn64tab", laid_math_bits_deBruijn64tab), ("internal/strconv.uint64pow10", laid_internal_strconv_uint64pow10), ("strconv.ErrRange", laid_strconv_ErrRange), ("strconv.ErrSyntax", laid_strconv_ErrSyntax)] }
def BusyOneSaid : Prop := busyOneRow.holds Tryz.pinned (OpenSpec.ofChange busyOneSpec)

/-- ITS FALSE NEIGHBOUR: 'it returns false'. Refute it at one input. -/
def busyOneWrong : ChangeSpec := { name := "busyOne", fn := fun _ => fun
  | [d1, d2] => { results := [.lit (.bool false)], args := [d1, d2] }
  | _ => none }
def BusyOneWrongFalsely : Prop := busyOneRow.holds Tryz.pinned (OpenSpec.ofChange busyOneWrong)

/-- 'hortatorlaw9.BusyMore': WHATEVER THE INPUT: true; the input reads as it did. -/
def busyMoreSpec : ChangeSpec := { name := "busyMore", fn := fun _ => fun
  | [d1, d2] => { results := [.lit (.bool true)], args := [d1, d2] }
  | _ => none }
def busyMoreRow : OpenClaim := { program := "ytpbjodbcmaaheaagreatdoor", sum := "82c2171b7afb95cc589ed15b796e29121379589b64b31f16cc9c80f7b1eae118", func := "hortator/hortatorlaw9.BusyMore", spec := "busyMore", unfollowed := true, recurses := true, named := ["internal/strconv.uint64pow10", "math/bits.deBruijn32tab", "math/bits.deBruijn64tab", "strconv.ErrSyntax", "strconv.ErrRange"], apart := false, laid := [("math/bits.deBruijn32tab", laid_math_bits_deBruijn32tab), ("math/bits.deBruijn64tab", laid_math_bits_deBruijn64tab), ("internal/strconv.uint64pow10", laid_internal_strconv_uint64pow10), ("strconv.ErrRange", laid_strconv_ErrRange), ("strconv.ErrSyntax", laid_strconv_ErrSyntax)] }
def BusyMoreSaid : Prop := busyMoreRow.holds Tryz.pinned (OpenSpec.ofChange busyMoreSpec)

/-- ITS FALSE NEIGHBOUR: 'it returns false'. Refute it at one input. -/
def busyMoreWrong : ChangeSpec := { name := "busyMore", fn := fun _ => fun
  | [d1, d2] => { results := [.lit (.bool false)], args := [d1, d2] }
  | _ => none }
def BusyMoreWrongFalsely : Prop := busyMoreRow.holds Tryz.pinned (OpenSpec.ofChange busyMoreWrong)

/-- 'hortatorlaw9.BusyOrder': WHATEVER THE INPUT: true; the input reads as it did. -/
def busyOrderSpec : ChangeSpec := { name := "busyOrder", fn := fun _ => fun
  | [d1, d2] => { results := [.lit (.bool true)], args := [d1, d2] }
  | _ => none }
def busyOrderRow : OpenClaim := { program := "ytpbjodbcmaaheaagreatdoor", sum := "82c2171b7afb95cc589ed15b796e29121379589b64b31f16cc9c80f7b1eae118", func := "hortator/hortatorlaw9.BusyOrder", spec := "busyOrder", unfollowed := true, recurses := true, named := ["internal/strconv.uint64pow10", "math/bits.deBruijn32tab", "math/bits.deBruijn64tab", "strconv.ErrSyntax", "strconv.ErrRange"], apart := false, laid := [("math/bits.deBruijn32tab", laid_math_bits_deBruijn32tab), ("math/bits.deBruijn64tab", laid_math_bits_deBruijn64tab), ("internal/strconv.uint64pow10", laid_internal_strconv_uint64pow10), ("strconv.ErrRange", laid_strconv_ErrRange), ("strconv.ErrSyntax", laid_strconv_ErrSyntax)] }
def BusyOrderSaid : Prop := busyOrderRow.holds Tryz.pinned (OpenSpec.ofChange busyOrderSpec)

/-- ITS FALSE NEIGHBOUR: 'it returns false'. Refute it at one input. -/
def busyOrderWrong : ChangeSpec := { name := "busyOrder", fn := fun _ => fun
  | [d1, d2] => { results := [.lit (.bool false)], args := [d1, d2] }
  | _ => none }
def BusyOrderWrongFalsely : Prop := busyOrderRow.holds Tryz.pinned (OpenSpec.ofChange busyOrderWrong)

/-- 'hortatorlaw9.DemandFull': WHATEVER THE INPUT: true; the input reads as it did. -/
def demandFullSpec : ChangeSpec := { name := "demandFull", fn := fun _ => fun
  | [d1, d2] => { results := [.lit (.bool true)], args := [d1, d2] }
  | _ => none }
def demandFullRow : OpenClaim := { program := "ytpbjodbcmaaheaagreatdoor", sum := "82c2171b7afb95cc589ed15b796e29121379589b64b31f16cc9c80f7b1eae118", func := "hortator/hortatorlaw9.DemandFull", spec := "demandFull", unfollowed := true, recurses := true, named := ["internal/strconv.uint64pow10", "math/bits.deBruijn32tab", "math/bits.deBruijn64tab", "strconv.ErrSyntax", "strconv.ErrRange"], apart := false, laid := [("math/bits.deBruijn32tab", laid_math_bits_deBruijn32tab), ("math/bits.deBruijn64tab", laid_math_bits_deBruijn64tab), ("internal/strconv.uint64pow10", laid_internal_strconv_uint64pow10), ("strconv.ErrRange", laid_strconv_ErrRange), ("strconv.ErrSyntax", laid_strconv_ErrSyntax)] }
def DemandFullSaid : Prop := demandFullRow.holds Tryz.pinned (OpenSpec.ofChange demandFullSpec)

/-- ITS FALSE NEIGHBOUR: 'it returns false'. Refute it at one input. -/
def demandFullWrong : ChangeSpec := { name := "demandFull", fn := fun _ => fun
  | [d1, d2] => { results := [.lit (.bool false)], args := [d1, d2] }
  | _ => none }
def DemandFullWrongFalsely : Prop := demandFullRow.holds Tryz.pinned (OpenSpec.ofChange demandFullWrong)

/-- 'hortatorlaw9.DemandBound': WHATEVER THE INPUT: true; the input reads as it did. -/
def demandBoundSpec : ChangeSpec := { name := "demandBound", fn := fun _ => fun
  | [d1, d2] => { results := [.lit (.bool true)], args := [d1, d2] }
  | _ => none }
def demandBoundRow : OpenClaim := { program := "ytpbjodbcmaaheaagreatdoor", sum := "82c2171b7afb95cc589ed15b796e29121379589b64b31f16cc9c80f7b1eae118", func := "hortator/hortatorlaw9.DemandBound", spec := "demandBound", unfollowed := true, recurses := true, named := ["internal/strconv.uint64pow10", "math/bits.deBruijn32tab", "math/bits.deBruijn64tab", "strconv.ErrSyntax", "strconv.ErrRange"], apart := false, laid := [("math/bits.deBruijn32tab", laid_math_bits_deBruijn32tab), ("math/bits.deBruijn64tab", laid_math_bits_deBruijn64tab), ("internal/strconv.uint64pow10", laid_internal_strconv_uint64pow10), ("strconv.ErrRange", laid_strconv_ErrRange), ("strconv.ErrSyntax", laid_strconv_ErrSyntax)] }
def DemandBoundSaid : Prop := demandBoundRow.holds Tryz.pinned (OpenSpec.ofChange demandBoundSpec)

/-- ITS FALSE NEIGHBOUR: 'it returns false'. Refute it at one input. -/
def demandBoundWrong : ChangeSpec := { name := "demandBound", fn := fun _ => fun
  | [d1, d2] => { results := [.lit (.bool false)], args := [d1, d2] }
  | _ => none }
def DemandBoundWrongFalsely : Prop := demandBoundRow.holds Tryz.pinned (OpenSpec.ofChange demandBoundWrong)

/-- 'hortatorlaw9.DemandNone': WHATEVER THE INPUT: true; the input reads as it did. -/
def demandNoneSpec : ChangeSpec := { name := "demandNone", fn := fun _ => fun
  | [d1, d2] => { results := [.lit (.bool true)], args := [d1, d2] }
  | _ => none }
def demandNoneRow : OpenClaim := { program := "ytpbjodbcmaaheaagreatdoor", sum := "82c2171b7afb95cc589ed15b796e29121379589b64b31f16cc9c80f7b1eae118", func := "hortator/hortatorlaw9.DemandNone", spec := "demandNone", unfollowed := true, recurses := true, named := ["internal/strconv.uint64pow10", "math/bits.deBruijn32tab", "math/bits.deBruijn64tab", "strconv.ErrSyntax", "strconv.ErrRange"], apart := false, laid := [("math/bits.deBruijn32tab", laid_math_bits_deBruijn32tab), ("math/bits.deBruijn64tab", laid_math_bits_deBruijn64tab), ("internal/strconv.uint64pow10", laid_internal_strconv_uint64pow10), ("strconv.ErrRange", laid_strconv_ErrRange), ("strconv.ErrSyntax", laid_strconv_ErrSyntax)] }
def DemandNoneSaid : Prop := demandNoneRow.holds Tryz.pinned (OpenSpec.ofChange demandNoneSpec)

/-- ITS FALSE NEIGHBOUR: 'it returns false'. Refute it at one input. -/
def demandNoneWrong : ChangeSpec := { name := "demandNone", fn := fun _ => fun
  | [d1, d2] => { results := [.lit (.bool false)], args := [d1, d2] }
  | _ => none }
def DemandNoneWrongFalsely : Prop := demandNoneRow.holds Tryz.pinned (OpenSpec.ofChange demandNoneWrong)

/-- 'hortatorlaw9.MostEmpty': WHATEVER THE INPUT: true; the input reads as it did. -/
def mostEmptySpec : ChangeSpec := { name := "mostEmpty", fn := fun _ => fun
  | [d1, d2, d3] => { results := [.lit (.bool true)], args := [d1, d2, d3] }
  | _ => none }
def mostEmptyRow : OpenClaim := { program := "ytpbjodbcmaaheaagreatdoor", sum := "82c2171b7afb95cc589ed15b796e29121379589b64b31f16cc9c80f7b1eae118", func := "hortator/hortatorlaw9.MostEmpty", spec := "mostEmpty", unfollowed := true, recurses := true, named := ["internal/strconv.uint64pow10", "math/bits.deBruijn32tab", "math/bits.deBruijn64tab", "strconv.ErrSyntax", "strconv.ErrRange"], apart := false, laid := [("math/bits.deBruijn32tab", laid_math_bits_deBruijn32tab), ("math/bits.deBruijn64tab", laid_math_bits_deBruijn64tab), ("internal/strconv.uint64pow10", laid_internal_strconv_uint64pow10), ("strconv.ErrRange", laid_strconv_ErrRange), ("strconv.ErrSyntax", laid_strconv_ErrSyntax)] }
def MostEmptySaid : Prop := mostEmptyRow.holds Tryz.pinned (OpenSpec.ofChange mostEmptySpec)

/-- ITS FALSE NEIGHBOUR: 'it returns false'. Refute it at one input. -/
def mostEmptyWrong : ChangeSpec := { name := "mostEmpty", fn := fun _ => fun
  | [d1, d2, d3] => { results := [.lit (.bool false)], args := [d1, d2, d3] }
  | _ => none }
def MostEmptyWrongFalsely : Prop := mostEmptyRow.holds Tryz.pinned (OpenSpec.ofChange mostEmptyWrong)

/-- 'hortatorlaw9.MostTight': WHATEVER THE INPUT: true; the input reads as it did. -/
def mostTightSpec : ChangeSpec := { name := "mostTight", fn := fun _ => fun
  | [d1, d2, d3] => { results := [.lit (.bool true)], args := [d1, d2, d3] }
  | _ => none }
def mostTightRow : OpenClaim := { program := "ytpbjodbcmaaheaagreatdoor", sum := "82c2171b7afb95cc589ed15b796e29121379589b64b31f16cc9c80f7b1eae118", func := "hortator/hortatorlaw9.MostTight", spec := "mostTight", unfollowed := true, recurses := true, named := ["internal/strconv.uint64pow10", "math/bits.deBruijn32tab", "math/bits.deBruijn64tab", "strconv.ErrSyntax", "strconv.ErrRange"], apart := false, laid := [("math/bits.deBruijn32tab", laid_math_bits_deBruijn32tab), ("math/bits.deBruijn64tab", laid_math_bits_deBruijn64tab), ("internal/strconv.uint64pow10", laid_internal_strconv_uint64pow10), ("strconv.ErrRange", laid_strconv_ErrRange), ("strconv.ErrSyntax", laid_strconv_ErrSyntax)] }
def MostTightSaid : Prop := mostTightRow.holds Tryz.pinned (OpenSpec.ofChange mostTightSpec)

/-- ITS FALSE NEIGHBOUR: 'it returns false'. Refute it at one input. -/
def mostTightWrong : ChangeSpec := { name := "mostTight", fn := fun _ => fun
  | [d1, d2, d3] => { results := [.lit (.bool false)], args := [d1, d2, d3] }
  | _ => none }
def MostTightWrongFalsely : Prop := mostTightRow.holds Tryz.pinned (OpenSpec.ofChange mostTightWrong)

/-- 'hortatorlaw9.MostLess': WHATEVER THE INPUT: true; the input reads as it did. -/
def mostLessSpec : ChangeSpec := { name := "mostLess", fn := fun _ => fun
  | [d1, d2, d3, d4, d5] => { results := [.lit (.bool true)], args := [d1, d2, d3, d4, d5] }
  | _ => none }
def mostLessRow : OpenClaim := { program := "ytpbjodbcmaaheaagreatdoor", sum := "82c2171b7afb95cc589ed15b796e29121379589b64b31f16cc9c80f7b1eae118", func := "hortator/hortatorlaw9.MostLess", spec := "mostLess", unfollowed := true, recurses := true, named := ["internal/strconv.uint64pow10", "math/bits.deBruijn32tab", "math/bits.deBruijn64tab", "strconv.ErrSyntax", "strconv.ErrRange"], apart := false, laid := [("math/bits.deBruijn32tab", laid_math_bits_deBruijn32tab), ("math/bits.deBruijn64tab", laid_math_bits_deBruijn64tab), ("internal/strconv.uint64pow10", laid_internal_strconv_uint64pow10), ("strconv.ErrRange", laid_strconv_ErrRange), ("strconv.ErrSyntax", laid_strconv_ErrSyntax)] }
def MostLessSaid : Prop := mostLessRow.holds Tryz.pinned (OpenSpec.ofChange mostLessSpec)

/-- ITS FALSE NEIGHBOUR: 'it returns false'. Refute it at one input. -/
def mostLessWrong : ChangeSpec := { name := "mostLess", fn := fun _ => fun
  | [d1, d2, d3, d4, d5] => { results := [.lit (.bool false)], args := [d1, d2, d3, d4, d5] }
  | _ => none }
def MostLessWrongFalsely : Prop := mostLessRow.holds Tryz.pinned (OpenSpec.ofChange mostLessWrong)

/-- 'hortatorlaw9.DemandTwo': WHATEVER THE INPUT: true; the input reads as it did. -/
def demandTwoSpec : ChangeSpec := { name := "demandTwo", fn := fun _ => fun
  | [d1, d2, d3, d4, d5] => { results := [.lit (.bool true)], args := [d1, d2, d3, d4, d5] }
  | _ => none }
def demandTwoRow : OpenClaim := { program := "ytpbjodbcmaaheaagreatdoor", sum := "82c2171b7afb95cc589ed15b796e29121379589b64b31f16cc9c80f7b1eae118", func := "hortator/hortatorlaw9.DemandTwo", spec := "demandTwo", unfollowed := true, recurses := true, named := ["internal/strconv.uint64pow10", "math/bits.deBruijn32tab", "math/bits.deBruijn64tab", "strconv.ErrSyntax", "strconv.ErrRange"], apart := false, laid := [("math/bits.deBruijn32tab", laid_math_bits_deBruijn32tab), ("math/bits.deBruijn64tab", laid_math_bits_deBruijn64tab), ("internal/strconv.uint64pow10", laid_internal_strconv_uint64pow10), ("strconv.ErrRange", laid_strconv_ErrRange), ("strconv.ErrSyntax", laid_strconv_ErrSyntax)] }
def DemandTwoSaid : Prop := demandTwoRow.holds Tryz.pinned (OpenSpec.ofChange demandTwoSpec)

/-- ITS FALSE NEIGHBOUR: 'it returns false'. Refute it at one input. -/
def demandTwoWrong : ChangeSpec := { name := "demandTwo", fn := fun _ => fun
  | [d1, d2, d3, d4, d5] => { results := [.lit (.bool false)], args := [d1, d2, d3, d4, d5] }
  | _ => none }
def DemandTwoWrongFalsely : Prop := demandTwoRow.holds Tryz.pinned (OpenSpec.ofChange demandTwoWrong)

/-- 'hortatorlaw9.BusySum': WHATEVER THE INPUT: true; the input reads as it did. -/
def busySumSpec : ChangeSpec := { name := "busySum", fn := fun _ => fun
  | [d] => { results := [.lit (.bool true)], args := [d] }
  | _ => none }
def busySumRow : OpenClaim := { program := "ytpbjodbcmaaheaagreatdoor", sum := "82c2171b7afb95cc589ed15b796e29121379589b64b31f16cc9c80f7b1eae118", func := "hortator/hortatorlaw9.BusySum", spec := "busySum", unfollowed := true, recurses := true, named := ["internal/strconv.uint64pow10", "math/bits.deBruijn32tab", "math/bits.deBruijn64tab", "strconv.ErrSyntax", "strconv.ErrRange"], apart := false, laid := [("math/bits.deBruijn32tab", laid_math_bits_deBruijn32tab), ("math/bits.deBruijn64tab", laid_math_bits_deBruijn64tab), ("internal/strconv.uint64pow10", laid_internal_strconv_uint64pow10), ("strconv.ErrRange", laid_strconv_ErrRange), ("strconv.ErrSyntax", laid_strconv_ErrSyntax)] }
def BusySumSaid : Prop := busySumRow.holds Tryz.pinned (OpenSpec.ofChange busySumSpec)

/-- ITS FALSE NEIGHBOUR: 'it returns false'. Refute it at one input. -/
def busySumWrong : ChangeSpec := { name := "busySum", fn := fun _ => fun
  | [d] => { results := [.lit (.bool false)], args := [d] }
  | _ => none }
def BusySumWrongFalsely : Prop := busySumRow.holds Tryz.pinned (OpenSpec.ofChange busySumWrong)

/-- 'hortatorlaw9.MostZero': WHATEVER THE INPUT: true; the input reads as it did. -/
def mostZeroSpec : ChangeSpec := { name := "mostZero", fn := fun _ => fun
  | [d1, d2, d3, d4] => { results := [.lit (.bool true)], args := [d1, d2, d3, d4] }
  | _ => none }
def mostZeroRow : OpenClaim := { program := "ytpbjodbcmaaheaagreatdoor", sum := "82c2171b7afb95cc589ed15b796e29121379589b64b31f16cc9c80f7b1eae118", func := "hortator/hortatorlaw9.MostZero", spec := "mostZero", unfollowed := true, recurses := true, named := ["internal/strconv.uint64pow10", "math/bits.deBruijn32tab", "math/bits.deBruijn64tab", "strconv.ErrSyntax", "strconv.ErrRange"], apart := false, laid := [("math/bits.deBruijn32tab", laid_math_bits_deBruijn32tab), ("math/bits.deBruijn64tab", laid_math_bits_deBruijn64tab), ("internal/strconv.uint64pow10", laid_internal_strconv_uint64pow10), ("strconv.ErrRange", laid_strconv_ErrRange), ("strconv.ErrSyntax", laid_strconv_ErrSyntax)] }
def MostZeroSaid : Prop := mostZeroRow.holds Tryz.pinned (OpenSpec.ofChange mostZeroSpec)

/-- ITS FALSE NEIGHBOUR: 'it returns false'. Refute it at one input. -/
def mostZeroWrong : ChangeSpec := { name := "mostZero", fn := fun _ => fun
  | [d1, d2, d3, d4] => { results := [.lit (.bool false)], args := [d1, d2, d3, d4] }
  | _ => none }
def MostZeroWrongFalsely : Prop := mostZeroRow.holds Tryz.pinned (OpenSpec.ofChange mostZeroWrong)

/- THE SECOND FORM. 'bulk': how many values and letters a reading holds, each counted each time it is reached (what is shared counts as often as it is met; a slice's spare places count too). A statement '..UptoSaid' is the law's where the arguments, and the package variables that the reading takes, are together of bulk at most 1048576: NARROWER than '..Said'. Prove '..Said' where nothing that the law and all that it calls make is longer than what came in: it says more and counts as full. Else prove '..UptoSaid'. A law counts once. -/
mutual
def uptoBulk {H : Type} : DataW H → Nat
  | .lit (.string bytes) => bytes.length + 1
  | .lit _ => 1
  | .nil => 1
  | .ptr d => uptoBulk d + 1
  | .slice elems spare => uptoBulkAll elems + uptoBulkAll spare + 1
  | .agg parts => uptoBulkAll parts + 1
  | .iface _ d => uptoBulk d + 1
  | .map entries => uptoBulkEntries entries + 1
  | .held _ => 1
def uptoBulkAll {H : Type} : List (DataW H) → Nat
  | [] => 0
  | d :: r => uptoBulk d + uptoBulkAll r
def uptoBulkEntries {H : Type} : List (Lit × DataW H) → Nat
  | [] => 0
  | x :: r => uptoBulkEntry x + uptoBulkEntries r
def uptoBulkEntry {H : Type} : Lit × DataW H → Nat
  | (.string bytes, d) => bytes.length + uptoBulk d + 1
  | (_, d) => uptoBulk d + 1
 end
def uptoSmall : (H : Type) → List (DataW H) → Bool := fun _ ds => decide (uptoBulkAll ds ≤ 1048576)
def OpenSpec.upto (s : _root_.Go.ChangeSpec) : _root_.Go.OpenSpec := { _root_.Go.OpenSpec.ofChange s with cond := some uptoSmall }

/-- 'hortatorlaw9.BusyAll', WHERE WHAT IT READS IS OF BULK AT MOST 1048576: true; the input reads as it did. -/
def busyAllUptoRow : OpenClaim := { program := "ytpbjodbcmaaheaagreatdoor", sum := "82c2171b7afb95cc589ed15b796e29121379589b64b31f16cc9c80f7b1eae118", func := "hortator/hortatorlaw9.BusyAll", spec := "busyAll", unfollowed := true, recurses := true, named := ["internal/strconv.uint64pow10", "math/bits.deBruijn32tab", "math/bits.deBruijn64tab", "strconv.ErrSyntax", "strconv.ErrRange"], apart := false, laid := [("math/bits.deBruijn32tab", laid_math_bits_deBruijn32tab), ("math/bits.deBruijn64tab", laid_math_bits_deBruijn64tab), ("internal/strconv.uint64pow10", laid_internal_strconv_uint64pow10), ("strconv.ErrRange", laid_strconv_ErrRange), ("strconv.ErrSyntax", laid_strconv_ErrSyntax)], narrowed := true }
def BusyAllUptoSaid : Prop := busyAllUptoRow.holds Tryz.pinned (OpenSpec.upto busyAllSpec)

/-- 'hortatorlaw9.BusyRun', WHERE WHAT IT READS IS OF BULK AT MOST 1048576: true; the input reads as it did. -/
def busyRunUptoRow : OpenClaim := { program := "ytpbjodbcmaaheaagreatdoor", sum := "82c2171b7afb95cc589ed15b796e29121379589b64b31f16cc9c80f7b1eae118", func := "hortator/hortatorlaw9.BusyRun", spec := "busyRun", unfollowed := true, recurses := true, named := ["internal/strconv.uint64pow10", "math/bits.deBruijn32tab", "math/bits.deBruijn64tab", "strconv.ErrSyntax", "strconv.ErrRange"], apart := false, laid := [("math/bits.deBruijn32tab", laid_math_bits_deBruijn32tab), ("math/bits.deBruijn64tab", laid_math_bits_deBruijn64tab), ("internal/strconv.uint64pow10", laid_internal_strconv_uint64pow10), ("strconv.ErrRange", laid_strconv_ErrRange), ("strconv.ErrSyntax", laid_strconv_ErrSyntax)], narrowed := true }
def BusyRunUptoSaid : Prop := busyRunUptoRow.holds Tryz.pinned (OpenSpec.upto busyRunSpec)

/-- 'hortatorlaw9.DemandAll', WHERE WHAT IT READS IS OF BULK AT MOST 1048576: true; the input reads as it did. -/
def demandAllUptoRow : OpenClaim := { program := "ytpbjodbcmaaheaagreatdoor", sum := "82c2171b7afb95cc589ed15b796e29121379589b64b31f16cc9c80f7b1eae118", func := "hortator/hortatorlaw9.DemandAll", spec := "demandAll", unfollowed := true, recurses := true, named := ["internal/strconv.uint64pow10", "math/bits.deBruijn32tab", "math/bits.deBruijn64tab", "strconv.ErrSyntax", "strconv.ErrRange"], apart := false, laid := [("math/bits.deBruijn32tab", laid_math_bits_deBruijn32tab), ("math/bits.deBruijn64tab", laid_math_bits_deBruijn64tab), ("internal/strconv.uint64pow10", laid_internal_strconv_uint64pow10), ("strconv.ErrRange", laid_strconv_ErrRange), ("strconv.ErrSyntax", laid_strconv_ErrSyntax)], narrowed := true }
def DemandAllUptoSaid : Prop := demandAllUptoRow.holds Tryz.pinned (OpenSpec.upto demandAllSpec)

/-- 'hortatorlaw9.DemandEver', WHERE WHAT IT READS IS OF BULK AT MOST 1048576: true; the input reads as it did. -/
def demandEverUptoRow : OpenClaim := { program := "ytpbjodbcmaaheaagreatdoor", sum := "82c2171b7afb95cc589ed15b796e29121379589b64b31f16cc9c80f7b1eae118", func := "hortator/hortatorlaw9.DemandEver", spec := "demandEver", unfollowed := true, recurses := true, named := ["internal/strconv.uint64pow10", "math/bits.deBruijn32tab", "math/bits.deBruijn64tab", "strconv.ErrSyntax", "strconv.ErrRange"], apart := false, laid := [("math/bits.deBruijn32tab", laid_math_bits_deBruijn32tab), ("math/bits.deBruijn64tab", laid_math_bits_deBruijn64tab), ("internal/strconv.uint64pow10", laid_internal_strconv_uint64pow10), ("strconv.ErrRange", laid_strconv_ErrRange), ("strconv.ErrSyntax", laid_strconv_ErrSyntax)], narrowed := true }
def DemandEverUptoSaid : Prop := demandEverUptoRow.holds Tryz.pinned (OpenSpec.upto demandEverSpec)

/-- 'hortatorlaw9.DemandRun', WHERE WHAT IT READS IS OF BULK AT MOST 1048576: true; the input reads as it did. -/
def demandRunUptoRow : OpenClaim := { program := "ytpbjodbcmaaheaagreatdoor", sum := "82c2171b7afb95cc589ed15b796e29121379589b64b31f16cc9c80f7b1eae118", func := "hortator/hortatorlaw9.DemandRun", spec := "demandRun", unfollowed := true, recurses := true, named := ["internal/strconv.uint64pow10", "math/bits.deBruijn32tab", "math/bits.deBruijn64tab", "strconv.ErrSyntax", "strconv.ErrRange"], apart := false, laid := [("math/bits.deBruijn32tab", laid_math_bits_deBruijn32tab), ("math/bits.deBruijn64tab", laid_math_bits_deBruijn64tab), ("internal/strconv.uint64pow10", laid_internal_strconv_uint64pow10), ("strconv.ErrRange", laid_strconv_ErrRange), ("strconv.ErrSyntax", laid_strconv_ErrSyntax)], narrowed := true }
def DemandRunUptoSaid : Prop := demandRunUptoRow.holds Tryz.pinned (OpenSpec.upto demandRunSpec)

/-- 'hortatorlaw9.DemandLess', WHERE WHAT IT READS IS OF BULK AT MOST 1048576: true; the input reads as it did. -/
def demandLessUptoRow : OpenClaim := { program := "ytpbjodbcmaaheaagreatdoor", sum := "82c2171b7afb95cc589ed15b796e29121379589b64b31f16cc9c80f7b1eae118", func := "hortator/hortatorlaw9.DemandLess", spec := "demandLess", unfollowed := true, recurses := true, named := ["internal/strconv.uint64pow10", "math/bits.deBruijn32tab", "math/bits.deBruijn64tab", "strconv.ErrSyntax", "strconv.ErrRange"], apart := false, laid := [("math/bits.deBruijn32tab", laid_math_bits_deBruijn32tab), ("math/bits.deBruijn64tab", laid_math_bits_deBruijn64tab), ("internal/strconv.uint64pow10", laid_internal_strconv_uint64pow10), ("strconv.ErrRange", laid_strconv_ErrRange), ("strconv.ErrSyntax", laid_strconv_ErrSyntax)], narrowed := true }
def DemandLessUptoSaid : Prop := demandLessUptoRow.holds Tryz.pinned (OpenSpec.upto demandLessSpec)

/-- 'hortatorlaw9.MostAll', WHERE WHAT IT READS IS OF BULK AT MOST 1048576: true; the input reads as it did. -/
def mostAllUptoRow : OpenClaim := { program := "ytpbjodbcmaaheaagreatdoor", sum := "82c2171b7afb95cc589ed15b796e29121379589b64b31f16cc9c80f7b1eae118", func := "hortator/hortatorlaw9.MostAll", spec := "mostAll", unfollowed := true, recurses := true, named := ["internal/strconv.uint64pow10", "math/bits.deBruijn32tab", "math/bits.deBruijn64tab", "strconv.ErrSyntax", "strconv.ErrRange"], apart := false, laid := [("math/bits.deBruijn32tab", laid_math_bits_deBruijn32tab), ("math/bits.deBruijn64tab", laid_math_bits_deBruijn64tab), ("internal/strconv.uint64pow10", laid_internal_strconv_uint64pow10), ("strconv.ErrRange", laid_strconv_ErrRange), ("strconv.ErrSyntax", laid_strconv_ErrSyntax)], narrowed := true }
def MostAllUptoSaid : Prop := mostAllUptoRow.holds Tryz.pinned (OpenSpec.upto mostAllSpec)

/-- 'hortatorlaw9.MostJust', WHERE WHAT IT READS IS OF BULK AT MOST 1048576: true; the input reads as it did. -/
def mostJustUptoRow : OpenClaim := { program := "ytpbjodbcmaaheaagreatdoor", sum := "82c2171b7afb95cc589ed15b796e29121379589b64b31f16cc9c80f7b1eae118", func := "hortator/hortatorlaw9.MostJust", spec := "mostJust", unfollowed := true, recurses := true, named := ["internal/strconv.uint64pow10", "math/bits.deBruijn32tab", "math/bits.deBruijn64tab", "strconv.ErrSyntax", "strconv.ErrRange"], apart := false, laid := [("math/bits.deBruijn32tab", laid_math_bits_deBruijn32tab), ("math/bits.deBruijn64tab", laid_math_bits_deBruijn64tab), ("internal/strconv.uint64pow10", laid_internal_strconv_uint64pow10), ("strconv.ErrRange", laid_strconv_ErrRange), ("strconv.ErrSyntax", laid_strconv_ErrSyntax)], narrowed := true }
def MostJustUptoSaid : Prop := mostJustUptoRow.holds Tryz.pinned (OpenSpec.upto mostJustSpec)

/-- 'hortatorlaw9.BusyOne', WHERE WHAT IT READS IS OF BULK AT MOST 1048576: true; the input reads as it did. -/
def busyOneUptoRow : OpenClaim := { program := "ytpbjodbcmaaheaagreatdoor", sum := "82c2171b7afb95cc589ed15b796e29121379589b64b31f16cc9c80f7b1eae118", func := "hortator/hortatorlaw9.BusyOne", spec := "busyOne", unfollowed := true, recurses := true, named := ["internal/strconv.uint64pow10", "math/bits.deBruijn32tab", "math/bits.deBruijn64tab", "strconv.ErrSyntax", "strconv.ErrRange"], apart := false, laid := [("math/bits.deBruijn32tab", laid_math_bits_deBruijn32tab), ("math/bits.deBruijn64tab", laid_math_bits_deBruijn64tab), ("internal/strconv.uint64pow10", laid_internal_strconv_uint64pow10), ("strconv.ErrRange", laid_strconv_ErrRange), ("strconv.ErrSyntax", laid_strconv_ErrSyntax)], narrowed := true }
def BusyOneUptoSaid : Prop := busyOneUptoRow.holds Tryz.pinned (OpenSpec.upto busyOneSpec)

/-- 'hortatorlaw9.BusyMore', WHERE WHAT IT READS IS OF BULK AT MOST 1048576: true; the input reads as it did. -/
def busyMoreUptoRow : OpenClaim := { program := "ytpbjodbcmaaheaagreatdoor", sum := "82c2171b7afb95cc589ed15b796e29121379589b64b31f16cc9c80f7b1eae118", func := "hortator/hortatorlaw9.BusyMore", spec := "busyMore", unfollowed := true, recurses := true, named := ["internal/strconv.uint64pow10", "math/bits.deBruijn32tab", "math/bits.deBruijn64tab", "strconv.ErrSyntax", "strconv.ErrRange"], apart := false, laid := [("math/bits.deBruijn32tab", laid_math_bits_deBruijn32tab), ("math/bits.deBruijn64tab", laid_math_bits_deBruijn64tab), ("internal/strconv.uint64pow10", laid_internal_strconv_uint64pow10), ("strconv.ErrRange", laid_strconv_ErrRange), ("strconv.ErrSyntax", laid_strconv_ErrSyntax)], narrowed := true }
def BusyMoreUptoSaid : Prop := busyMoreUptoRow.holds Tryz.pinned (OpenSpec.upto busyMoreSpec)

/-- 'hortatorlaw9.BusyOrder', WHERE WHAT IT READS IS OF BULK AT MOST 1048576: true; the input reads as it did. -/
def busyOrderUptoRow : OpenClaim := { program := "ytpbjodbcmaaheaagreatdoor", sum := "82c2171b7afb95cc589ed15b796e29121379589b64b31f16cc9c80f7b1eae118", func := "hortator/hortatorlaw9.BusyOrder", spec := "busyOrder", unfollowed := true, recurses := true, named := ["internal/strconv.uint64pow10", "math/bits.deBruijn32tab", "math/bits.deBruijn64tab", "strconv.ErrSyntax", "strconv.ErrRange"], apart := false, laid := [("math/bits.deBruijn32tab", laid_math_bits_deBruijn32tab), ("math/bits.deBruijn64tab", laid_math_bits_deBruijn64tab), ("internal/strconv.uint64pow10", laid_internal_strconv_uint64pow10), ("strconv.ErrRange", laid_strconv_ErrRange), ("strconv.ErrSyntax", laid_strconv_ErrSyntax)], narrowed := true }
def BusyOrderUptoSaid : Prop := busyOrderUptoRow.holds Tryz.pinned (OpenSpec.upto busyOrderSpec)

/-- 'hortatorlaw9.DemandFull', WHERE WHAT IT READS IS OF BULK AT MOST 1048576: true; the input reads as it did. -/
def demandFullUptoRow : OpenClaim := { program := "ytpbjodbcmaaheaagreatdoor", sum := "82c2171b7afb95cc589ed15b796e29121379589b64b31f16cc9c80f7b1eae118", func := "hortator/hortatorlaw9.DemandFull", spec := "demandFull", unfollowed := true, recurses := true, named := ["internal/strconv.uint64pow10", "math/bits.deBruijn32tab", "math/bits.deBruijn64tab", "strconv.ErrSyntax", "strconv.ErrRange"], apart := false, laid := [("math/bits.deBruijn32tab", laid_math_bits_deBruijn32tab), ("math/bits.deBruijn64tab", laid_math_bits_deBruijn64tab), ("internal/strconv.uint64pow10", laid_internal_strconv_uint64pow10), ("strconv.ErrRange", laid_strconv_ErrRange), ("strconv.ErrSyntax", laid_strconv_ErrSyntax)], narrowed := true }
def DemandFullUptoSaid : Prop := demandFullUptoRow.holds Tryz.pinned (OpenSpec.upto demandFullSpec)

/-- 'hortatorlaw9.DemandBound', WHERE WHAT IT READS IS OF BULK AT MOST 1048576: true; the input reads as it did. -/
def demandBoundUptoRow : OpenClaim := { program := "ytpbjodbcmaaheaagreatdoor", sum := "82c2171b7afb95cc589ed15b796e29121379589b64b31f16cc9c80f7b1eae118", func := "hortator/hortatorlaw9.DemandBound", spec := "demandBound", unfollowed := true, recurses := true, named := ["internal/strconv.uint64pow10", "math/bits.deBruijn32tab", "math/bits.deBruijn64tab", "strconv.ErrSyntax", "strconv.ErrRange"], apart := false, laid := [("math/bits.deBruijn32tab", laid_math_bits_deBruijn32tab), ("math/bits.deBruijn64tab", laid_math_bits_deBruijn64tab), ("internal/strconv.uint64pow10", laid_internal_strconv_uint64pow10), ("strconv.ErrRange", laid_strconv_ErrRange), ("strconv.ErrSyntax", laid_strconv_ErrSyntax)], narrowed := true }
def DemandBoundUptoSaid : Prop := demandBoundUptoRow.holds Tryz.pinned (OpenSpec.upto demandBoundSpec)

/-- 'hortatorlaw9.DemandNone', WHERE WHAT IT READS IS OF BULK AT MOST 1048576: true; the input reads as it did. -/
def demandNoneUptoRow : OpenClaim := { program := "ytpbjodbcmaaheaagreatdoor", sum := "82c2171b7afb95cc589ed15b796e29121379589b64b31f16cc9c80f7b1eae118", func := "hortator/hortatorlaw9.DemandNone", spec := "demandNone", unfollowed := true, recurses := true, named := ["internal/strconv.uint64pow10", "math/bits.deBruijn32tab", "math/bits.deBruijn64tab", "strconv.ErrSyntax", "strconv.ErrRange"], apart := false, laid := [("math/bits.deBruijn32tab", laid_math_bits_deBruijn32tab), ("math/bits.deBruijn64tab", laid_math_bits_deBruijn64tab), ("internal/strconv.uint64pow10", laid_internal_strconv_uint64pow10), ("strconv.ErrRange", laid_strconv_ErrRange), ("strconv.ErrSyntax", laid_strconv_ErrSyntax)], narrowed := true }
def DemandNoneUptoSaid : Prop := demandNoneUptoRow.holds Tryz.pinned (OpenSpec.upto demandNoneSpec)

/-- 'hortatorlaw9.MostEmpty', WHERE WHAT IT READS IS OF BULK AT MOST 1048576: true; the input reads as it did. -/
def mostEmptyUptoRow : OpenClaim := { program := "ytpbjodbcmaaheaagreatdoor", sum := "82c2171b7afb95cc589ed15b796e29121379589b64b31f16cc9c80f7b1eae118", func := "hortator/hortatorlaw9.MostEmpty", spec := "mostEmpty", unfollowed := true, recurses := true, named := ["internal/strconv.uint64pow10", "math/bits.deBruijn32tab", "math/bits.deBruijn64tab", "strconv.ErrSyntax", "strconv.ErrRange"], apart := false, laid := [("math/bits.deBruijn32tab", laid_math_bits_deBruijn32tab), ("math/bits.deBruijn64tab", laid_math_bits_deBruijn64tab), ("internal/strconv.uint64pow10", laid_internal_strconv_uint64pow10), ("strconv.ErrRange", laid_strconv_ErrRange), ("strconv.ErrSyntax", laid_strconv_ErrSyntax)], narrowed := true }
def MostEmptyUptoSaid : Prop := mostEmptyUptoRow.holds Tryz.pinned (OpenSpec.upto mostEmptySpec)

/-- 'hortatorlaw9.MostTight', WHERE WHAT IT READS IS OF BULK AT MOST 1048576: true; the input reads as it did. -/
def mostTightUptoRow : OpenClaim := { program := "ytpbjodbcmaaheaagreatdoor", sum := "82c2171b7afb95cc589ed15b796e29121379589b64b31f16cc9c80f7b1eae118", func := "hortator/hortatorlaw9.MostTight", spec := "mostTight", unfollowed := true, recurses := true, named := ["internal/strconv.uint64pow10", "math/bits.deBruijn32tab", "math/bits.deBruijn64tab", "strconv.ErrSyntax", "strconv.ErrRange"], apart := false, laid := [("math/bits.deBruijn32tab", laid_math_bits_deBruijn32tab), ("math/bits.deBruijn64tab", laid_math_bits_deBruijn64tab), ("internal/strconv.uint64pow10", laid_internal_strconv_uint64pow10), ("strconv.ErrRange", laid_strconv_ErrRange), ("strconv.ErrSyntax", laid_strconv_ErrSyntax)], narrowed := true }
def MostTightUptoSaid : Prop := mostTightUptoRow.holds Tryz.pinned (OpenSpec.upto mostTightSpec)

/-- 'hortatorlaw9.MostLess', WHERE WHAT IT READS IS OF BULK AT MOST 1048576: true; the input reads as it did. -/
def mostLessUptoRow : OpenClaim := { program := "ytpbjodbcmaaheaagreatdoor", sum := "82c2171b7afb95cc589ed15b796e29121379589b64b31f16cc9c80f7b1eae118", func := "hortator/hortatorlaw9.MostLess", spec := "mostLess", unfollowed := true, recurses := true, named := ["internal/strconv.uint64pow10", "math/bits.deBruijn32tab", "math/bits.deBruijn64tab", "strconv.ErrSyntax", "strconv.ErrRange"], apart := false, laid := [("math/bits.deBruijn32tab", laid_math_bits_deBruijn32tab), ("math/bits.deBruijn64tab", laid_math_bits_deBruijn64tab), ("internal/strconv.uint64pow10", laid_internal_strconv_uint64pow10), ("strconv.ErrRange", laid_strconv_ErrRange), ("strconv.ErrSyntax", laid_strconv_ErrSyntax)], narrowed := true }
def MostLessUptoSaid : Prop := mostLessUptoRow.holds Tryz.pinned (OpenSpec.upto mostLessSpec)

/-- 'hortatorlaw9.DemandTwo', WHERE WHAT IT READS IS OF BULK AT MOST 1048576: true; the input reads as it did. -/
def demandTwoUptoRow : OpenClaim := { program := "ytpbjodbcmaaheaagreatdoor", sum := "82c2171b7afb95cc589ed15b796e29121379589b64b31f16cc9c80f7b1eae118", func := "hortator/hortatorlaw9.DemandTwo", spec := "demandTwo", unfollowed := true, recurses := true, named := ["internal/strconv.uint64pow10", "math/bits.deBruijn32tab", "math/bits.deBruijn64tab", "strconv.ErrSyntax", "strconv.ErrRange"], apart := false, laid := [("math/bits.deBruijn32tab", laid_math_bits_deBruijn32tab), ("math/bits.deBruijn64tab", laid_math_bits_deBruijn64tab), ("internal/strconv.uint64pow10", laid_internal_strconv_uint64pow10), ("strconv.ErrRange", laid_strconv_ErrRange), ("strconv.ErrSyntax", laid_strconv_ErrSyntax)], narrowed := true }
def DemandTwoUptoSaid : Prop := demandTwoUptoRow.holds Tryz.pinned (OpenSpec.upto demandTwoSpec)

/-- 'hortatorlaw9.BusySum', WHERE WHAT IT READS IS OF BULK AT MOST 1048576: true; the input reads as it did. -/
def busySumUptoRow : OpenClaim := { program := "ytpbjodbcmaaheaagreatdoor", sum := "82c2171b7afb95cc589ed15b796e29121379589b64b31f16cc9c80f7b1eae118", func := "hortator/hortatorlaw9.BusySum", spec := "busySum", unfollowed := true, recurses := true, named := ["internal/strconv.uint64pow10", "math/bits.deBruijn32tab", "math/bits.deBruijn64tab", "strconv.ErrSyntax", "strconv.ErrRange"], apart := false, laid := [("math/bits.deBruijn32tab", laid_math_bits_deBruijn32tab), ("math/bits.deBruijn64tab", laid_math_bits_deBruijn64tab), ("internal/strconv.uint64pow10", laid_internal_strconv_uint64pow10), ("strconv.ErrRange", laid_strconv_ErrRange), ("strconv.ErrSyntax", laid_strconv_ErrSyntax)], narrowed := true }
def BusySumUptoSaid : Prop := busySumUptoRow.holds Tryz.pinned (OpenSpec.upto busySumSpec)

/-- 'hortatorlaw9.MostZero', WHERE WHAT IT READS IS OF BULK AT MOST 1048576: true; the input reads as it did. -/
def mostZeroUptoRow : OpenClaim := { program := "ytpbjodbcmaaheaagreatdoor", sum := "82c2171b7afb95cc589ed15b796e29121379589b64b31f16cc9c80f7b1eae118", func := "hortator/hortatorlaw9.MostZero", spec := "mostZero", unfollowed := true, recurses := true, named := ["internal/strconv.uint64pow10", "math/bits.deBruijn32tab", "math/bits.deBruijn64tab", "strconv.ErrSyntax", "strconv.ErrRange"], apart := false, laid := [("math/bits.deBruijn32tab", laid_math_bits_deBruijn32tab), ("math/bits.deBruijn64tab", laid_math_bits_deBruijn64tab), ("internal/strconv.uint64pow10", laid_internal_strconv_uint64pow10), ("strconv.ErrRange", laid_strconv_ErrRange), ("strconv.ErrSyntax", laid_strconv_ErrSyntax)], narrowed := true }
def MostZeroUptoSaid : Prop := mostZeroUptoRow.holds Tryz.pinned (OpenSpec.upto mostZeroSpec)

end Rows
end Go.Proofs.YtpbjodbcmaaheaaGreatDoor
