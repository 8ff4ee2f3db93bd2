/-
  NARROWER THAN 'FOR EVERY INPUT', by the rows' own cells (each row's printed sentence says how): LongMakes: laid · LongSums: laid · LongProducts: laid · LongCommon: laid · LongRoots: laid · LongTexts: laid · LongDivides: laid · LongRing: laid · LongFactors: laid · LongSquares: laid · LongInts: laid · LongBack: laid · LongKnown: laid.
  DERIVED. THE GIVEN ROWS OF THIS SEAT. 13 by the template 'for every input the law returns true; each argument reads behind the call as it read before'; 0 by the template 'total and deterministic' (their statements: YtoppdbgodceaiaaDoorTotals.lean).
  GIVEN WITH THE SEED: the statements are not yours to turn. If you find one false, say at which input.
  Laid BY PROGRAM, IN A SANDBOX (cutbox-rows.mjs): the forced cells as the released guide's own fill.sh prints them over the translation 80c4e8f726beb0da… (all of the seat's roots in one cut). By AI agents, Wed Nov 11 2026. No macro, syntax, notation, axiom, sorry.
-/
import Derived.Test.YtoppdbgodceaiaaDoorChecked
import GoSem.Claim
import GoSem.ClaimJoined
import GoSem.ClaimMapViews
import Derived.JoinedTies
import Derived.KernelRfl
namespace Go.Proofs.YtoppdbgodceaiaaDoor
/- THE CELL 'sum', in the pinned program and in every row, IS THE sha256 OF THE DUMP (.gsa) THAT YtoppdbgodceaiaaDoorProg.lean LOADS. Nothing in Lean hashes anything: it is a label: what it is worth is what the hold of that sum in a sandbox is worth. -/
noncomputable def Tryd.pinned : Pinned := { name := "ytoppdbgodceaiaadoor", sum := "80c4e8f726beb0da19ab309abeafab2433661566d4e9cd81631f80e2d71f29b2", checked := Tryd.checked }
namespace Rows
def none {H : Type} : Left H := { results := [], args := [] }

/- WHAT THE LISTED PACKAGE-LEVEL VARIABLES READ AS WHEN THE CALL BEGINS. Each datum BY PROGRAM (the guide's laid-datum.mjs) off the statement by which the dump's own 'gosem.cut.vars' lays the variable. In a bare row this is a premise. The card (YtoppdbgodceaiaaDoorCards.lean) ties it to the program's text. -/
def laid_math_bits_deBruijn32tab {H : Type} : DataW H := .agg [.lit (.int .u8 0), .lit (.int .u8 1), .lit (.int .u8 28), .lit (.int .u8 2), .lit (.int .u8 29), .lit (.int .u8 14), .lit (.int .u8 24), .lit (.int .u8 3), .lit (.int .u8 30), .lit (.int .u8 22), .lit (.int .u8 20), .lit (.int .u8 15), .lit (.int .u8 25), .lit (.int .u8 17), .lit (.int .u8 4), .lit (.int .u8 8), .lit (.int .u8 31), .lit (.int .u8 27), .lit (.int .u8 13), .lit (.int .u8 23), .lit (.int .u8 21), .lit (.int .u8 19), .lit (.int .u8 16), .lit (.int .u8 7), .lit (.int .u8 26), .lit (.int .u8 12), .lit (.int .u8 18), .lit (.int .u8 6), .lit (.int .u8 11), .lit (.int .u8 5), .lit (.int .u8 10), .lit (.int .u8 9)]
def laid_math_bits_deBruijn64tab {H : Type} : DataW H := .agg [.lit (.int .u8 0), .lit (.int .u8 1), .lit (.int .u8 56), .lit (.int .u8 2), .lit (.int .u8 57), .lit (.int .u8 49), .lit (.int .u8 28), .lit (.int .u8 3), .lit (.int .u8 61), .lit (.int .u8 58), .lit (.int .u8 42), .lit (.int .u8 50), .lit (.int .u8 38), .lit (.int .u8 29), .lit (.int .u8 17), .lit (.int .u8 4), .lit (.int .u8 62), .lit (.int .u8 47), .lit (.int .u8 59), .lit (.int .u8 36), .lit (.int .u8 45), .lit (.int .u8 43), .lit (.int .u8 51), .lit (.int .u8 22), .lit (.int .u8 53), .lit (.int .u8 39), .lit (.int .u8 33), .lit (.int .u8 30), .lit (.int .u8 24), .lit (.int .u8 18), .lit (.int .u8 12), .lit (.int .u8 5), .lit (.int .u8 63), .lit (.int .u8 55), .lit (.int .u8 48), .lit (.int .u8 27), .lit (.int .u8 60), .lit (.int .u8 41), .lit (.int .u8 37), .lit (.int .u8 16), .lit (.int .u8 46), .lit (.int .u8 35), .lit (.int .u8 44), .lit (.int .u8 21), .lit (.int .u8 52), .lit (.int .u8 32), .lit (.int .u8 23), .lit (.int .u8 11), .lit (.int .u8 54), .lit (.int .u8 26), .lit (.int .u8 40), .lit (.int .u8 15), .lit (.int .u8 34), .lit (.int .u8 20), .lit (.int .u8 31), .lit (.int .u8 10), .lit (.int .u8 25), .lit (.int .u8 14), .lit (.int .u8 19), .lit (.int .u8 9), .lit (.int .u8 13), .lit (.int .u8 8), .lit (.int .u8 7), .lit (.int .u8 6)]
def laid_internal_strconv_uint64pow10 {H : Type} : DataW H := .agg [.lit (.int .u64 1), .lit (.int .u64 10), .lit (.int .u64 100), .lit (.int .u64 1000), .lit (.int .u64 10000), .lit (.int .u64 100000), .lit (.int .u64 1000000), .lit (.int .u64 10000000), .lit (.int .u64 100000000), .lit (.int .u64 1000000000), .lit (.int .u64 10000000000), .lit (.int .u64 100000000000), .lit (.int .u64 1000000000000), .lit (.int .u64 10000000000000), .lit (.int .u64 100000000000000), .lit (.int .u64 1000000000000000), .lit (.int .u64 10000000000000000), .lit (.int .u64 100000000000000000), .lit (.int .u64 1000000000000000000), .lit (.int .u64 10000000000000000000)]

/-- 'monoclelaw03.LongMakes': WHATEVER THE INPUT: true; the input reads as it did. -/
def longMakesSpec : ChangeSpec := { name := "longMakes", fn := fun _ => fun
  | [d1, d2] => { results := [.lit (.bool true)], args := [d1, d2] }
  | _ => none }
def longMakesRow : OpenClaim := { program := "ytoppdbgodceaiaadoor", sum := "80c4e8f726beb0da19ab309abeafab2433661566d4e9cd81631f80e2d71f29b2", func := "monocle/monoclelaw03.LongMakes", spec := "longMakes", inPlace := ["math/bits.Add64"], unfollowed := true, recurses := true, named := ["internal/strconv.uint64pow10", "math/bits.deBruijn32tab", "math/bits.deBruijn64tab", "math/bits.divideError", "math/bits.overflowError"], apart := false, laid := [("math/bits.deBruijn32tab", laid_math_bits_deBruijn32tab), ("math/bits.deBruijn64tab", laid_math_bits_deBruijn64tab), ("internal/strconv.uint64pow10", laid_internal_strconv_uint64pow10)] }
def LongMakesSaid : Prop := longMakesRow.holds Tryd.pinned (OpenSpec.ofChange longMakesSpec)

/-- ITS FALSE NEIGHBOUR: 'it returns false'. Refute it at one input. -/
def longMakesWrong : ChangeSpec := { name := "longMakes", fn := fun _ => fun
  | [d1, d2] => { results := [.lit (.bool false)], args := [d1, d2] }
  | _ => none }
def LongMakesWrongFalsely : Prop := longMakesRow.holds Tryd.pinned (OpenSpec.ofChange longMakesWrong)

/-- 'monoclelaw03.LongSums': WHATEVER THE INPUT: true; the input reads as it did. -/
def longSumsSpec : ChangeSpec := { name := "longSums", fn := fun _ => fun
  | [d] => { results := [.lit (.bool true)], args := [d] }
  | _ => none }
def longSumsRow : OpenClaim := { program := "ytoppdbgodceaiaadoor", sum := "80c4e8f726beb0da19ab309abeafab2433661566d4e9cd81631f80e2d71f29b2", func := "monocle/monoclelaw03.LongSums", spec := "longSums", inPlace := ["math/bits.Add64"], unfollowed := true, recurses := true, named := ["internal/strconv.uint64pow10", "math/bits.deBruijn32tab", "math/bits.deBruijn64tab", "math/bits.divideError", "math/bits.overflowError"], apart := false, laid := [("math/bits.deBruijn32tab", laid_math_bits_deBruijn32tab), ("math/bits.deBruijn64tab", laid_math_bits_deBruijn64tab), ("internal/strconv.uint64pow10", laid_internal_strconv_uint64pow10)] }
def LongSumsSaid : Prop := longSumsRow.holds Tryd.pinned (OpenSpec.ofChange longSumsSpec)

/-- ITS FALSE NEIGHBOUR: 'it returns false'. Refute it at one input. -/
def longSumsWrong : ChangeSpec := { name := "longSums", fn := fun _ => fun
  | [d] => { results := [.lit (.bool false)], args := [d] }
  | _ => none }
def LongSumsWrongFalsely : Prop := longSumsRow.holds Tryd.pinned (OpenSpec.ofChange longSumsWrong)

/-- 'monoclelaw03.LongProducts': WHATEVER THE INPUT: true; the input reads as it did. -/
def longProductsSpec : ChangeSpec := { name := "longProducts", fn := fun _ => fun
  | [d] => { results := [.lit (.bool true)], args := [d] }
  | _ => none }
def longProductsRow : OpenClaim := { program := "ytoppdbgodceaiaadoor", sum := "80c4e8f726beb0da19ab309abeafab2433661566d4e9cd81631f80e2d71f29b2", func := "monocle/monoclelaw03.LongProducts", spec := "longProducts", inPlace := ["math/bits.Add64"], unfollowed := true, recurses := true, named := ["internal/strconv.uint64pow10", "math/bits.deBruijn32tab", "math/bits.deBruijn64tab", "math/bits.divideError", "math/bits.overflowError"], apart := false, laid := [("math/bits.deBruijn32tab", laid_math_bits_deBruijn32tab), ("math/bits.deBruijn64tab", laid_math_bits_deBruijn64tab), ("internal/strconv.uint64pow10", laid_internal_strconv_uint64pow10)] }
def LongProductsSaid : Prop := longProductsRow.holds Tryd.pinned (OpenSpec.ofChange longProductsSpec)

/-- ITS FALSE NEIGHBOUR: 'it returns false'. Refute it at one input. -/
def longProductsWrong : ChangeSpec := { name := "longProducts", fn := fun _ => fun
  | [d] => { results := [.lit (.bool false)], args := [d] }
  | _ => none }
def LongProductsWrongFalsely : Prop := longProductsRow.holds Tryd.pinned (OpenSpec.ofChange longProductsWrong)

/-- 'monoclelaw03.LongCommon': WHATEVER THE INPUT: true; the input reads as it did. -/
def longCommonSpec : ChangeSpec := { name := "longCommon", fn := fun _ => fun
  | [d1, d2] => { results := [.lit (.bool true)], args := [d1, d2] }
  | _ => none }
def longCommonRow : OpenClaim := { program := "ytoppdbgodceaiaadoor", sum := "80c4e8f726beb0da19ab309abeafab2433661566d4e9cd81631f80e2d71f29b2", func := "monocle/monoclelaw03.LongCommon", spec := "longCommon", inPlace := ["math/bits.Add64"], unfollowed := true, recurses := true, named := ["internal/strconv.uint64pow10", "math/bits.deBruijn32tab", "math/bits.deBruijn64tab", "math/bits.divideError", "math/bits.overflowError"], apart := false, laid := [("math/bits.deBruijn32tab", laid_math_bits_deBruijn32tab), ("math/bits.deBruijn64tab", laid_math_bits_deBruijn64tab), ("internal/strconv.uint64pow10", laid_internal_strconv_uint64pow10)] }
def LongCommonSaid : Prop := longCommonRow.holds Tryd.pinned (OpenSpec.ofChange longCommonSpec)

/-- ITS FALSE NEIGHBOUR: 'it returns false'. Refute it at one input. -/
def longCommonWrong : ChangeSpec := { name := "longCommon", fn := fun _ => fun
  | [d1, d2] => { results := [.lit (.bool false)], args := [d1, d2] }
  | _ => none }
def LongCommonWrongFalsely : Prop := longCommonRow.holds Tryd.pinned (OpenSpec.ofChange longCommonWrong)

/-- 'monoclelaw03.LongRoots': WHATEVER THE INPUT: true; the input reads as it did. -/
def longRootsSpec : ChangeSpec := { name := "longRoots", fn := fun _ => fun
  | [d1, d2] => { results := [.lit (.bool true)], args := [d1, d2] }
  | _ => none }
def longRootsRow : OpenClaim := { program := "ytoppdbgodceaiaadoor", sum := "80c4e8f726beb0da19ab309abeafab2433661566d4e9cd81631f80e2d71f29b2", func := "monocle/monoclelaw03.LongRoots", spec := "longRoots", inPlace := ["math/bits.Add64"], unfollowed := true, recurses := true, named := ["internal/strconv.uint64pow10", "math/bits.deBruijn32tab", "math/bits.deBruijn64tab", "math/bits.divideError", "math/bits.overflowError"], apart := false, laid := [("math/bits.deBruijn32tab", laid_math_bits_deBruijn32tab), ("math/bits.deBruijn64tab", laid_math_bits_deBruijn64tab), ("internal/strconv.uint64pow10", laid_internal_strconv_uint64pow10)] }
def LongRootsSaid : Prop := longRootsRow.holds Tryd.pinned (OpenSpec.ofChange longRootsSpec)

/-- ITS FALSE NEIGHBOUR: 'it returns false'. Refute it at one input. -/
def longRootsWrong : ChangeSpec := { name := "longRoots", fn := fun _ => fun
  | [d1, d2] => { results := [.lit (.bool false)], args := [d1, d2] }
  | _ => none }
def LongRootsWrongFalsely : Prop := longRootsRow.holds Tryd.pinned (OpenSpec.ofChange longRootsWrong)

/-- 'monoclelaw03.LongTexts': WHATEVER THE INPUT: true; the input reads as it did. -/
def longTextsSpec : ChangeSpec := { name := "longTexts", fn := fun _ => fun
  | [d1, d2, d3, d4, d5] => { results := [.lit (.bool true)], args := [d1, d2, d3, d4, d5] }
  | _ => none }
def longTextsRow : OpenClaim := { program := "ytoppdbgodceaiaadoor", sum := "80c4e8f726beb0da19ab309abeafab2433661566d4e9cd81631f80e2d71f29b2", func := "monocle/monoclelaw03.LongTexts", spec := "longTexts", inPlace := ["math/bits.Add64"], unfollowed := true, recurses := true, named := ["internal/strconv.uint64pow10", "math/bits.deBruijn32tab", "math/bits.deBruijn64tab", "math/bits.divideError", "math/bits.overflowError"], apart := false, laid := [("math/bits.deBruijn32tab", laid_math_bits_deBruijn32tab), ("math/bits.deBruijn64tab", laid_math_bits_deBruijn64tab), ("internal/strconv.uint64pow10", laid_internal_strconv_uint64pow10)] }
def LongTextsSaid : Prop := longTextsRow.holds Tryd.pinned (OpenSpec.ofChange longTextsSpec)

/-- ITS FALSE NEIGHBOUR: 'it returns false'. Refute it at one input. -/
def longTextsWrong : ChangeSpec := { name := "longTexts", fn := fun _ => fun
  | [d1, d2, d3, d4, d5] => { results := [.lit (.bool false)], args := [d1, d2, d3, d4, d5] }
  | _ => none }
def LongTextsWrongFalsely : Prop := longTextsRow.holds Tryd.pinned (OpenSpec.ofChange longTextsWrong)

/-- 'monoclelaw03.LongDivides': WHATEVER THE INPUT: true; the input reads as it did. -/
def longDividesSpec : ChangeSpec := { name := "longDivides", fn := fun _ => fun
  | [d] => { results := [.lit (.bool true)], args := [d] }
  | _ => none }
def longDividesRow : OpenClaim := { program := "ytoppdbgodceaiaadoor", sum := "80c4e8f726beb0da19ab309abeafab2433661566d4e9cd81631f80e2d71f29b2", func := "monocle/monoclelaw03.LongDivides", spec := "longDivides", inPlace := ["math/bits.Add64"], unfollowed := true, recurses := true, named := ["internal/strconv.uint64pow10", "math/bits.deBruijn32tab", "math/bits.deBruijn64tab", "math/bits.divideError", "math/bits.overflowError"], apart := false, laid := [("math/bits.deBruijn32tab", laid_math_bits_deBruijn32tab), ("math/bits.deBruijn64tab", laid_math_bits_deBruijn64tab), ("internal/strconv.uint64pow10", laid_internal_strconv_uint64pow10)] }
def LongDividesSaid : Prop := longDividesRow.holds Tryd.pinned (OpenSpec.ofChange longDividesSpec)

/-- ITS FALSE NEIGHBOUR: 'it returns false'. Refute it at one input. -/
def longDividesWrong : ChangeSpec := { name := "longDivides", fn := fun _ => fun
  | [d] => { results := [.lit (.bool false)], args := [d] }
  | _ => none }
def LongDividesWrongFalsely : Prop := longDividesRow.holds Tryd.pinned (OpenSpec.ofChange longDividesWrong)

/-- 'monoclelaw03.LongRing': WHATEVER THE INPUT: true; the input reads as it did. -/
def longRingSpec : ChangeSpec := { name := "longRing", fn := fun _ => fun
  | [d1, d2] => { results := [.lit (.bool true)], args := [d1, d2] }
  | _ => none }
def longRingRow : OpenClaim := { program := "ytoppdbgodceaiaadoor", sum := "80c4e8f726beb0da19ab309abeafab2433661566d4e9cd81631f80e2d71f29b2", func := "monocle/monoclelaw03.LongRing", spec := "longRing", inPlace := ["math/bits.Add64"], unfollowed := true, recurses := true, named := ["internal/strconv.uint64pow10", "math/bits.deBruijn32tab", "math/bits.deBruijn64tab", "math/bits.divideError", "math/bits.overflowError"], apart := false, laid := [("math/bits.deBruijn32tab", laid_math_bits_deBruijn32tab), ("math/bits.deBruijn64tab", laid_math_bits_deBruijn64tab), ("internal/strconv.uint64pow10", laid_internal_strconv_uint64pow10)] }
def LongRingSaid : Prop := longRingRow.holds Tryd.pinned (OpenSpec.ofChange longRingSpec)

/-- ITS FALSE NEIGHBOUR: 'it returns false'. Refute it at one input. -/
def longRingWrong : ChangeSpec := { name := "longRing", fn := fun _ => fun
  | [d1, d2] => { results := [.lit (.bool false)], args := [d1, d2] }
  | _ => none }
def LongRingWrongFalsely : Prop := longRingRow.holds Tryd.pinned (OpenSpec.ofChange longRingWrong)

/-- 'monoclelaw03.LongFactors': WHATEVER THE INPUT: true; the input reads as it did. -/
def longFactorsSpec : ChangeSpec := { name := "longFactors", fn := fun _ => fun
  | [d1, d2] => { results := [.lit (.bool true)], args := [d1, d2] }
  | _ => none }
def longFactorsRow : OpenClaim := { program := "ytoppdbgodceaiaadoor", sum := "80c4e8f726beb0da19ab309abeafab2433661566d4e9cd81631f80e2d71f29b2", func := "monocle/monoclelaw03.LongFactors", spec := "longFactors", inPlace := ["math/bits.Add64"], unfollowed := true, recurses := true, named := ["internal/strconv.uint64pow10", "math/bits.deBruijn32tab", "math/bits.deBruijn64tab", "math/bits.divideError", "math/bits.overflowError"], apart := false, laid := [("math/bits.deBruijn32tab", laid_math_bits_deBruijn32tab), ("math/bits.deBruijn64tab", laid_math_bits_deBruijn64tab), ("internal/strconv.uint64pow10", laid_internal_strconv_uint64pow10)] }
def LongFactorsSaid : Prop := longFactorsRow.holds Tryd.pinned (OpenSpec.ofChange longFactorsSpec)

/-- ITS FALSE NEIGHBOUR: 'it returns false'. Refute it at one input. -/
def longFactorsWrong : ChangeSpec := { name := "longFactors", fn := fun _ => fun
  | [d1, d2] => { results := [.lit (.bool false)], args := [d1, d2] }
  | _ => none }
def LongFactorsWrongFalsely : Prop := longFactorsRow.holds Tryd.pinned (OpenSpec.ofChange longFactorsWrong)

/-- 'monoclelaw03.LongSquares': WHATEVER THE INPUT: true; the input reads as it did. -/
def longSquaresSpec : ChangeSpec := { name := "longSquares", fn := fun _ => fun
  | [d] => { results := [.lit (.bool true)], args := [d] }
  | _ => none }
def longSquaresRow : OpenClaim := { program := "ytoppdbgodceaiaadoor", sum := "80c4e8f726beb0da19ab309abeafab2433661566d4e9cd81631f80e2d71f29b2", func := "monocle/monoclelaw03.LongSquares", spec := "longSquares", inPlace := ["math/bits.Add64"], unfollowed := true, recurses := true, named := ["internal/strconv.uint64pow10", "math/bits.deBruijn32tab", "math/bits.deBruijn64tab", "math/bits.divideError", "math/bits.overflowError"], apart := false, laid := [("math/bits.deBruijn32tab", laid_math_bits_deBruijn32tab), ("math/bits.deBruijn64tab", laid_math_bits_deBruijn64tab), ("internal/strconv.uint64pow10", laid_internal_strconv_uint64pow10)] }
def LongSquaresSaid : Prop := longSquaresRow.holds Tryd.pinned (OpenSpec.ofChange longSquaresSpec)

/-- ITS FALSE NEIGHBOUR: 'it returns false'. Refute it at one input. -/
def longSquaresWrong : ChangeSpec := { name := "longSquares", fn := fun _ => fun
  | [d] => { results := [.lit (.bool false)], args := [d] }
  | _ => none }
def LongSquaresWrongFalsely : Prop := longSquaresRow.holds Tryd.pinned (OpenSpec.ofChange longSquaresWrong)

/-- 'monoclelaw03.LongInts': WHATEVER THE INPUT: true; the input reads as it did. -/
def longIntsSpec : ChangeSpec := { name := "longInts", fn := fun _ => fun
  | [d1, d2] => { results := [.lit (.bool true)], args := [d1, d2] }
  | _ => none }
def longIntsRow : OpenClaim := { program := "ytoppdbgodceaiaadoor", sum := "80c4e8f726beb0da19ab309abeafab2433661566d4e9cd81631f80e2d71f29b2", func := "monocle/monoclelaw03.LongInts", spec := "longInts", inPlace := ["math/bits.Add64"], unfollowed := true, recurses := true, named := ["internal/strconv.uint64pow10", "math/bits.deBruijn32tab", "math/bits.deBruijn64tab", "math/bits.divideError", "math/bits.overflowError"], apart := false, laid := [("math/bits.deBruijn32tab", laid_math_bits_deBruijn32tab), ("math/bits.deBruijn64tab", laid_math_bits_deBruijn64tab), ("internal/strconv.uint64pow10", laid_internal_strconv_uint64pow10)] }
def LongIntsSaid : Prop := longIntsRow.holds Tryd.pinned (OpenSpec.ofChange longIntsSpec)

/-- ITS FALSE NEIGHBOUR: 'it returns false'. Refute it at one input. -/
def longIntsWrong : ChangeSpec := { name := "longInts", fn := fun _ => fun
  | [d1, d2] => { results := [.lit (.bool false)], args := [d1, d2] }
  | _ => none }
def LongIntsWrongFalsely : Prop := longIntsRow.holds Tryd.pinned (OpenSpec.ofChange longIntsWrong)

/-- 'monoclelaw03.LongBack': WHATEVER THE INPUT: true; the input reads as it did. -/
def longBackSpec : ChangeSpec := { name := "longBack", fn := fun _ => fun
  | [d1, d2] => { results := [.lit (.bool true)], args := [d1, d2] }
  | _ => none }
def longBackRow : OpenClaim := { program := "ytoppdbgodceaiaadoor", sum := "80c4e8f726beb0da19ab309abeafab2433661566d4e9cd81631f80e2d71f29b2", func := "monocle/monoclelaw03.LongBack", spec := "longBack", inPlace := ["math/bits.Add64"], unfollowed := true, recurses := true, named := ["internal/strconv.uint64pow10", "math/bits.deBruijn32tab", "math/bits.deBruijn64tab", "math/bits.divideError", "math/bits.overflowError"], apart := false, laid := [("math/bits.deBruijn32tab", laid_math_bits_deBruijn32tab), ("math/bits.deBruijn64tab", laid_math_bits_deBruijn64tab), ("internal/strconv.uint64pow10", laid_internal_strconv_uint64pow10)] }
def LongBackSaid : Prop := longBackRow.holds Tryd.pinned (OpenSpec.ofChange longBackSpec)

/-- ITS FALSE NEIGHBOUR: 'it returns false'. Refute it at one input. -/
def longBackWrong : ChangeSpec := { name := "longBack", fn := fun _ => fun
  | [d1, d2] => { results := [.lit (.bool false)], args := [d1, d2] }
  | _ => none }
def LongBackWrongFalsely : Prop := longBackRow.holds Tryd.pinned (OpenSpec.ofChange longBackWrong)

/-- 'monoclelaw03.LongKnown': WHATEVER THE INPUT: true; the input reads as it did. -/
def longKnownSpec : ChangeSpec := { name := "longKnown", fn := fun _ => fun
  | [] => { results := [.lit (.bool true)], args := [] }
  | _ => none }
def longKnownRow : OpenClaim := { program := "ytoppdbgodceaiaadoor", sum := "80c4e8f726beb0da19ab309abeafab2433661566d4e9cd81631f80e2d71f29b2", func := "monocle/monoclelaw03.LongKnown", spec := "longKnown", inPlace := ["math/bits.Add64", "internal/abi.NoEscape", "internal/bytealg.MakeNoZero"], unfollowed := true, recurses := true, named := ["internal/strconv.uint64pow10", "math/bits.deBruijn32tab", "math/bits.deBruijn64tab", "math/bits.divideError", "math/bits.overflowError"], apart := false, laid := [("math/bits.deBruijn32tab", laid_math_bits_deBruijn32tab), ("math/bits.deBruijn64tab", laid_math_bits_deBruijn64tab), ("internal/strconv.uint64pow10", laid_internal_strconv_uint64pow10)] }
def LongKnownSaid : Prop := longKnownRow.holds Tryd.pinned (OpenSpec.ofChange longKnownSpec)

/-- ITS FALSE NEIGHBOUR: 'it returns false'. Refute it at one input. -/
def longKnownWrong : ChangeSpec := { name := "longKnown", fn := fun _ => fun
  | [] => { results := [.lit (.bool false)], args := [] }
  | _ => none }
def LongKnownWrongFalsely : Prop := longKnownRow.holds Tryd.pinned (OpenSpec.ofChange longKnownWrong)

/- THE SECOND FORM. 'bulk': how many values and letters a reading holds, each counted each time it is reached (what is shared counts as often as it is met; a slice's spare places count too). A statement '..UptoSaid' is the law's where the arguments, and the package variables that the reading takes, are together of bulk at most 1048576: NARROWER than '..Said'. Prove '..Said' where nothing that the law and all that it calls make is longer than what came in: it says more and counts as full. Else prove '..UptoSaid'. A law counts once. -/
mutual
def uptoBulk {H : Type} : DataW H → Nat
  | .lit (.string bytes) => bytes.length + 1
  | .lit _ => 1
  | .nil => 1
  | .ptr d => uptoBulk d + 1
  | .slice elems spare => uptoBulkAll elems + uptoBulkAll spare + 1
  | .agg parts => uptoBulkAll parts + 1
  | .iface _ d => uptoBulk d + 1
  | .map entries => uptoBulkEntries entries + 1
  | .held _ => 1
def uptoBulkAll {H : Type} : List (DataW H) → Nat
  | [] => 0
  | d :: r => uptoBulk d + uptoBulkAll r
def uptoBulkEntries {H : Type} : List (Lit × DataW H) → Nat
  | [] => 0
  | x :: r => uptoBulkEntry x + uptoBulkEntries r
def uptoBulkEntry {H : Type} : Lit × DataW H → Nat
  | (.string bytes, d) => bytes.length + uptoBulk d + 1
  | (_, d) => uptoBulk d + 1
 end
def uptoSmall : (H : Type) → List (DataW H) → Bool := fun _ ds => decide (uptoBulkAll ds ≤ 1048576)
def OpenSpec.upto (s : _root_.Go.ChangeSpec) : _root_.Go.OpenSpec := { _root_.Go.OpenSpec.ofChange s with cond := some uptoSmall }

/-- 'monoclelaw03.LongMakes', WHERE WHAT IT READS IS OF BULK AT MOST 1048576: true; the input reads as it did. -/
def longMakesUptoRow : OpenClaim := { program := "ytoppdbgodceaiaadoor", sum := "80c4e8f726beb0da19ab309abeafab2433661566d4e9cd81631f80e2d71f29b2", func := "monocle/monoclelaw03.LongMakes", spec := "longMakes", inPlace := ["math/bits.Add64"], unfollowed := true, recurses := true, named := ["internal/strconv.uint64pow10", "math/bits.deBruijn32tab", "math/bits.deBruijn64tab", "math/bits.divideError", "math/bits.overflowError"], apart := false, laid := [("math/bits.deBruijn32tab", laid_math_bits_deBruijn32tab), ("math/bits.deBruijn64tab", laid_math_bits_deBruijn64tab), ("internal/strconv.uint64pow10", laid_internal_strconv_uint64pow10)], narrowed := true }
def LongMakesUptoSaid : Prop := longMakesUptoRow.holds Tryd.pinned (OpenSpec.upto longMakesSpec)

/-- 'monoclelaw03.LongSums', WHERE WHAT IT READS IS OF BULK AT MOST 1048576: true; the input reads as it did. -/
def longSumsUptoRow : OpenClaim := { program := "ytoppdbgodceaiaadoor", sum := "80c4e8f726beb0da19ab309abeafab2433661566d4e9cd81631f80e2d71f29b2", func := "monocle/monoclelaw03.LongSums", spec := "longSums", inPlace := ["math/bits.Add64"], unfollowed := true, recurses := true, named := ["internal/strconv.uint64pow10", "math/bits.deBruijn32tab", "math/bits.deBruijn64tab", "math/bits.divideError", "math/bits.overflowError"], apart := false, laid := [("math/bits.deBruijn32tab", laid_math_bits_deBruijn32tab), ("math/bits.deBruijn64tab", laid_math_bits_deBruijn64tab), ("internal/strconv.uint64pow10", laid_internal_strconv_uint64pow10)], narrowed := true }
def LongSumsUptoSaid : Prop := longSumsUptoRow.holds Tryd.pinned (OpenSpec.upto longSumsSpec)

/-- 'monoclelaw03.LongProducts', WHERE WHAT IT READS IS OF BULK AT MOST 1048576: true; the input reads as it did. -/
def longProductsUptoRow : OpenClaim := { program := "ytoppdbgodceaiaadoor", sum := "80c4e8f726beb0da19ab309abeafab2433661566d4e9cd81631f80e2d71f29b2", func := "monocle/monoclelaw03.LongProducts", spec := "longProducts", inPlace := ["math/bits.Add64"], unfollowed := true, recurses := true, named := ["internal/strconv.uint64pow10", "math/bits.deBruijn32tab", "math/bits.deBruijn64tab", "math/bits.divideError", "math/bits.overflowError"], apart := false, laid := [("math/bits.deBruijn32tab", laid_math_bits_deBruijn32tab), ("math/bits.deBruijn64tab", laid_math_bits_deBruijn64tab), ("internal/strconv.uint64pow10", laid_internal_strconv_uint64pow10)], narrowed := true }
def LongProductsUptoSaid : Prop := longProductsUptoRow.holds Tryd.pinned (OpenSpec.upto longProductsSpec)

/-- 'monoclelaw03.LongCommon', WHERE WHAT IT READS IS OF BULK AT MOST 1048576: true; the input reads as it did. -/
def longCommonUptoRow : OpenClaim := { program := "ytoppdbgodceaiaadoor", sum := "80c4e8f726beb0da19ab309abeafab2433661566d4e9cd81631f80e2d71f29b2", func := "monocle/monoclelaw03.LongCommon", spec := "longCommon", inPlace := ["math/bits.Add64"], unfollowed := true, recurses := true, named := ["internal/strconv.uint64pow10", "math/bits.deBruijn32tab", "math/bits.deBruijn64tab", "math/bits.divideError", "math/bits.overflowError"], apart := false, laid := [("math/bits.deBruijn32tab", laid_math_bits_deBruijn32tab), ("math/bits.deBruijn64tab", laid_math_bits_deBruijn64tab), ("internal/strconv.uint64pow10", laid_internal_strconv_uint64pow10)], narrowed := true }
def LongCommonUptoSaid : Prop := longCommonUptoRow.holds Tryd.pinned (OpenSpec.upto longCommonSpec)

/-- 'monoclelaw03.LongRoots', WHERE WHAT IT READS IS OF BULK AT MOST 1048576: true; the input reads as it did. -/
def longRootsUptoRow : OpenClaim := { program := "ytoppdbgodceaiaadoor", sum := "80c4e8f726beb0da19ab309abeafab2433661566d4e9cd81631f80e2d71f29b2", func := "monocle/monoclelaw03.LongRoots", spec := "longRoots", inPlace := ["math/bits.Add64"], unfollowed := true, recurses := true, named := ["internal/strconv.uint64pow10", "math/bits.deBruijn32tab", "math/bits.deBruijn64tab", "math/bits.divideError", "math/bits.overflowError"], apart := false, laid := [("math/bits.deBruijn32tab", laid_math_bits_deBruijn32tab), ("math/bits.deBruijn64tab", laid_math_bits_deBruijn64tab), ("internal/strconv.uint64pow10", laid_internal_strconv_uint64pow10)], narrowed := true }
def LongRootsUptoSaid : Prop := longRootsUptoRow.holds Tryd.pinned (OpenSpec.upto longRootsSpec)

/-- 'monoclelaw03.LongTexts', WHERE WHAT IT READS IS OF BULK AT MOST 1048576: true; the input reads as it did. -/
def longTextsUptoRow : OpenClaim := { program := "ytoppdbgodceaiaadoor", sum := "80c4e8f726beb0da19ab309abeafab2433661566d4e9cd81631f80e2d71f29b2", func := "monocle/monoclelaw03.LongTexts", spec := "longTexts", inPlace := ["math/bits.Add64"], unfollowed := true, recurses := true, named := ["internal/strconv.uint64pow10", "math/bits.deBruijn32tab", "math/bits.deBruijn64tab", "math/bits.divideError", "math/bits.overflowError"], apart := false, laid := [("math/bits.deBruijn32tab", laid_math_bits_deBruijn32tab), ("math/bits.deBruijn64tab", laid_math_bits_deBruijn64tab), ("internal/strconv.uint64pow10", laid_internal_strconv_uint64pow10)], narrowed := true }
def LongTextsUptoSaid : Prop := longTextsUptoRow.holds Tryd.pinned (OpenSpec.upto longTextsSpec)

/-- 'monoclelaw03.LongDivides', WHERE WHAT IT READS IS OF BULK AT MOST 1048576: true; the input reads as it did. -/
def longDividesUptoRow : OpenClaim := { program := "ytoppdbgodceaiaadoor", sum := "80c4e8f726beb0da19ab309abeafab2433661566d4e9cd81631f80e2d71f29b2", func := "monocle/monoclelaw03.LongDivides", spec := "longDivides", inPlace := ["math/bits.Add64"], unfollowed := true, recurses := true, named := ["internal/strconv.uint64pow10", "math/bits.deBruijn32tab", "math/bits.deBruijn64tab", "math/bits.divideError", "math/bits.overflowError"], apart := false, laid := [("math/bits.deBruijn32tab", laid_math_bits_deBruijn32tab), ("math/bits.deBruijn64tab", laid_math_bits_deBruijn64tab), ("internal/strconv.uint64pow10", laid_internal_strconv_uint64pow10)], narrowed := true }
def LongDividesUptoSaid : Prop := longDividesUptoRow.holds Tryd.pinned (OpenSpec.upto longDividesSpec)

/-- 'monoclelaw03.LongRing', WHERE WHAT IT READS IS OF BULK AT MOST 1048576: true; the input reads as it did. -/
def longRingUptoRow : OpenClaim := { program := "ytoppdbgodceaiaadoor", sum := "80c4e8f726beb0da19ab309abeafab2433661566d4e9cd81631f80e2d71f29b2", func := "monocle/monoclelaw03.LongRing", spec := "longRing", inPlace := ["math/bits.Add64"], unfollowed := true, recurses := true, named := ["internal/strconv.uint64pow10", "math/bits.deBruijn32tab", "math/bits.deBruijn64tab", "math/bits.divideError", "math/bits.overflowError"], apart := false, laid := [("math/bits.deBruijn32tab", laid_math_bits_deBruijn32tab), ("math/bits.deBruijn64tab", laid_math_bits_deBruijn64tab), ("internal/strconv.uint64pow10", laid_internal_strconv_uint64pow10)], narrowed := true }
def LongRingUptoSaid : Prop := longRingUptoRow.holds Tryd.pinned (OpenSpec.upto longRingSpec)

/-- 'monoclelaw03.LongFactors', WHERE WHAT IT READS IS OF BULK AT MOST 1048576: true; the input reads as it did. -/
def longFactorsUptoRow : OpenClaim := { program := "ytoppdbgodceaiaadoor", sum := "80c4e8f726beb0da19ab309abeafab2433661566d4e9cd81631f80e2d71f29b2", func := "monocle/monoclelaw03.LongFactors", spec := "longFactors", inPlace := ["math/bits.Add64"], unfollowed := true, recurses := true, named := ["internal/strconv.uint64pow10", "math/bits.deBruijn32tab", "math/bits.deBruijn64tab", "math/bits.divideError", "math/bits.overflowError"], apart := false, laid := [("math/bits.deBruijn32tab", laid_math_bits_deBruijn32tab), ("math/bits.deBruijn64tab", laid_math_bits_deBruijn64tab), ("internal/strconv.uint64pow10", laid_internal_strconv_uint64pow10)], narrowed := true }
def LongFactorsUptoSaid : Prop := longFactorsUptoRow.holds Tryd.pinned (OpenSpec.upto longFactorsSpec)

/-- 'monoclelaw03.LongSquares', WHERE WHAT IT READS IS OF BULK AT MOST 1048576: true; the input reads as it did. -/
def longSquaresUptoRow : OpenClaim := { program := "ytoppdbgodceaiaadoor", sum := "80c4e8f726beb0da19ab309abeafab2433661566d4e9cd81631f80e2d71f29b2", func := "monocle/monoclelaw03.LongSquares", spec := "longSquares", inPlace := ["math/bits.Add64"], unfollowed := true, recurses := true, named := ["internal/strconv.uint64pow10", "math/bits.deBruijn32tab", "math/bits.deBruijn64tab", "math/bits.divideError", "math/bits.overflowError"], apart := false, laid := [("math/bits.deBruijn32tab", laid_math_bits_deBruijn32tab), ("math/bits.deBruijn64tab", laid_math_bits_deBruijn64tab), ("internal/strconv.uint64pow10", laid_internal_strconv_uint64pow10)], narrowed := true }
def LongSquaresUptoSaid : Prop := longSquaresUptoRow.holds Tryd.pinned (OpenSpec.upto longSquaresSpec)

/-- 'monoclelaw03.LongInts', WHERE WHAT IT READS IS OF BULK AT MOST 1048576: true; the input reads as it did. -/
def longIntsUptoRow : OpenClaim := { program := "ytoppdbgodceaiaadoor", sum := "80c4e8f726beb0da19ab309abeafab2433661566d4e9cd81631f80e2d71f29b2", func := "monocle/monoclelaw03.LongInts", spec := "longInts", inPlace := ["math/bits.Add64"], unfollowed := true, recurses := true, named := ["internal/strconv.uint64pow10", "math/bits.deBruijn32tab", "math/bits.deBruijn64tab", "math/bits.divideError", "math/bits.overflowError"], apart := false, laid := [("math/bits.deBruijn32tab", laid_math_bits_deBruijn32tab), ("math/bits.deBruijn64tab", laid_math_bits_deBruijn64tab), ("internal/strconv.uint64pow10", laid_internal_strconv_uint64pow10)], narrowed := true }
def LongIntsUptoSaid : Prop := longIntsUptoRow.holds Tryd.pinned (OpenSpec.upto longIntsSpec)

/-- 'monoclelaw03.LongBack', WHERE WHAT IT READS IS OF BULK AT MOST 1048576: true; the input reads as it did. -/
def longBackUptoRow : OpenClaim := { program := "ytoppdbgodceaiaadoor", sum := "80c4e8f726beb0da19ab309abeafab2433661566d4e9cd81631f80e2d71f29b2", func := "monocle/monoclelaw03.LongBack", spec := "longBack", inPlace := ["math/bits.Add64"], unfollowed := true, recurses := true, named := ["internal/strconv.uint64pow10", "math/bits.deBruijn32tab", "math/bits.deBruijn64tab", "math/bits.divideError", "math/bits.overflowError"], apart := false, laid := [("math/bits.deBruijn32tab", laid_math_bits_deBruijn32tab), ("math/bits.deBruijn64tab", laid_math_bits_deBruijn64tab), ("internal/strconv.uint64pow10", laid_internal_strconv_uint64pow10)], narrowed := true }
def LongBackUptoSaid : Prop := longBackUptoRow.holds Tryd.pinned (OpenSpec.upto longBackSpec)

/-- 'monoclelaw03.LongKnown', WHERE WHAT IT READS IS OF BULK AT MOST 1048576: true; the input reads as it did. -/
def longKnownUptoRow : OpenClaim := { program := "ytoppdbgodceaiaadoor", sum := "80c4e8f726beb0da19ab309abeafab2433661566d4e9cd81631f80e2d71f29b2", func := "monocle/monoclelaw03.LongKnown", spec := "longKnown", inPlace := ["math/bits.Add64", "internal/abi.NoEscape", "internal/bytealg.MakeNoZero"], unfollowed := true, recurses := true, named := ["internal/strconv.uint64pow10", "math/bits.deBruijn32tab", "math/bits.deBruijn64tab", "math/bits.divideError", "math/bits.overflowError"], apart := false, laid := [("math/bits.deBruijn32tab", laid_math_bits_deBruijn32tab), ("math/bits.deBruijn64tab", laid_math_bits_deBruijn64tab), ("internal/strconv.uint64pow10", laid_internal_strconv_uint64pow10)], narrowed := true }
def LongKnownUptoSaid : Prop := longKnownUptoRow.holds Tryd.pinned (OpenSpec.upto longKnownSpec)

end Rows
end Go.Proofs.YtoppdbgodceaiaaDoor
