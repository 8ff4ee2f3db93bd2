/-
  NARROWER THAN 'FOR EVERY INPUT', by the rows' own cells (each row's printed sentence says how): FixSums: laid · FixQuotients: laid · FixRoots: laid · FixBounds: laid · FixMirrors: laid · FixOrders: laid · FixSquares: laid · FixKnown: laid.
  DERIVED. THE GIVEN ROWS OF THIS SEAT. 8 by the template 'for every input the law returns true; each argument reads behind the call as it read before'; 0 by the template 'total and deterministic' (their statements: YtkapjdehcanppaaDoorTotals.lean).
  GIVEN WITH THE SEED: the statements are not yours to turn. If you find one false, say at which input.
  Laid BY PROGRAM, IN A SANDBOX (cutbox-rows.mjs): the forced cells as the released guide's own fill.sh prints them over the translation 2a4b2e3b947febde… (all of the seat's roots in one cut). By AI agents, Wed Nov 11 2026. No macro, syntax, notation, axiom, sorry.
-/
import Derived.Test.YtkapjdehcanppaaDoorChecked
import GoSem.Claim
import GoSem.ClaimJoined
import GoSem.ClaimMapViews
import Derived.JoinedTies
import Derived.KernelRfl
namespace Go.Proofs.YtkapjdehcanppaaDoor
/- THE CELL 'sum', in the pinned program and in every row, IS THE sha256 OF THE DUMP (.gsa) THAT YtkapjdehcanppaaDoorProg.lean LOADS. Nothing in Lean hashes anything: it is a label: what it is worth is what the hold of that sum in a sandbox is worth. -/
noncomputable def Tryd.pinned : Pinned := { name := "ytkapjdehcanppaadoor", sum := "2a4b2e3b947febde2ed7e2530cc523d6bb8828b5fc746e4b9cf089874440d120", checked := Tryd.checked }
namespace Rows
def none {H : Type} : Left H := { results := [], args := [] }

/- WHAT THE LISTED PACKAGE-LEVEL VARIABLES READ AS WHEN THE CALL BEGINS. Each datum BY PROGRAM (the guide's laid-datum.mjs) off the statement by which the dump's own 'gosem.cut.vars' lays the variable. In a bare row this is a premise. The card (YtkapjdehcanppaaDoorCards.lean) ties it to the program's text. -/
def laid_monocle_fix_tens {H : Type} : DataW H := .agg [.lit (.int .i64 1), .lit (.int .i64 10), .lit (.int .i64 100), .lit (.int .i64 1000), .lit (.int .i64 10000), .lit (.int .i64 100000), .lit (.int .i64 1000000), .lit (.int .i64 10000000), .lit (.int .i64 100000000), .lit (.int .i64 1000000000), .lit (.int .i64 10000000000), .lit (.int .i64 100000000000), .lit (.int .i64 1000000000000)]

/-- 'monoclelaw01.FixSums': WHATEVER THE INPUT: true; the input reads as it did. -/
def fixSumsSpec : ChangeSpec := { name := "fixSums", fn := fun _ => fun
  | [d1, d2, d3] => { results := [.lit (.bool true)], args := [d1, d2, d3] }
  | _ => none }
def fixSumsRow : OpenClaim := { program := "ytkapjdehcanppaadoor", sum := "2a4b2e3b947febde2ed7e2530cc523d6bb8828b5fc746e4b9cf089874440d120", func := "monocle/monoclelaw01.FixSums", spec := "fixSums", inPlace := ["math/bits.Add64"], unfollowed := true, recurses := true, named := ["math/bits.divideError", "math/bits.overflowError", "monocle/fix.tens"], apart := false, laid := [("monocle/fix.tens", laid_monocle_fix_tens)] }
def FixSumsSaid : Prop := fixSumsRow.holds Tryd.pinned (OpenSpec.ofChange fixSumsSpec)

/-- ITS FALSE NEIGHBOUR: 'it returns false'. Refute it at one input. -/
def fixSumsWrong : ChangeSpec := { name := "fixSums", fn := fun _ => fun
  | [d1, d2, d3] => { results := [.lit (.bool false)], args := [d1, d2, d3] }
  | _ => none }
def FixSumsWrongFalsely : Prop := fixSumsRow.holds Tryd.pinned (OpenSpec.ofChange fixSumsWrong)

/-- 'monoclelaw01.FixQuotients': WHATEVER THE INPUT: true; the input reads as it did. -/
def fixQuotientsSpec : ChangeSpec := { name := "fixQuotients", fn := fun _ => fun
  | [d1, d2, d3] => { results := [.lit (.bool true)], args := [d1, d2, d3] }
  | _ => none }
def fixQuotientsRow : OpenClaim := { program := "ytkapjdehcanppaadoor", sum := "2a4b2e3b947febde2ed7e2530cc523d6bb8828b5fc746e4b9cf089874440d120", func := "monocle/monoclelaw01.FixQuotients", spec := "fixQuotients", inPlace := ["math/bits.Add64"], unfollowed := true, recurses := true, named := ["math/bits.divideError", "math/bits.overflowError", "monocle/fix.tens"], apart := false, laid := [("monocle/fix.tens", laid_monocle_fix_tens)] }
def FixQuotientsSaid : Prop := fixQuotientsRow.holds Tryd.pinned (OpenSpec.ofChange fixQuotientsSpec)

/-- ITS FALSE NEIGHBOUR: 'it returns false'. Refute it at one input. -/
def fixQuotientsWrong : ChangeSpec := { name := "fixQuotients", fn := fun _ => fun
  | [d1, d2, d3] => { results := [.lit (.bool false)], args := [d1, d2, d3] }
  | _ => none }
def FixQuotientsWrongFalsely : Prop := fixQuotientsRow.holds Tryd.pinned (OpenSpec.ofChange fixQuotientsWrong)

/-- 'monoclelaw01.FixRoots': WHATEVER THE INPUT: true; the input reads as it did. -/
def fixRootsSpec : ChangeSpec := { name := "fixRoots", fn := fun _ => fun
  | [d1, d2, d3] => { results := [.lit (.bool true)], args := [d1, d2, d3] }
  | _ => none }
def fixRootsRow : OpenClaim := { program := "ytkapjdehcanppaadoor", sum := "2a4b2e3b947febde2ed7e2530cc523d6bb8828b5fc746e4b9cf089874440d120", func := "monocle/monoclelaw01.FixRoots", spec := "fixRoots", inPlace := ["math/bits.Add64"], unfollowed := true, recurses := true, named := ["math/bits.divideError", "math/bits.overflowError", "monocle/fix.tens"], apart := false, laid := [("monocle/fix.tens", laid_monocle_fix_tens)] }
def FixRootsSaid : Prop := fixRootsRow.holds Tryd.pinned (OpenSpec.ofChange fixRootsSpec)

/-- ITS FALSE NEIGHBOUR: 'it returns false'. Refute it at one input. -/
def fixRootsWrong : ChangeSpec := { name := "fixRoots", fn := fun _ => fun
  | [d1, d2, d3] => { results := [.lit (.bool false)], args := [d1, d2, d3] }
  | _ => none }
def FixRootsWrongFalsely : Prop := fixRootsRow.holds Tryd.pinned (OpenSpec.ofChange fixRootsWrong)

/-- 'monoclelaw01.FixBounds': WHATEVER THE INPUT: true; the input reads as it did. -/
def fixBoundsSpec : ChangeSpec := { name := "fixBounds", fn := fun _ => fun
  | [d1, d2, d3] => { results := [.lit (.bool true)], args := [d1, d2, d3] }
  | _ => none }
def fixBoundsRow : OpenClaim := { program := "ytkapjdehcanppaadoor", sum := "2a4b2e3b947febde2ed7e2530cc523d6bb8828b5fc746e4b9cf089874440d120", func := "monocle/monoclelaw01.FixBounds", spec := "fixBounds", inPlace := ["math/bits.Add64"], unfollowed := true, recurses := true, named := ["math/bits.divideError", "math/bits.overflowError", "monocle/fix.tens"], apart := false, laid := [("monocle/fix.tens", laid_monocle_fix_tens)] }
def FixBoundsSaid : Prop := fixBoundsRow.holds Tryd.pinned (OpenSpec.ofChange fixBoundsSpec)

/-- ITS FALSE NEIGHBOUR: 'it returns false'. Refute it at one input. -/
def fixBoundsWrong : ChangeSpec := { name := "fixBounds", fn := fun _ => fun
  | [d1, d2, d3] => { results := [.lit (.bool false)], args := [d1, d2, d3] }
  | _ => none }
def FixBoundsWrongFalsely : Prop := fixBoundsRow.holds Tryd.pinned (OpenSpec.ofChange fixBoundsWrong)

/-- 'monoclelaw01.FixMirrors': WHATEVER THE INPUT: true; the input reads as it did. -/
def fixMirrorsSpec : ChangeSpec := { name := "fixMirrors", fn := fun _ => fun
  | [d1, d2, d3] => { results := [.lit (.bool true)], args := [d1, d2, d3] }
  | _ => none }
def fixMirrorsRow : OpenClaim := { program := "ytkapjdehcanppaadoor", sum := "2a4b2e3b947febde2ed7e2530cc523d6bb8828b5fc746e4b9cf089874440d120", func := "monocle/monoclelaw01.FixMirrors", spec := "fixMirrors", inPlace := ["math/bits.Add64"], unfollowed := true, recurses := true, named := ["math/bits.divideError", "math/bits.overflowError", "monocle/fix.tens"], apart := false, laid := [("monocle/fix.tens", laid_monocle_fix_tens)] }
def FixMirrorsSaid : Prop := fixMirrorsRow.holds Tryd.pinned (OpenSpec.ofChange fixMirrorsSpec)

/-- ITS FALSE NEIGHBOUR: 'it returns false'. Refute it at one input. -/
def fixMirrorsWrong : ChangeSpec := { name := "fixMirrors", fn := fun _ => fun
  | [d1, d2, d3] => { results := [.lit (.bool false)], args := [d1, d2, d3] }
  | _ => none }
def FixMirrorsWrongFalsely : Prop := fixMirrorsRow.holds Tryd.pinned (OpenSpec.ofChange fixMirrorsWrong)

/-- 'monoclelaw01.FixOrders': WHATEVER THE INPUT: true; the input reads as it did. -/
def fixOrdersSpec : ChangeSpec := { name := "fixOrders", fn := fun _ => fun
  | [d1, d2, d3, d4] => { results := [.lit (.bool true)], args := [d1, d2, d3, d4] }
  | _ => none }
def fixOrdersRow : OpenClaim := { program := "ytkapjdehcanppaadoor", sum := "2a4b2e3b947febde2ed7e2530cc523d6bb8828b5fc746e4b9cf089874440d120", func := "monocle/monoclelaw01.FixOrders", spec := "fixOrders", inPlace := ["math/bits.Add64"], unfollowed := true, recurses := true, named := ["math/bits.divideError", "math/bits.overflowError", "monocle/fix.tens"], apart := false, laid := [("monocle/fix.tens", laid_monocle_fix_tens)] }
def FixOrdersSaid : Prop := fixOrdersRow.holds Tryd.pinned (OpenSpec.ofChange fixOrdersSpec)

/-- ITS FALSE NEIGHBOUR: 'it returns false'. Refute it at one input. -/
def fixOrdersWrong : ChangeSpec := { name := "fixOrders", fn := fun _ => fun
  | [d1, d2, d3, d4] => { results := [.lit (.bool false)], args := [d1, d2, d3, d4] }
  | _ => none }
def FixOrdersWrongFalsely : Prop := fixOrdersRow.holds Tryd.pinned (OpenSpec.ofChange fixOrdersWrong)

/-- 'monoclelaw01.FixSquares': WHATEVER THE INPUT: true; the input reads as it did. -/
def fixSquaresSpec : ChangeSpec := { name := "fixSquares", fn := fun _ => fun
  | [d1, d2] => { results := [.lit (.bool true)], args := [d1, d2] }
  | _ => none }
def fixSquaresRow : OpenClaim := { program := "ytkapjdehcanppaadoor", sum := "2a4b2e3b947febde2ed7e2530cc523d6bb8828b5fc746e4b9cf089874440d120", func := "monocle/monoclelaw01.FixSquares", spec := "fixSquares", inPlace := ["math/bits.Add64"], unfollowed := true, recurses := true, named := ["math/bits.divideError", "math/bits.overflowError", "monocle/fix.tens"], apart := false, laid := [("monocle/fix.tens", laid_monocle_fix_tens)] }
def FixSquaresSaid : Prop := fixSquaresRow.holds Tryd.pinned (OpenSpec.ofChange fixSquaresSpec)

/-- ITS FALSE NEIGHBOUR: 'it returns false'. Refute it at one input. -/
def fixSquaresWrong : ChangeSpec := { name := "fixSquares", fn := fun _ => fun
  | [d1, d2] => { results := [.lit (.bool false)], args := [d1, d2] }
  | _ => none }
def FixSquaresWrongFalsely : Prop := fixSquaresRow.holds Tryd.pinned (OpenSpec.ofChange fixSquaresWrong)

/-- 'monoclelaw01.FixKnown': WHATEVER THE INPUT: true; the input reads as it did. -/
def fixKnownSpec : ChangeSpec := { name := "fixKnown", fn := fun _ => fun
  | [] => { results := [.lit (.bool true)], args := [] }
  | _ => none }
def fixKnownRow : OpenClaim := { program := "ytkapjdehcanppaadoor", sum := "2a4b2e3b947febde2ed7e2530cc523d6bb8828b5fc746e4b9cf089874440d120", func := "monocle/monoclelaw01.FixKnown", spec := "fixKnown", inPlace := ["math/bits.Add64"], unfollowed := true, recurses := true, named := ["math/bits.divideError", "math/bits.overflowError", "monocle/fix.tens"], apart := false, laid := [("monocle/fix.tens", laid_monocle_fix_tens)] }
def FixKnownSaid : Prop := fixKnownRow.holds Tryd.pinned (OpenSpec.ofChange fixKnownSpec)

/-- ITS FALSE NEIGHBOUR: 'it returns false'. Refute it at one input. -/
def fixKnownWrong : ChangeSpec := { name := "fixKnown", fn := fun _ => fun
  | [] => { results := [.lit (.bool false)], args := [] }
  | _ => none }
def FixKnownWrongFalsely : Prop := fixKnownRow.holds Tryd.pinned (OpenSpec.ofChange fixKnownWrong)

/- THE SECOND FORM. 'bulk': how many values and letters a reading holds, each counted each time it is reached (what is shared counts as often as it is met; a slice's spare places count too). A statement '..UptoSaid' is the law's where the arguments, and the package variables that the reading takes, are together of bulk at most 1048576: NARROWER than '..Said'. Prove '..Said' where nothing that the law and all that it calls make is longer than what came in: it says more and counts as full. Else prove '..UptoSaid'. A law counts once. -/
mutual
def uptoBulk {H : Type} : DataW H → Nat
  | .lit (.string bytes) => bytes.length + 1
  | .lit _ => 1
  | .nil => 1
  | .ptr d => uptoBulk d + 1
  | .slice elems spare => uptoBulkAll elems + uptoBulkAll spare + 1
  | .agg parts => uptoBulkAll parts + 1
  | .iface _ d => uptoBulk d + 1
  | .map entries => uptoBulkEntries entries + 1
  | .held _ => 1
def uptoBulkAll {H : Type} : List (DataW H) → Nat
  | [] => 0
  | d :: r => uptoBulk d + uptoBulkAll r
def uptoBulkEntries {H : Type} : List (Lit × DataW H) → Nat
  | [] => 0
  | x :: r => uptoBulkEntry x + uptoBulkEntries r
def uptoBulkEntry {H : Type} : Lit × DataW H → Nat
  | (.string bytes, d) => bytes.length + uptoBulk d + 1
  | (_, d) => uptoBulk d + 1
 end
def uptoSmall : (H : Type) → List (DataW H) → Bool := fun _ ds => decide (uptoBulkAll ds ≤ 1048576)
def OpenSpec.upto (s : _root_.Go.ChangeSpec) : _root_.Go.OpenSpec := { _root_.Go.OpenSpec.ofChange s with cond := some uptoSmall }

/-- 'monoclelaw01.FixSums', WHERE WHAT IT READS IS OF BULK AT MOST 1048576: true; the input reads as it did. -/
def fixSumsUptoRow : OpenClaim := { program := "ytkapjdehcanppaadoor", sum := "2a4b2e3b947febde2ed7e2530cc523d6bb8828b5fc746e4b9cf089874440d120", func := "monocle/monoclelaw01.FixSums", spec := "fixSums", inPlace := ["math/bits.Add64"], unfollowed := true, recurses := true, named := ["math/bits.divideError", "math/bits.overflowError", "monocle/fix.tens"], apart := false, laid := [("monocle/fix.tens", laid_monocle_fix_tens)], narrowed := true }
def FixSumsUptoSaid : Prop := fixSumsUptoRow.holds Tryd.pinned (OpenSpec.upto fixSumsSpec)

/-- 'monoclelaw01.FixQuotients', WHERE WHAT IT READS IS OF BULK AT MOST 1048576: true; the input reads as it did. -/
def fixQuotientsUptoRow : OpenClaim := { program := "ytkapjdehcanppaadoor", sum := "2a4b2e3b947febde2ed7e2530cc523d6bb8828b5fc746e4b9cf089874440d120", func := "monocle/monoclelaw01.FixQuotients", spec := "fixQuotients", inPlace := ["math/bits.Add64"], unfollowed := true, recurses := true, named := ["math/bits.divideError", "math/bits.overflowError", "monocle/fix.tens"], apart := false, laid := [("monocle/fix.tens", laid_monocle_fix_tens)], narrowed := true }
def FixQuotientsUptoSaid : Prop := fixQuotientsUptoRow.holds Tryd.pinned (OpenSpec.upto fixQuotientsSpec)

/-- 'monoclelaw01.FixRoots', WHERE WHAT IT READS IS OF BULK AT MOST 1048576: true; the input reads as it did. -/
def fixRootsUptoRow : OpenClaim := { program := "ytkapjdehcanppaadoor", sum := "2a4b2e3b947febde2ed7e2530cc523d6bb8828b5fc746e4b9cf089874440d120", func := "monocle/monoclelaw01.FixRoots", spec := "fixRoots", inPlace := ["math/bits.Add64"], unfollowed := true, recurses := true, named := ["math/bits.divideError", "math/bits.overflowError", "monocle/fix.tens"], apart := false, laid := [("monocle/fix.tens", laid_monocle_fix_tens)], narrowed := true }
def FixRootsUptoSaid : Prop := fixRootsUptoRow.holds Tryd.pinned (OpenSpec.upto fixRootsSpec)

/-- 'monoclelaw01.FixBounds', WHERE WHAT IT READS IS OF BULK AT MOST 1048576: true; the input reads as it did. -/
def fixBoundsUptoRow : OpenClaim := { program := "ytkapjdehcanppaadoor", sum := "2a4b2e3b947febde2ed7e2530cc523d6bb8828b5fc746e4b9cf089874440d120", func := "monocle/monoclelaw01.FixBounds", spec := "fixBounds", inPlace := ["math/bits.Add64"], unfollowed := true, recurses := true, named := ["math/bits.divideError", "math/bits.overflowError", "monocle/fix.tens"], apart := false, laid := [("monocle/fix.tens", laid_monocle_fix_tens)], narrowed := true }
def FixBoundsUptoSaid : Prop := fixBoundsUptoRow.holds Tryd.pinned (OpenSpec.upto fixBoundsSpec)

/-- 'monoclelaw01.FixMirrors', WHERE WHAT IT READS IS OF BULK AT MOST 1048576: true; the input reads as it did. -/
def fixMirrorsUptoRow : OpenClaim := { program := "ytkapjdehcanppaadoor", sum := "2a4b2e3b947febde2ed7e2530cc523d6bb8828b5fc746e4b9cf089874440d120", func := "monocle/monoclelaw01.FixMirrors", spec := "fixMirrors", inPlace := ["math/bits.Add64"], unfollowed := true, recurses := true, named := ["math/bits.divideError", "math/bits.overflowError", "monocle/fix.tens"], apart := false, laid := [("monocle/fix.tens", laid_monocle_fix_tens)], narrowed := true }
def FixMirrorsUptoSaid : Prop := fixMirrorsUptoRow.holds Tryd.pinned (OpenSpec.upto fixMirrorsSpec)

/-- 'monoclelaw01.FixOrders', WHERE WHAT IT READS IS OF BULK AT MOST 1048576: true; the input reads as it did. -/
def fixOrdersUptoRow : OpenClaim := { program := "ytkapjdehcanppaadoor", sum := "2a4b2e3b947febde2ed7e2530cc523d6bb8828b5fc746e4b9cf089874440d120", func := "monocle/monoclelaw01.FixOrders", spec := "fixOrders", inPlace := ["math/bits.Add64"], unfollowed := true, recurses := true, named := ["math/bits.divideError", "math/bits.overflowError", "monocle/fix.tens"], apart := false, laid := [("monocle/fix.tens", laid_monocle_fix_tens)], narrowed := true }
def FixOrdersUptoSaid : Prop := fixOrdersUptoRow.holds Tryd.pinned (OpenSpec.upto fixOrdersSpec)

/-- 'monoclelaw01.FixSquares', WHERE WHAT IT READS IS OF BULK AT MOST 1048576: true; the input reads as it did. -/
def fixSquaresUptoRow : OpenClaim := { program := "ytkapjdehcanppaadoor", sum := "2a4b2e3b947febde2ed7e2530cc523d6bb8828b5fc746e4b9cf089874440d120", func := "monocle/monoclelaw01.FixSquares", spec := "fixSquares", inPlace := ["math/bits.Add64"], unfollowed := true, recurses := true, named := ["math/bits.divideError", "math/bits.overflowError", "monocle/fix.tens"], apart := false, laid := [("monocle/fix.tens", laid_monocle_fix_tens)], narrowed := true }
def FixSquaresUptoSaid : Prop := fixSquaresUptoRow.holds Tryd.pinned (OpenSpec.upto fixSquaresSpec)

/-- 'monoclelaw01.FixKnown', WHERE WHAT IT READS IS OF BULK AT MOST 1048576: true; the input reads as it did. -/
def fixKnownUptoRow : OpenClaim := { program := "ytkapjdehcanppaadoor", sum := "2a4b2e3b947febde2ed7e2530cc523d6bb8828b5fc746e4b9cf089874440d120", func := "monocle/monoclelaw01.FixKnown", spec := "fixKnown", inPlace := ["math/bits.Add64"], unfollowed := true, recurses := true, named := ["math/bits.divideError", "math/bits.overflowError", "monocle/fix.tens"], apart := false, laid := [("monocle/fix.tens", laid_monocle_fix_tens)], narrowed := true }
def FixKnownUptoSaid : Prop := fixKnownUptoRow.holds Tryd.pinned (OpenSpec.upto fixKnownSpec)

end Rows
end Go.Proofs.YtkapjdehcanppaaDoor
