/-
  No cell of these rows narrows 'for every input' (looked for: loops, veiled, ifaces, maps, wideKeys, modest, calm, conditions, laid).
  DERIVED. THE GIVEN ROWS OF THIS SEAT. 6 by the template 'for every input the law returns true; each argument reads behind the call as it read before'; 0 by the template 'total and deterministic' (their statements: YtdaignklmbmcnaaTotals.lean).
  GIVEN WITH THE SEED: the statements are not yours to turn. If you find one false, say at which input.
  Laid BY PROGRAM, IN A SANDBOX (cutbox-rows.mjs): the forced cells as the released guide's own fill.sh prints them over the translation f2e76a2306f9a6bb… (all of the seat's roots in one cut). By AI agents, Wed Nov 11 2026. No macro, syntax, notation, axiom, sorry.
-/
import Derived.Test.YtdaignklmbmcnaaChecked
import GoSem.Claim
import GoSem.ClaimJoined
import GoSem.ClaimMapViews
import Derived.JoinedTies
import Derived.KernelRfl
namespace Go.Proofs.Ytdaignklmbmcnaa
/- THE CELL 'sum', in the pinned program and in every row, IS THE sha256 OF THE DUMP (.gsa) THAT YtdaignklmbmcnaaProg.lean LOADS. Nothing in Lean hashes anything: it is a label: what it is worth is what the hold of that sum in a sandbox is worth. -/
noncomputable def Try.pinned : Pinned := { name := "ytdaignklmbmcnaa", sum := "f2e76a2306f9a6bb233a690ab4cd29e4bd470424ee31183177cf9fa134f22f68", checked := Try.checked }
namespace Rows
def none {H : Type} : Left H := { results := [], args := [] }

/-- 'monoclelaw08.PolyEvals': WHATEVER THE INPUT: true; the input reads as it did. -/
def polyEvalsSpec : ChangeSpec := { name := "polyEvals", fn := fun _ => fun
  | [d1, d2, d3, d4] => { results := [.lit (.bool true)], args := [d1, d2, d3, d4] }
  | _ => none }
def polyEvalsRow : OpenClaim := { program := "ytdaignklmbmcnaa", sum := "f2e76a2306f9a6bb233a690ab4cd29e4bd470424ee31183177cf9fa134f22f68", func := "monocle/monoclelaw08.PolyEvals", spec := "polyEvals", inPlace := ["math/bits.Add64"], unfollowed := true, recurses := true, named := ["math/bits.divideError", "math/bits.overflowError"], apart := false }
def PolyEvalsSaid : Prop := polyEvalsRow.holds Try.pinned (OpenSpec.ofChange polyEvalsSpec)

/-- ITS FALSE NEIGHBOUR: 'it returns false'. Refute it at one input. -/
def polyEvalsWrong : ChangeSpec := { name := "polyEvals", fn := fun _ => fun
  | [d1, d2, d3, d4] => { results := [.lit (.bool false)], args := [d1, d2, d3, d4] }
  | _ => none }
def PolyEvalsWrongFalsely : Prop := polyEvalsRow.holds Try.pinned (OpenSpec.ofChange polyEvalsWrong)

/-- 'monoclelaw08.PolySlopes': WHATEVER THE INPUT: true; the input reads as it did. -/
def polySlopesSpec : ChangeSpec := { name := "polySlopes", fn := fun _ => fun
  | [d1, d2, d3, d4] => { results := [.lit (.bool true)], args := [d1, d2, d3, d4] }
  | _ => none }
def polySlopesRow : OpenClaim := { program := "ytdaignklmbmcnaa", sum := "f2e76a2306f9a6bb233a690ab4cd29e4bd470424ee31183177cf9fa134f22f68", func := "monocle/monoclelaw08.PolySlopes", spec := "polySlopes", inPlace := ["math/bits.Add64"], unfollowed := true, recurses := true, named := ["math/bits.divideError", "math/bits.overflowError"], apart := false }
def PolySlopesSaid : Prop := polySlopesRow.holds Try.pinned (OpenSpec.ofChange polySlopesSpec)

/-- ITS FALSE NEIGHBOUR: 'it returns false'. Refute it at one input. -/
def polySlopesWrong : ChangeSpec := { name := "polySlopes", fn := fun _ => fun
  | [d1, d2, d3, d4] => { results := [.lit (.bool false)], args := [d1, d2, d3, d4] }
  | _ => none }
def PolySlopesWrongFalsely : Prop := polySlopesRow.holds Try.pinned (OpenSpec.ofChange polySlopesWrong)

/-- 'monoclelaw08.PolyNarrows': WHATEVER THE INPUT: true; the input reads as it did. -/
def polyNarrowsSpec : ChangeSpec := { name := "polyNarrows", fn := fun _ => fun
  | [d1, d2, d3] => { results := [.lit (.bool true)], args := [d1, d2, d3] }
  | _ => none }
def polyNarrowsRow : OpenClaim := { program := "ytdaignklmbmcnaa", sum := "f2e76a2306f9a6bb233a690ab4cd29e4bd470424ee31183177cf9fa134f22f68", func := "monocle/monoclelaw08.PolyNarrows", spec := "polyNarrows", inPlace := ["math/bits.Add64"], unfollowed := true, recurses := true, named := ["math/bits.divideError", "math/bits.overflowError"], apart := false }
def PolyNarrowsSaid : Prop := polyNarrowsRow.holds Try.pinned (OpenSpec.ofChange polyNarrowsSpec)

/-- ITS FALSE NEIGHBOUR: 'it returns false'. Refute it at one input. -/
def polyNarrowsWrong : ChangeSpec := { name := "polyNarrows", fn := fun _ => fun
  | [d1, d2, d3] => { results := [.lit (.bool false)], args := [d1, d2, d3] }
  | _ => none }
def PolyNarrowsWrongFalsely : Prop := polyNarrowsRow.holds Try.pinned (OpenSpec.ofChange polyNarrowsWrong)

/-- 'monoclelaw08.PolyBegins': WHATEVER THE INPUT: true; the input reads as it did. -/
def polyBeginsSpec : ChangeSpec := { name := "polyBegins", fn := fun _ => fun
  | [d1, d2] => { results := [.lit (.bool true)], args := [d1, d2] }
  | _ => none }
def polyBeginsRow : OpenClaim := { program := "ytdaignklmbmcnaa", sum := "f2e76a2306f9a6bb233a690ab4cd29e4bd470424ee31183177cf9fa134f22f68", func := "monocle/monoclelaw08.PolyBegins", spec := "polyBegins", inPlace := ["math/bits.Add64"], unfollowed := true, recurses := true, named := ["math/bits.divideError", "math/bits.overflowError"], apart := false }
def PolyBeginsSaid : Prop := polyBeginsRow.holds Try.pinned (OpenSpec.ofChange polyBeginsSpec)

/-- ITS FALSE NEIGHBOUR: 'it returns false'. Refute it at one input. -/
def polyBeginsWrong : ChangeSpec := { name := "polyBegins", fn := fun _ => fun
  | [d1, d2] => { results := [.lit (.bool false)], args := [d1, d2] }
  | _ => none }
def PolyBeginsWrongFalsely : Prop := polyBeginsRow.holds Try.pinned (OpenSpec.ofChange polyBeginsWrong)

/-- 'monoclelaw08.PolyMeans': WHATEVER THE INPUT: true; the input reads as it did. -/
def polyMeansSpec : ChangeSpec := { name := "polyMeans", fn := fun _ => fun
  | [d1, d2, d3] => { results := [.lit (.bool true)], args := [d1, d2, d3] }
  | _ => none }
def polyMeansRow : OpenClaim := { program := "ytdaignklmbmcnaa", sum := "f2e76a2306f9a6bb233a690ab4cd29e4bd470424ee31183177cf9fa134f22f68", func := "monocle/monoclelaw08.PolyMeans", spec := "polyMeans", inPlace := ["math/bits.Add64"], unfollowed := true, recurses := true, named := ["math/bits.divideError", "math/bits.overflowError"], apart := false }
def PolyMeansSaid : Prop := polyMeansRow.holds Try.pinned (OpenSpec.ofChange polyMeansSpec)

/-- ITS FALSE NEIGHBOUR: 'it returns false'. Refute it at one input. -/
def polyMeansWrong : ChangeSpec := { name := "polyMeans", fn := fun _ => fun
  | [d1, d2, d3] => { results := [.lit (.bool false)], args := [d1, d2, d3] }
  | _ => none }
def PolyMeansWrongFalsely : Prop := polyMeansRow.holds Try.pinned (OpenSpec.ofChange polyMeansWrong)

/-- 'monoclelaw08.PolyKnown': WHATEVER THE INPUT: true; the input reads as it did. -/
def polyKnownSpec : ChangeSpec := { name := "polyKnown", fn := fun _ => fun
  | [] => { results := [.lit (.bool true)], args := [] }
  | _ => none }
def polyKnownRow : OpenClaim := { program := "ytdaignklmbmcnaa", sum := "f2e76a2306f9a6bb233a690ab4cd29e4bd470424ee31183177cf9fa134f22f68", func := "monocle/monoclelaw08.PolyKnown", spec := "polyKnown", inPlace := ["math/bits.Add64"], unfollowed := true, recurses := true, named := ["math/bits.divideError", "math/bits.overflowError"], apart := false }
def PolyKnownSaid : Prop := polyKnownRow.holds Try.pinned (OpenSpec.ofChange polyKnownSpec)

/-- ITS FALSE NEIGHBOUR: 'it returns false'. Refute it at one input. -/
def polyKnownWrong : ChangeSpec := { name := "polyKnown", fn := fun _ => fun
  | [] => { results := [.lit (.bool false)], args := [] }
  | _ => none }
def PolyKnownWrongFalsely : Prop := polyKnownRow.holds Try.pinned (OpenSpec.ofChange polyKnownWrong)

/- THE SECOND FORM. 'bulk': how many values and letters a reading holds, each counted each time it is reached (what is shared counts as often as it is met; a slice's spare places count too). A statement '..UptoSaid' is the law's where the arguments, and the package variables that the reading takes, are together of bulk at most 1048576: NARROWER than '..Said'. Prove '..Said' where nothing that the law and all that it calls make is longer than what came in: it says more and counts as full. Else prove '..UptoSaid'. A law counts once. -/
mutual
def uptoBulk {H : Type} : DataW H → Nat
  | .lit (.string bytes) => bytes.length + 1
  | .lit _ => 1
  | .nil => 1
  | .ptr d => uptoBulk d + 1
  | .slice elems spare => uptoBulkAll elems + uptoBulkAll spare + 1
  | .agg parts => uptoBulkAll parts + 1
  | .iface _ d => uptoBulk d + 1
  | .map entries => uptoBulkEntries entries + 1
  | .held _ => 1
def uptoBulkAll {H : Type} : List (DataW H) → Nat
  | [] => 0
  | d :: r => uptoBulk d + uptoBulkAll r
def uptoBulkEntries {H : Type} : List (Lit × DataW H) → Nat
  | [] => 0
  | x :: r => uptoBulkEntry x + uptoBulkEntries r
def uptoBulkEntry {H : Type} : Lit × DataW H → Nat
  | (.string bytes, d) => bytes.length + uptoBulk d + 1
  | (_, d) => uptoBulk d + 1
 end
def uptoSmall : (H : Type) → List (DataW H) → Bool := fun _ ds => decide (uptoBulkAll ds ≤ 1048576)
def OpenSpec.upto (s : _root_.Go.ChangeSpec) : _root_.Go.OpenSpec := { _root_.Go.OpenSpec.ofChange s with cond := some uptoSmall }

/-- 'monoclelaw08.PolyEvals', WHERE WHAT IT READS IS OF BULK AT MOST 1048576: true; the input reads as it did. -/
def polyEvalsUptoRow : OpenClaim := { program := "ytdaignklmbmcnaa", sum := "f2e76a2306f9a6bb233a690ab4cd29e4bd470424ee31183177cf9fa134f22f68", func := "monocle/monoclelaw08.PolyEvals", spec := "polyEvals", inPlace := ["math/bits.Add64"], unfollowed := true, recurses := true, named := ["math/bits.divideError", "math/bits.overflowError"], apart := false, narrowed := true }
def PolyEvalsUptoSaid : Prop := polyEvalsUptoRow.holds Try.pinned (OpenSpec.upto polyEvalsSpec)

/-- 'monoclelaw08.PolySlopes', WHERE WHAT IT READS IS OF BULK AT MOST 1048576: true; the input reads as it did. -/
def polySlopesUptoRow : OpenClaim := { program := "ytdaignklmbmcnaa", sum := "f2e76a2306f9a6bb233a690ab4cd29e4bd470424ee31183177cf9fa134f22f68", func := "monocle/monoclelaw08.PolySlopes", spec := "polySlopes", inPlace := ["math/bits.Add64"], unfollowed := true, recurses := true, named := ["math/bits.divideError", "math/bits.overflowError"], apart := false, narrowed := true }
def PolySlopesUptoSaid : Prop := polySlopesUptoRow.holds Try.pinned (OpenSpec.upto polySlopesSpec)

/-- 'monoclelaw08.PolyNarrows', WHERE WHAT IT READS IS OF BULK AT MOST 1048576: true; the input reads as it did. -/
def polyNarrowsUptoRow : OpenClaim := { program := "ytdaignklmbmcnaa", sum := "f2e76a2306f9a6bb233a690ab4cd29e4bd470424ee31183177cf9fa134f22f68", func := "monocle/monoclelaw08.PolyNarrows", spec := "polyNarrows", inPlace := ["math/bits.Add64"], unfollowed := true, recurses := true, named := ["math/bits.divideError", "math/bits.overflowError"], apart := false, narrowed := true }
def PolyNarrowsUptoSaid : Prop := polyNarrowsUptoRow.holds Try.pinned (OpenSpec.upto polyNarrowsSpec)

/-- 'monoclelaw08.PolyBegins', WHERE WHAT IT READS IS OF BULK AT MOST 1048576: true; the input reads as it did. -/
def polyBeginsUptoRow : OpenClaim := { program := "ytdaignklmbmcnaa", sum := "f2e76a2306f9a6bb233a690ab4cd29e4bd470424ee31183177cf9fa134f22f68", func := "monocle/monoclelaw08.PolyBegins", spec := "polyBegins", inPlace := ["math/bits.Add64"], unfollowed := true, recurses := true, named := ["math/bits.divideError", "math/bits.overflowError"], apart := false, narrowed := true }
def PolyBeginsUptoSaid : Prop := polyBeginsUptoRow.holds Try.pinned (OpenSpec.upto polyBeginsSpec)

/-- 'monoclelaw08.PolyMeans', WHERE WHAT IT READS IS OF BULK AT MOST 1048576: true; the input reads as it did. -/
def polyMeansUptoRow : OpenClaim := { program := "ytdaignklmbmcnaa", sum := "f2e76a2306f9a6bb233a690ab4cd29e4bd470424ee31183177cf9fa134f22f68", func := "monocle/monoclelaw08.PolyMeans", spec := "polyMeans", inPlace := ["math/bits.Add64"], unfollowed := true, recurses := true, named := ["math/bits.divideError", "math/bits.overflowError"], apart := false, narrowed := true }
def PolyMeansUptoSaid : Prop := polyMeansUptoRow.holds Try.pinned (OpenSpec.upto polyMeansSpec)

/-- 'monoclelaw08.PolyKnown', WHERE WHAT IT READS IS OF BULK AT MOST 1048576: true; the input reads as it did. -/
def polyKnownUptoRow : OpenClaim := { program := "ytdaignklmbmcnaa", sum := "f2e76a2306f9a6bb233a690ab4cd29e4bd470424ee31183177cf9fa134f22f68", func := "monocle/monoclelaw08.PolyKnown", spec := "polyKnown", inPlace := ["math/bits.Add64"], unfollowed := true, recurses := true, named := ["math/bits.divideError", "math/bits.overflowError"], apart := false, narrowed := true }
def PolyKnownUptoSaid : Prop := polyKnownUptoRow.holds Try.pinned (OpenSpec.upto polyKnownSpec)

end Rows
end Go.Proofs.Ytdaignklmbmcnaa
