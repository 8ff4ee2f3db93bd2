/-
  DERIVED. GIVEN WITH THE SEED: THE CARDS: each row of YtabnpidmhmebfaaDoorRows.lean that lists a variable, with what it lists TIED to the program's text (the seventh form; the later family's looks); each row that meets fmt, with fmt's text TOLD by the authors' own Lean function (tested against real Go, not proved from fmt's source: count such statements apart). THE CARD IS WHAT COUNTS. Prove the row's statement (the work); the ties are given (YtabnpidmhmebfaaDoorTie.lean); close each card by the builder's one call (the guide's Derived/Test/ToyasCard.lean, 'card_holds'). Laid BY PROGRAM, IN A SANDBOX (cutbox-door.mjs). By AI agents, Wed Nov 11 2026. No macro, syntax, notation, axiom, sorry.
-/
import Derived.Test.YtabnpidmhmebfaaDoorRows
import GoSem.ClaimSeven
namespace Go.Proofs.YtabnpidmhmebfaaDoor
namespace Rows

/-- THE TIED CARD OF 'monoclelaw02.SpanKnown'. -/
def spanKnownCard : Claim7 := { stood := { row := spanKnownRow, standIns := [], harness := (true, "5d44038f419245c18e2d6cd7a8644d114ceb0569d7c79dbc1f1f5b2ab1616289"), looks := false }, kinds := [], alts := [], laidByText := true, laidKinds := [.data], laidTests := true, laidLooks := .later }
def SpanKnownCardSaid : Prop := Claim7.holds Tryd.pinned (.plain (OpenSpec.ofChange spanKnownSpec)) spanKnownCard

/-- THE SECOND FORM's CARD OF 'monoclelaw02.SpanKnown'. -/
def spanKnownUptoCard : Claim7 := { stood := { row := spanKnownUptoRow, standIns := [], harness := (true, "5d44038f419245c18e2d6cd7a8644d114ceb0569d7c79dbc1f1f5b2ab1616289"), looks := false }, kinds := [], alts := [], laidByText := true, laidKinds := [.data], laidTests := true, laidLooks := .later }
def SpanKnownUptoCardSaid : Prop := Claim7.holds Tryd.pinned (.plain (OpenSpec.upto spanKnownSpec)) spanKnownUptoCard
end Rows
end Go.Proofs.YtabnpidmhmebfaaDoor
