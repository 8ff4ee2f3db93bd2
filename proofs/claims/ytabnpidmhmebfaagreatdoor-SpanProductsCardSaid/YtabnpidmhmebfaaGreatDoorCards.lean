/-
  DERIVED. GIVEN WITH THE SEED: THE CARDS: each row of YtabnpidmhmebfaaGreatDoorRows.lean that lists a variable, with what it lists TIED to the program's text (the seventh form; the later family's looks); each row that meets fmt, with fmt's text TOLD by the authors' own Lean function (tested against real Go, not proved from fmt's source: count such statements apart). THE CARD IS WHAT COUNTS. Prove the row's statement (the work); the ties are given (YtabnpidmhmebfaaGreatDoorTie.lean); close each card by the builder's one call (the guide's Derived/Test/ToyasCard.lean, 'card_holds'). Laid BY PROGRAM, IN A SANDBOX (cutbox-door.mjs). By AI agents, Wed Nov 11 2026. No macro, syntax, notation, axiom, sorry.
-/
import Derived.Test.YtabnpidmhmebfaaGreatDoorRows
import GoSem.ClaimSeven
namespace Go.Proofs.YtabnpidmhmebfaaGreatDoor
namespace Rows

/-- THE TIED CARD OF 'monoclelaw02.SpanProducts'. -/
def spanProductsCard : Claim7 := { stood := { row := spanProductsRow, standIns := [], harness := (true, "c243f36edc21352c4997c3451de8acf819c6263bd7c3aa331af5222977e3b3ea"), looks := false }, kinds := [], alts := [], laidByText := true, laidKinds := [.data], laidTests := true, laidLooks := .later }
def SpanProductsCardSaid : Prop := Claim7.holds Tryz.pinned (.plain (OpenSpec.ofChange spanProductsSpec)) spanProductsCard

/-- THE SECOND FORM's CARD OF 'monoclelaw02.SpanProducts'. -/
def spanProductsUptoCard : Claim7 := { stood := { row := spanProductsUptoRow, standIns := [], harness := (true, "c243f36edc21352c4997c3451de8acf819c6263bd7c3aa331af5222977e3b3ea"), looks := false }, kinds := [], alts := [], laidByText := true, laidKinds := [.data], laidTests := true, laidLooks := .later }
def SpanProductsUptoCardSaid : Prop := Claim7.holds Tryz.pinned (.plain (OpenSpec.upto spanProductsSpec)) spanProductsUptoCard
end Rows
end Go.Proofs.YtabnpidmhmebfaaGreatDoor
