/-
  DERIVED. GIVEN WITH THE SEED: THE CARDS: each row of YthhbnhdejbpjiaaDoorRows.lean that lists a variable, with what it lists TIED to the program's text (the seventh form; the later family's looks); each row that meets fmt, with fmt's text TOLD by the authors' own Lean function (tested against real Go, not proved from fmt's source: count such statements apart). THE CARD IS WHAT COUNTS. Prove the row's statement (the work); the ties are given (YthhbnhdejbpjiaaDoorTie.lean); close each card by the builder's one call (the guide's Derived/Test/ToyasCard.lean, 'card_holds'). Laid BY PROGRAM, IN A SANDBOX (cutbox-door.mjs). By AI agents, Wed Nov 11 2026. No macro, syntax, notation, axiom, sorry.
-/
import Derived.Test.YthhbnhdejbpjiaaDoorRows
import GoSem.ClaimSeven
namespace Go.Proofs.YthhbnhdejbpjiaaDoor
namespace Rows

/-- THE TIED CARD OF 'monoclelaw03.LongKnown'. -/
def longKnownCard : Claim7 := { stood := { row := longKnownRow, standIns := [], harness := (true, "5a3983c0609b4216abc72a7a4d58bffa14596111523e7cf446cbf5090788b5fb"), looks := false }, kinds := [], alts := [], laidByText := true, laidKinds := [.data, .data, .data], laidTests := true, laidLooks := .later }
def LongKnownCardSaid : Prop := Claim7.holds Tryd.pinned (.plain (OpenSpec.ofChange longKnownSpec)) longKnownCard

/-- THE SECOND FORM's CARD OF 'monoclelaw03.LongKnown'. -/
def longKnownUptoCard : Claim7 := { stood := { row := longKnownUptoRow, standIns := [], harness := (true, "5a3983c0609b4216abc72a7a4d58bffa14596111523e7cf446cbf5090788b5fb"), looks := false }, kinds := [], alts := [], laidByText := true, laidKinds := [.data, .data, .data], laidTests := true, laidLooks := .later }
def LongKnownUptoCardSaid : Prop := Claim7.holds Tryd.pinned (.plain (OpenSpec.upto longKnownSpec)) longKnownUptoCard
end Rows
end Go.Proofs.YthhbnhdejbpjiaaDoor
