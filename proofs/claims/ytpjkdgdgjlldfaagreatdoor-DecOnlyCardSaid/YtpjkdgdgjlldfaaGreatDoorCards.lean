/-
  DERIVED. GIVEN WITH THE SEED: THE CARDS: each row of YtpjkdgdgjlldfaaGreatDoorRows.lean that lists a variable, with what it lists TIED to the program's text (the seventh form; the later family's looks); each row that meets fmt, with fmt's text TOLD by the authors' own Lean function (tested against real Go, not proved from fmt's source: count such statements apart). THE CARD IS WHAT COUNTS. Prove the row's statement (the work); the ties are given (YtpjkdgdgjlldfaaGreatDoorTie.lean); close each card by the builder's one call (the guide's Derived/Test/ToyasCard.lean, 'card_holds'). Laid BY PROGRAM, IN A SANDBOX (cutbox-door.mjs). By AI agents, Wed Nov 11 2026. No macro, syntax, notation, axiom, sorry.
-/
import Derived.Test.YtpjkdgdgjlldfaaGreatDoorRows
import GoSem.ClaimSeven
namespace Go.Proofs.YtpjkdgdgjlldfaaGreatDoor
namespace Rows

/-- THE TIED CARD OF 'monoclelaw05.DecParses'. -/
def decParsesCard : Claim7 := { stood := { row := decParsesRow, standIns := [], harness := (true, "ce6019d9d5335542c21aa0dedad911183372df3c374c006c048e9f210e3ca994"), looks := true }, kinds := [], alts := [], laidByText := true, laidKinds := [.data, .data, .data, .sentinel, .sentinel], laidTests := true, laidLooks := .later }
def DecParsesCardSaid : Prop := Claim7.holds Tryz.pinned (.plain (OpenSpec.ofChange decParsesSpec)) decParsesCard

/-- THE TIED CARD OF 'monoclelaw05.DecRounds'. -/
def decRoundsCard : Claim7 := { stood := { row := decRoundsRow, standIns := [], harness := (true, "ce6019d9d5335542c21aa0dedad911183372df3c374c006c048e9f210e3ca994"), looks := true }, kinds := [], alts := [], laidByText := true, laidKinds := [.data, .data, .data, .sentinel, .sentinel], laidTests := true, laidLooks := .later }
def DecRoundsCardSaid : Prop := Claim7.holds Tryz.pinned (.plain (OpenSpec.ofChange decRoundsSpec)) decRoundsCard

/-- THE TIED CARD OF 'monoclelaw05.DecOnly'. -/
def decOnlyCard : Claim7 := { stood := { row := decOnlyRow, standIns := [], harness := (true, "ce6019d9d5335542c21aa0dedad911183372df3c374c006c048e9f210e3ca994"), looks := true }, kinds := [], alts := [], laidByText := true, laidKinds := [.data, .data, .data, .data, .sentinel, .sentinel, .pinned], laidTests := true, laidLooks := .later }
def DecOnlyCardSaid : Prop := Claim7.holds Tryz.pinned (.plain (OpenSpec.ofChange decOnlySpec)) decOnlyCard

/-- THE SECOND FORM's CARD OF 'monoclelaw05.DecParses'. -/
def decParsesUptoCard : Claim7 := { stood := { row := decParsesUptoRow, standIns := [], harness := (true, "ce6019d9d5335542c21aa0dedad911183372df3c374c006c048e9f210e3ca994"), looks := true }, kinds := [], alts := [], laidByText := true, laidKinds := [.data, .data, .data, .sentinel, .sentinel], laidTests := true, laidLooks := .later }
def DecParsesUptoCardSaid : Prop := Claim7.holds Tryz.pinned (.plain (OpenSpec.upto decParsesSpec)) decParsesUptoCard

/-- THE SECOND FORM's CARD OF 'monoclelaw05.DecRounds'. -/
def decRoundsUptoCard : Claim7 := { stood := { row := decRoundsUptoRow, standIns := [], harness := (true, "ce6019d9d5335542c21aa0dedad911183372df3c374c006c048e9f210e3ca994"), looks := true }, kinds := [], alts := [], laidByText := true, laidKinds := [.data, .data, .data, .sentinel, .sentinel], laidTests := true, laidLooks := .later }
def DecRoundsUptoCardSaid : Prop := Claim7.holds Tryz.pinned (.plain (OpenSpec.upto decRoundsSpec)) decRoundsUptoCard

/-- THE SECOND FORM's CARD OF 'monoclelaw05.DecOnly'. -/
def decOnlyUptoCard : Claim7 := { stood := { row := decOnlyUptoRow, standIns := [], harness := (true, "ce6019d9d5335542c21aa0dedad911183372df3c374c006c048e9f210e3ca994"), looks := true }, kinds := [], alts := [], laidByText := true, laidKinds := [.data, .data, .data, .data, .sentinel, .sentinel, .pinned], laidTests := true, laidLooks := .later }
def DecOnlyUptoCardSaid : Prop := Claim7.holds Tryz.pinned (.plain (OpenSpec.upto decOnlySpec)) decOnlyUptoCard
end Rows
end Go.Proofs.YtpjkdgdgjlldfaaGreatDoor
