/-
  DERIVED. GIVEN WITH THE SEED: THE CARDS: each row of YtkapjdehcanppaaDoorRows.lean that lists a variable, with what it lists TIED to the program's text (the seventh form; the later family's looks); each row that meets fmt, with fmt's text TOLD by the authors' own Lean function (tested against real Go, not proved from fmt's source: count such statements apart). THE CARD IS WHAT COUNTS. Prove the row's statement (the work); the ties are given (YtkapjdehcanppaaDoorTie.lean); close each card by the builder's one call (the guide's Derived/Test/ToyasCard.lean, 'card_holds'). Laid BY PROGRAM, IN A SANDBOX (cutbox-door.mjs). By AI agents, Wed Nov 11 2026. No macro, syntax, notation, axiom, sorry.
-/
import Derived.Test.YtkapjdehcanppaaDoorRows
import GoSem.ClaimSeven
namespace Go.Proofs.YtkapjdehcanppaaDoor
namespace Rows

/-- THE TIED CARD OF 'monoclelaw01.FixSums'. -/
def fixSumsCard : Claim7 := { stood := { row := fixSumsRow, standIns := [], harness := (true, "a59efe7d421a4db4108fc9ce9a2eeb9c284e1e6e6710405371727d516e3ea280"), looks := false }, kinds := [], alts := [], laidByText := true, laidKinds := [.data], laidTests := true, laidLooks := .later }
def FixSumsCardSaid : Prop := Claim7.holds Tryd.pinned (.plain (OpenSpec.ofChange fixSumsSpec)) fixSumsCard

/-- THE TIED CARD OF 'monoclelaw01.FixQuotients'. -/
def fixQuotientsCard : Claim7 := { stood := { row := fixQuotientsRow, standIns := [], harness := (true, "a59efe7d421a4db4108fc9ce9a2eeb9c284e1e6e6710405371727d516e3ea280"), looks := false }, kinds := [], alts := [], laidByText := true, laidKinds := [.data], laidTests := true, laidLooks := .later }
def FixQuotientsCardSaid : Prop := Claim7.holds Tryd.pinned (.plain (OpenSpec.ofChange fixQuotientsSpec)) fixQuotientsCard

/-- THE TIED CARD OF 'monoclelaw01.FixRoots'. -/
def fixRootsCard : Claim7 := { stood := { row := fixRootsRow, standIns := [], harness := (true, "a59efe7d421a4db4108fc9ce9a2eeb9c284e1e6e6710405371727d516e3ea280"), looks := false }, kinds := [], alts := [], laidByText := true, laidKinds := [.data], laidTests := true, laidLooks := .later }
def FixRootsCardSaid : Prop := Claim7.holds Tryd.pinned (.plain (OpenSpec.ofChange fixRootsSpec)) fixRootsCard

/-- THE TIED CARD OF 'monoclelaw01.FixBounds'. -/
def fixBoundsCard : Claim7 := { stood := { row := fixBoundsRow, standIns := [], harness := (true, "a59efe7d421a4db4108fc9ce9a2eeb9c284e1e6e6710405371727d516e3ea280"), looks := false }, kinds := [], alts := [], laidByText := true, laidKinds := [.data], laidTests := true, laidLooks := .later }
def FixBoundsCardSaid : Prop := Claim7.holds Tryd.pinned (.plain (OpenSpec.ofChange fixBoundsSpec)) fixBoundsCard

/-- THE TIED CARD OF 'monoclelaw01.FixMirrors'. -/
def fixMirrorsCard : Claim7 := { stood := { row := fixMirrorsRow, standIns := [], harness := (true, "a59efe7d421a4db4108fc9ce9a2eeb9c284e1e6e6710405371727d516e3ea280"), looks := false }, kinds := [], alts := [], laidByText := true, laidKinds := [.data], laidTests := true, laidLooks := .later }
def FixMirrorsCardSaid : Prop := Claim7.holds Tryd.pinned (.plain (OpenSpec.ofChange fixMirrorsSpec)) fixMirrorsCard

/-- THE TIED CARD OF 'monoclelaw01.FixOrders'. -/
def fixOrdersCard : Claim7 := { stood := { row := fixOrdersRow, standIns := [], harness := (true, "a59efe7d421a4db4108fc9ce9a2eeb9c284e1e6e6710405371727d516e3ea280"), looks := false }, kinds := [], alts := [], laidByText := true, laidKinds := [.data], laidTests := true, laidLooks := .later }
def FixOrdersCardSaid : Prop := Claim7.holds Tryd.pinned (.plain (OpenSpec.ofChange fixOrdersSpec)) fixOrdersCard

/-- THE TIED CARD OF 'monoclelaw01.FixSquares'. -/
def fixSquaresCard : Claim7 := { stood := { row := fixSquaresRow, standIns := [], harness := (true, "a59efe7d421a4db4108fc9ce9a2eeb9c284e1e6e6710405371727d516e3ea280"), looks := false }, kinds := [], alts := [], laidByText := true, laidKinds := [.data], laidTests := true, laidLooks := .later }
def FixSquaresCardSaid : Prop := Claim7.holds Tryd.pinned (.plain (OpenSpec.ofChange fixSquaresSpec)) fixSquaresCard

/-- THE TIED CARD OF 'monoclelaw01.FixKnown'. -/
def fixKnownCard : Claim7 := { stood := { row := fixKnownRow, standIns := [], harness := (true, "a59efe7d421a4db4108fc9ce9a2eeb9c284e1e6e6710405371727d516e3ea280"), looks := false }, kinds := [], alts := [], laidByText := true, laidKinds := [.data], laidTests := true, laidLooks := .later }
def FixKnownCardSaid : Prop := Claim7.holds Tryd.pinned (.plain (OpenSpec.ofChange fixKnownSpec)) fixKnownCard

/-- THE SECOND FORM's CARD OF 'monoclelaw01.FixSums'. -/
def fixSumsUptoCard : Claim7 := { stood := { row := fixSumsUptoRow, standIns := [], harness := (true, "a59efe7d421a4db4108fc9ce9a2eeb9c284e1e6e6710405371727d516e3ea280"), looks := false }, kinds := [], alts := [], laidByText := true, laidKinds := [.data], laidTests := true, laidLooks := .later }
def FixSumsUptoCardSaid : Prop := Claim7.holds Tryd.pinned (.plain (OpenSpec.upto fixSumsSpec)) fixSumsUptoCard

/-- THE SECOND FORM's CARD OF 'monoclelaw01.FixQuotients'. -/
def fixQuotientsUptoCard : Claim7 := { stood := { row := fixQuotientsUptoRow, standIns := [], harness := (true, "a59efe7d421a4db4108fc9ce9a2eeb9c284e1e6e6710405371727d516e3ea280"), looks := false }, kinds := [], alts := [], laidByText := true, laidKinds := [.data], laidTests := true, laidLooks := .later }
def FixQuotientsUptoCardSaid : Prop := Claim7.holds Tryd.pinned (.plain (OpenSpec.upto fixQuotientsSpec)) fixQuotientsUptoCard

/-- THE SECOND FORM's CARD OF 'monoclelaw01.FixRoots'. -/
def fixRootsUptoCard : Claim7 := { stood := { row := fixRootsUptoRow, standIns := [], harness := (true, "a59efe7d421a4db4108fc9ce9a2eeb9c284e1e6e6710405371727d516e3ea280"), looks := false }, kinds := [], alts := [], laidByText := true, laidKinds := [.data], laidTests := true, laidLooks := .later }
def FixRootsUptoCardSaid : Prop := Claim7.holds Tryd.pinned (.plain (OpenSpec.upto fixRootsSpec)) fixRootsUptoCard

/-- THE SECOND FORM's CARD OF 'monoclelaw01.FixBounds'. -/
def fixBoundsUptoCard : Claim7 := { stood := { row := fixBoundsUptoRow, standIns := [], harness := (true, "a59efe7d421a4db4108fc9ce9a2eeb9c284e1e6e6710405371727d516e3ea280"), looks := false }, kinds := [], alts := [], laidByText := true, laidKinds := [.data], laidTests := true, laidLooks := .later }
def FixBoundsUptoCardSaid : Prop := Claim7.holds Tryd.pinned (.plain (OpenSpec.upto fixBoundsSpec)) fixBoundsUptoCard

/-- THE SECOND FORM's CARD OF 'monoclelaw01.FixMirrors'. -/
def fixMirrorsUptoCard : Claim7 := { stood := { row := fixMirrorsUptoRow, standIns := [], harness := (true, "a59efe7d421a4db4108fc9ce9a2eeb9c284e1e6e6710405371727d516e3ea280"), looks := false }, kinds := [], alts := [], laidByText := true, laidKinds := [.data], laidTests := true, laidLooks := .later }
def FixMirrorsUptoCardSaid : Prop := Claim7.holds Tryd.pinned (.plain (OpenSpec.upto fixMirrorsSpec)) fixMirrorsUptoCard

/-- THE SECOND FORM's CARD OF 'monoclelaw01.FixOrders'. -/
def fixOrdersUptoCard : Claim7 := { stood := { row := fixOrdersUptoRow, standIns := [], harness := (true, "a59efe7d421a4db4108fc9ce9a2eeb9c284e1e6e6710405371727d516e3ea280"), looks := false }, kinds := [], alts := [], laidByText := true, laidKinds := [.data], laidTests := true, laidLooks := .later }
def FixOrdersUptoCardSaid : Prop := Claim7.holds Tryd.pinned (.plain (OpenSpec.upto fixOrdersSpec)) fixOrdersUptoCard

/-- THE SECOND FORM's CARD OF 'monoclelaw01.FixSquares'. -/
def fixSquaresUptoCard : Claim7 := { stood := { row := fixSquaresUptoRow, standIns := [], harness := (true, "a59efe7d421a4db4108fc9ce9a2eeb9c284e1e6e6710405371727d516e3ea280"), looks := false }, kinds := [], alts := [], laidByText := true, laidKinds := [.data], laidTests := true, laidLooks := .later }
def FixSquaresUptoCardSaid : Prop := Claim7.holds Tryd.pinned (.plain (OpenSpec.upto fixSquaresSpec)) fixSquaresUptoCard

/-- THE SECOND FORM's CARD OF 'monoclelaw01.FixKnown'. -/
def fixKnownUptoCard : Claim7 := { stood := { row := fixKnownUptoRow, standIns := [], harness := (true, "a59efe7d421a4db4108fc9ce9a2eeb9c284e1e6e6710405371727d516e3ea280"), looks := false }, kinds := [], alts := [], laidByText := true, laidKinds := [.data], laidTests := true, laidLooks := .later }
def FixKnownUptoCardSaid : Prop := Claim7.holds Tryd.pinned (.plain (OpenSpec.upto fixKnownSpec)) fixKnownUptoCard
end Rows
end Go.Proofs.YtkapjdehcanppaaDoor
