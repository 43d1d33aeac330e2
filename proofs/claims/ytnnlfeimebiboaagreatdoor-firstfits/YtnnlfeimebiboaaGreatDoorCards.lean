/-
  DERIVED. GIVEN WITH THE SEED: THE CARDS: each row of YtnnlfeimebiboaaGreatDoorRows.lean that lists a variable, with what it lists TIED to the program's text (the seventh form; the later family's looks); each row that meets fmt, with fmt's text TOLD by the authors' own Lean function (tested against real Go, not proved from fmt's source: count such statements apart). THE CARD IS WHAT COUNTS. Prove the row's statement (the work); the ties are given (YtnnlfeimebiboaaGreatDoorTie.lean); close each card by the builder's one call (the guide's Derived/Test/ToyasCard.lean, 'card_holds'). Laid BY PROGRAM, IN A SANDBOX (cutbox-door.mjs). By AI agents, Wed Nov 11 2026. No macro, syntax, notation, axiom, sorry.
-/
import Derived.Test.YtnnlfeimebiboaaGreatDoorRows
import GoSem.ClaimSeven
namespace Go.Proofs.YtnnlfeimebiboaaGreatDoor
namespace Rows

/-- THE TIED CARD OF 'quirelaw11.FirstTells'. -/
def firstTellsCard : Claim7 := { stood := { row := firstTellsRow, standIns := [], harness := (true, "0cf2888add67b9f544cfb52625f6555d96667632e38d83150fcdc9fcf70c45eb"), looks := false }, kinds := [], alts := [], laidByText := true, laidKinds := [.data, .listed, .data, .pinned, .pinned], laidTests := true, laidLooks := .later }
def FirstTellsCardSaid : Prop := Claim7.holds Tryz.pinned (.plain (OpenSpec.ofChange firstTellsSpec)) firstTellsCard

/-- THE TIED CARD OF 'quirelaw11.FirstKnown'. -/
def firstKnownCard : Claim7 := { stood := { row := firstKnownRow, standIns := [], harness := (true, "0cf2888add67b9f544cfb52625f6555d96667632e38d83150fcdc9fcf70c45eb"), looks := false }, kinds := [], alts := [], laidByText := true, laidKinds := [.data, .listed, .data, .pinned, .pinned], laidTests := true, laidLooks := .later }
def FirstKnownCardSaid : Prop := Claim7.holds Tryz.pinned (.plain (OpenSpec.ofChange firstKnownSpec)) firstKnownCard

/-- THE TIED CARD OF 'quirelaw11.FirstFits'. -/
def firstFitsCard : Claim7 := { stood := { row := firstFitsRow, standIns := [], harness := (true, "0cf2888add67b9f544cfb52625f6555d96667632e38d83150fcdc9fcf70c45eb"), looks := false }, kinds := [], alts := [], laidByText := true, laidKinds := [.data, .listed, .data, .pinned, .pinned], laidTests := true, laidLooks := .later }
def FirstFitsCardSaid : Prop := Claim7.holds Tryz.pinned (.plain (OpenSpec.ofChange firstFitsSpec)) firstFitsCard

/-- THE SECOND FORM's CARD OF 'quirelaw11.FirstTells'. -/
def firstTellsUptoCard : Claim7 := { stood := { row := firstTellsUptoRow, standIns := [], harness := (true, "0cf2888add67b9f544cfb52625f6555d96667632e38d83150fcdc9fcf70c45eb"), looks := false }, kinds := [], alts := [], laidByText := true, laidKinds := [.data, .listed, .data, .pinned, .pinned], laidTests := true, laidLooks := .later }
def FirstTellsUptoCardSaid : Prop := Claim7.holds Tryz.pinned (.plain (OpenSpec.upto firstTellsSpec)) firstTellsUptoCard

/-- THE SECOND FORM's CARD OF 'quirelaw11.FirstKnown'. -/
def firstKnownUptoCard : Claim7 := { stood := { row := firstKnownUptoRow, standIns := [], harness := (true, "0cf2888add67b9f544cfb52625f6555d96667632e38d83150fcdc9fcf70c45eb"), looks := false }, kinds := [], alts := [], laidByText := true, laidKinds := [.data, .listed, .data, .pinned, .pinned], laidTests := true, laidLooks := .later }
def FirstKnownUptoCardSaid : Prop := Claim7.holds Tryz.pinned (.plain (OpenSpec.upto firstKnownSpec)) firstKnownUptoCard

/-- THE SECOND FORM's CARD OF 'quirelaw11.FirstFits'. -/
def firstFitsUptoCard : Claim7 := { stood := { row := firstFitsUptoRow, standIns := [], harness := (true, "0cf2888add67b9f544cfb52625f6555d96667632e38d83150fcdc9fcf70c45eb"), looks := false }, kinds := [], alts := [], laidByText := true, laidKinds := [.data, .listed, .data, .pinned, .pinned], laidTests := true, laidLooks := .later }
def FirstFitsUptoCardSaid : Prop := Claim7.holds Tryz.pinned (.plain (OpenSpec.upto firstFitsSpec)) firstFitsUptoCard
end Rows
end Go.Proofs.YtnnlfeimebiboaaGreatDoor
