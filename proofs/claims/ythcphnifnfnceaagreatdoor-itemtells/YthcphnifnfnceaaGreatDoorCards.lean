/-
  DERIVED. GIVEN WITH THE SEED: THE CARDS: each row of YthcphnifnfnceaaGreatDoorRows.lean that lists a variable, with what it lists TIED to the program's text (the seventh form; the later family's looks); each row that meets fmt, with fmt's text TOLD by the authors' own Lean function (tested against real Go, not proved from fmt's source: count such statements apart). THE CARD IS WHAT COUNTS. Prove the row's statement (the work); the ties are given (YthcphnifnfnceaaGreatDoorTie.lean); close each card by the builder's one call (the guide's Derived/Test/ToyasCard.lean, 'card_holds'). Laid BY PROGRAM, IN A SANDBOX (cutbox-door.mjs). By AI agents, Wed Nov 11 2026. No macro, syntax, notation, axiom, sorry.
-/
import Derived.Test.YthcphnifnfnceaaGreatDoorRows
import GoSem.ClaimSeven
namespace Go.Proofs.YthcphnifnfnceaaGreatDoor
namespace Rows

/-- THE TIED CARD OF 'quirelaw10.ItemTells'. -/
def itemTellsCard : Claim7 := { stood := { row := itemTellsRow, standIns := [], harness := (true, "f6faa1a39d6cb5af59aac4f9705e0cdf7ff53bb31cb19529050f54db3943836b"), looks := false }, kinds := [], alts := [], laidByText := true, laidKinds := [.data, .listed, .data, .pinned, .pinned], laidTests := true, laidLooks := .later }
def ItemTellsCardSaid : Prop := Claim7.holds Tryz.pinned (.plain (OpenSpec.ofChange itemTellsSpec)) itemTellsCard

/-- THE TIED CARD OF 'quirelaw10.ItemLines'. -/
def itemLinesCard : Claim7 := { stood := { row := itemLinesRow, standIns := [], harness := (true, "f6faa1a39d6cb5af59aac4f9705e0cdf7ff53bb31cb19529050f54db3943836b"), looks := false }, kinds := [], alts := [], laidByText := true, laidKinds := [.data, .listed, .data, .pinned, .pinned], laidTests := true, laidLooks := .later }
def ItemLinesCardSaid : Prop := Claim7.holds Tryz.pinned (.plain (OpenSpec.ofChange itemLinesSpec)) itemLinesCard

/-- THE TIED CARD OF 'quirelaw10.ItemKnown'. -/
def itemKnownCard : Claim7 := { stood := { row := itemKnownRow, standIns := [], harness := (true, "f6faa1a39d6cb5af59aac4f9705e0cdf7ff53bb31cb19529050f54db3943836b"), looks := false }, kinds := [], alts := [], laidByText := true, laidKinds := [.data, .listed, .data, .pinned, .pinned], laidTests := true, laidLooks := .later }
def ItemKnownCardSaid : Prop := Claim7.holds Tryz.pinned (.plain (OpenSpec.ofChange itemKnownSpec)) itemKnownCard

/-- THE TIED CARD OF 'quirelaw10.ItemWhole'. -/
def itemWholeCard : Claim7 := { stood := { row := itemWholeRow, standIns := [], harness := (true, "f6faa1a39d6cb5af59aac4f9705e0cdf7ff53bb31cb19529050f54db3943836b"), looks := false }, kinds := [], alts := [], laidByText := true, laidKinds := [.data, .listed, .data, .pinned, .pinned], laidTests := true, laidLooks := .later }
def ItemWholeCardSaid : Prop := Claim7.holds Tryz.pinned (.plain (OpenSpec.ofChange itemWholeSpec)) itemWholeCard

/-- THE TIED CARD OF 'quirelaw10.ItemJoins'. -/
def itemJoinsCard : Claim7 := { stood := { row := itemJoinsRow, standIns := [], harness := (true, "f6faa1a39d6cb5af59aac4f9705e0cdf7ff53bb31cb19529050f54db3943836b"), looks := false }, kinds := [], alts := [], laidByText := true, laidKinds := [.data, .listed, .data, .pinned, .pinned], laidTests := true, laidLooks := .later }
def ItemJoinsCardSaid : Prop := Claim7.holds Tryz.pinned (.plain (OpenSpec.ofChange itemJoinsSpec)) itemJoinsCard

/-- THE SECOND FORM's CARD OF 'quirelaw10.ItemTells'. -/
def itemTellsUptoCard : Claim7 := { stood := { row := itemTellsUptoRow, standIns := [], harness := (true, "f6faa1a39d6cb5af59aac4f9705e0cdf7ff53bb31cb19529050f54db3943836b"), looks := false }, kinds := [], alts := [], laidByText := true, laidKinds := [.data, .listed, .data, .pinned, .pinned], laidTests := true, laidLooks := .later }
def ItemTellsUptoCardSaid : Prop := Claim7.holds Tryz.pinned (.plain (OpenSpec.upto itemTellsSpec)) itemTellsUptoCard

/-- THE SECOND FORM's CARD OF 'quirelaw10.ItemLines'. -/
def itemLinesUptoCard : Claim7 := { stood := { row := itemLinesUptoRow, standIns := [], harness := (true, "f6faa1a39d6cb5af59aac4f9705e0cdf7ff53bb31cb19529050f54db3943836b"), looks := false }, kinds := [], alts := [], laidByText := true, laidKinds := [.data, .listed, .data, .pinned, .pinned], laidTests := true, laidLooks := .later }
def ItemLinesUptoCardSaid : Prop := Claim7.holds Tryz.pinned (.plain (OpenSpec.upto itemLinesSpec)) itemLinesUptoCard

/-- THE SECOND FORM's CARD OF 'quirelaw10.ItemKnown'. -/
def itemKnownUptoCard : Claim7 := { stood := { row := itemKnownUptoRow, standIns := [], harness := (true, "f6faa1a39d6cb5af59aac4f9705e0cdf7ff53bb31cb19529050f54db3943836b"), looks := false }, kinds := [], alts := [], laidByText := true, laidKinds := [.data, .listed, .data, .pinned, .pinned], laidTests := true, laidLooks := .later }
def ItemKnownUptoCardSaid : Prop := Claim7.holds Tryz.pinned (.plain (OpenSpec.upto itemKnownSpec)) itemKnownUptoCard

/-- THE SECOND FORM's CARD OF 'quirelaw10.ItemWhole'. -/
def itemWholeUptoCard : Claim7 := { stood := { row := itemWholeUptoRow, standIns := [], harness := (true, "f6faa1a39d6cb5af59aac4f9705e0cdf7ff53bb31cb19529050f54db3943836b"), looks := false }, kinds := [], alts := [], laidByText := true, laidKinds := [.data, .listed, .data, .pinned, .pinned], laidTests := true, laidLooks := .later }
def ItemWholeUptoCardSaid : Prop := Claim7.holds Tryz.pinned (.plain (OpenSpec.upto itemWholeSpec)) itemWholeUptoCard

/-- THE SECOND FORM's CARD OF 'quirelaw10.ItemJoins'. -/
def itemJoinsUptoCard : Claim7 := { stood := { row := itemJoinsUptoRow, standIns := [], harness := (true, "f6faa1a39d6cb5af59aac4f9705e0cdf7ff53bb31cb19529050f54db3943836b"), looks := false }, kinds := [], alts := [], laidByText := true, laidKinds := [.data, .listed, .data, .pinned, .pinned], laidTests := true, laidLooks := .later }
def ItemJoinsUptoCardSaid : Prop := Claim7.holds Tryz.pinned (.plain (OpenSpec.upto itemJoinsSpec)) itemJoinsUptoCard
end Rows
end Go.Proofs.YthcphnifnfnceaaGreatDoor
