/-
  DERIVED. GIVEN WITH THE SEED: THE CARDS: each row of YtbdpghjegachaaaGreatDoorRows.lean that lists a variable, with what it lists TIED to the program's text (the seventh form; the later family's looks); each row that meets fmt, with fmt's text TOLD by the authors' own Lean function (tested against real Go, not proved from fmt's source: count such statements apart). THE CARD IS WHAT COUNTS. Prove the row's statement (the work); the ties are given (YtbdpghjegachaaaGreatDoorTie.lean); close each card by the builder's one call (the guide's Derived/Test/ToyasCard.lean, 'card_holds'). Laid BY PROGRAM, IN A SANDBOX (cutbox-door.mjs). By AI agents, Wed Nov 11 2026. No macro, syntax, notation, axiom, sorry.
-/
import Derived.Test.YtbdpghjegachaaaGreatDoorRows
import GoSem.ClaimSeven
namespace Go.Proofs.YtbdpghjegachaaaGreatDoor
namespace Rows

/-- THE TIED CARD OF 'quirelaw13.SetPlaces'. -/
def setPlacesCard : Claim7 := { stood := { row := setPlacesRow, standIns := [], harness := (true, "d3a9cd0f7609d3da87c7a1042006e2c8feab5d604e951bcaeb9a3d741de96e29"), looks := false }, kinds := [], alts := [], laidByText := true, laidKinds := [.data, .listed, .data, .pinned, .pinned], laidTests := true, laidLooks := .later }
def SetPlacesCardSaid : Prop := Claim7.holds Tryz.pinned (.plain (OpenSpec.ofChange setPlacesSpec)) setPlacesCard

/-- THE TIED CARD OF 'quirelaw13.SetKnown'. -/
def setKnownCard : Claim7 := { stood := { row := setKnownRow, standIns := [], harness := (true, "d3a9cd0f7609d3da87c7a1042006e2c8feab5d604e951bcaeb9a3d741de96e29"), looks := false }, kinds := [], alts := [], laidByText := true, laidKinds := [.data, .listed, .data, .pinned, .pinned], laidTests := true, laidLooks := .later }
def SetKnownCardSaid : Prop := Claim7.holds Tryz.pinned (.plain (OpenSpec.ofChange setKnownSpec)) setKnownCard

/-- THE TIED CARD OF 'quirelaw13.SetOrders'. -/
def setOrdersCard : Claim7 := { stood := { row := setOrdersRow, standIns := [], harness := (true, "d3a9cd0f7609d3da87c7a1042006e2c8feab5d604e951bcaeb9a3d741de96e29"), looks := false }, kinds := [], alts := [], laidByText := true, laidKinds := [.data, .listed, .data, .pinned, .pinned], laidTests := true, laidLooks := .later }
def SetOrdersCardSaid : Prop := Claim7.holds Tryz.pinned (.plain (OpenSpec.ofChange setOrdersSpec)) setOrdersCard

/-- THE TIED CARD OF 'quirelaw13.SetEnds'. -/
def setEndsCard : Claim7 := { stood := { row := setEndsRow, standIns := [], harness := (true, "d3a9cd0f7609d3da87c7a1042006e2c8feab5d604e951bcaeb9a3d741de96e29"), looks := false }, kinds := [], alts := [], laidByText := true, laidKinds := [.data, .listed, .data, .pinned, .pinned], laidTests := true, laidLooks := .later }
def SetEndsCardSaid : Prop := Claim7.holds Tryz.pinned (.plain (OpenSpec.ofChange setEndsSpec)) setEndsCard

/-- THE SECOND FORM's CARD OF 'quirelaw13.SetPlaces'. -/
def setPlacesUptoCard : Claim7 := { stood := { row := setPlacesUptoRow, standIns := [], harness := (true, "d3a9cd0f7609d3da87c7a1042006e2c8feab5d604e951bcaeb9a3d741de96e29"), looks := false }, kinds := [], alts := [], laidByText := true, laidKinds := [.data, .listed, .data, .pinned, .pinned], laidTests := true, laidLooks := .later }
def SetPlacesUptoCardSaid : Prop := Claim7.holds Tryz.pinned (.plain (OpenSpec.upto setPlacesSpec)) setPlacesUptoCard

/-- THE SECOND FORM's CARD OF 'quirelaw13.SetKnown'. -/
def setKnownUptoCard : Claim7 := { stood := { row := setKnownUptoRow, standIns := [], harness := (true, "d3a9cd0f7609d3da87c7a1042006e2c8feab5d604e951bcaeb9a3d741de96e29"), looks := false }, kinds := [], alts := [], laidByText := true, laidKinds := [.data, .listed, .data, .pinned, .pinned], laidTests := true, laidLooks := .later }
def SetKnownUptoCardSaid : Prop := Claim7.holds Tryz.pinned (.plain (OpenSpec.upto setKnownSpec)) setKnownUptoCard

/-- THE SECOND FORM's CARD OF 'quirelaw13.SetOrders'. -/
def setOrdersUptoCard : Claim7 := { stood := { row := setOrdersUptoRow, standIns := [], harness := (true, "d3a9cd0f7609d3da87c7a1042006e2c8feab5d604e951bcaeb9a3d741de96e29"), looks := false }, kinds := [], alts := [], laidByText := true, laidKinds := [.data, .listed, .data, .pinned, .pinned], laidTests := true, laidLooks := .later }
def SetOrdersUptoCardSaid : Prop := Claim7.holds Tryz.pinned (.plain (OpenSpec.upto setOrdersSpec)) setOrdersUptoCard

/-- THE SECOND FORM's CARD OF 'quirelaw13.SetEnds'. -/
def setEndsUptoCard : Claim7 := { stood := { row := setEndsUptoRow, standIns := [], harness := (true, "d3a9cd0f7609d3da87c7a1042006e2c8feab5d604e951bcaeb9a3d741de96e29"), looks := false }, kinds := [], alts := [], laidByText := true, laidKinds := [.data, .listed, .data, .pinned, .pinned], laidTests := true, laidLooks := .later }
def SetEndsUptoCardSaid : Prop := Claim7.holds Tryz.pinned (.plain (OpenSpec.upto setEndsSpec)) setEndsUptoCard
end Rows
end Go.Proofs.YtbdpghjegachaaaGreatDoor
