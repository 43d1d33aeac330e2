/-
  DERIVED. GIVEN WITH THE SEED: THE CARDS: each row of YtfiekhephkpdjaaGreatDoorRows.lean that lists a variable, with what it lists TIED to the program's text (the seventh form; the later family's looks); each row that meets fmt, with fmt's text TOLD by the authors' own Lean function (tested against real Go, not proved from fmt's source: count such statements apart). THE CARD IS WHAT COUNTS. Prove the row's statement (the work); the ties are given (YtfiekhephkpdjaaGreatDoorTie.lean); close each card by the builder's one call (the guide's Derived/Test/ToyasCard.lean, 'card_holds'). Laid BY PROGRAM, IN A SANDBOX (cutbox-door.mjs). By AI agents, Wed Nov 11 2026. No macro, syntax, notation, axiom, sorry.
-/
import Derived.Test.YtfiekhephkpdjaaGreatDoorRows
import GoSem.ClaimSeven
namespace Go.Proofs.YtfiekhephkpdjaaGreatDoor
namespace Rows

/-- THE TIED CARD OF 'quirelaw14.ParaKnown'. -/
def paraKnownCard : Claim7 := { stood := { row := paraKnownRow, standIns := [], harness := (true, "489885c246b261e5fd83d9eef90f4f753120e07aa2887a91c719516f9b135f99"), looks := false }, kinds := [], alts := [], laidByText := true, laidKinds := [.data, .listed, .data, .pinned, .pinned], laidTests := true, laidLooks := .later }
def ParaKnownCardSaid : Prop := Claim7.holds Tryz.pinned (.plain (OpenSpec.ofChange paraKnownSpec)) paraKnownCard

/-- THE SECOND FORM's CARD OF 'quirelaw14.ParaKnown'. -/
def paraKnownUptoCard : Claim7 := { stood := { row := paraKnownUptoRow, standIns := [], harness := (true, "489885c246b261e5fd83d9eef90f4f753120e07aa2887a91c719516f9b135f99"), looks := false }, kinds := [], alts := [], laidByText := true, laidKinds := [.data, .listed, .data, .pinned, .pinned], laidTests := true, laidLooks := .later }
def ParaKnownUptoCardSaid : Prop := Claim7.holds Tryz.pinned (.plain (OpenSpec.upto paraKnownSpec)) paraKnownUptoCard
end Rows
end Go.Proofs.YtfiekhephkpdjaaGreatDoor
