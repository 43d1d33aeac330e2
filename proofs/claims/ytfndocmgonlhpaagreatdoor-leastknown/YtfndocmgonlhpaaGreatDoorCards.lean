/-
  DERIVED. GIVEN WITH THE SEED: THE CARDS: each row of YtfndocmgonlhpaaGreatDoorRows.lean that lists a variable, with what it lists TIED to the program's text (the seventh form; the later family's looks); each row that meets fmt, with fmt's text TOLD by the authors' own Lean function (tested against real Go, not proved from fmt's source: count such statements apart). THE CARD IS WHAT COUNTS. Prove the row's statement (the work); the ties are given (YtfndocmgonlhpaaGreatDoorTie.lean); close each card by the builder's one call (the guide's Derived/Test/ToyasCard.lean, 'card_holds'). Laid BY PROGRAM, IN A SANDBOX (cutbox-door.mjs). By AI agents, Wed Nov 11 2026. No macro, syntax, notation, axiom, sorry.
-/
import Derived.Test.YtfndocmgonlhpaaGreatDoorRows
import GoSem.ClaimSeven
namespace Go.Proofs.YtfndocmgonlhpaaGreatDoor
namespace Rows

/-- THE TIED CARD OF 'quirelaw12.LeastKnown'. -/
def leastKnownCard : Claim7 := { stood := { row := leastKnownRow, standIns := [], harness := (true, "da545670ebcee333abecbe123242b3fbbc08050c4f56b7987252619dcb280dd5"), looks := false }, kinds := [], alts := [], laidByText := true, laidKinds := [.data, .listed, .data, .pinned, .pinned], laidTests := true, laidLooks := .later }
def LeastKnownCardSaid : Prop := Claim7.holds Tryz.pinned (.plain (OpenSpec.ofChange leastKnownSpec)) leastKnownCard

/-- THE SECOND FORM's CARD OF 'quirelaw12.LeastKnown'. -/
def leastKnownUptoCard : Claim7 := { stood := { row := leastKnownUptoRow, standIns := [], harness := (true, "da545670ebcee333abecbe123242b3fbbc08050c4f56b7987252619dcb280dd5"), looks := false }, kinds := [], alts := [], laidByText := true, laidKinds := [.data, .listed, .data, .pinned, .pinned], laidTests := true, laidLooks := .later }
def LeastKnownUptoCardSaid : Prop := Claim7.holds Tryz.pinned (.plain (OpenSpec.upto leastKnownSpec)) leastKnownUptoCard
end Rows
end Go.Proofs.YtfndocmgonlhpaaGreatDoor
