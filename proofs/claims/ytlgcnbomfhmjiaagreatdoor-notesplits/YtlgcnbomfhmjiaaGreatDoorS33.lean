/-
  What is proved here: that the listed tables lie in memory as the library's contracts ask.
-/
import Derived.Test.YtlgcnbomfhmjiaaGreatDoorProg
import Derived.Test.YtlgcnbomfhmjiaaGreatDoorChecked
import Derived.Test.YtlgcnbomfhmjiaaGreatDoorCards
import Derived.Test.YtlgcnbomfhmjiaaGreatDoorTie
import Derived.ProofKit
import Derived.OpenShut
import Derived.LaidMore
import Derived.Lay
import Derived.Lib.LaidU8
import Derived.SevenTiedAt
import Derived.Stop.Joined
namespace Go.Proofs.YtlgcnbomfhmjiaaGreatDoor
open Go.ChangeShapes Go.WideShapes Go.ChangeAt Go.RowKit

theorem own : ownKnob Tryz.prog.godebug = none := by kernel_rfl
def laidL : List (String × DataW Unit) := [("unicode/utf8.acceptRanges",Rows.laid_unicode_utf8_acceptRanges),("unicode.White_Space",Rows.laid_unicode_White_Space),("strings.asciiSpace",Rows.laid_strings_asciiSpace),("unicode.CaseRanges",Rows.laid_unicode_CaseRanges),("unicode/utf8.first",Rows.laid_unicode_utf8_first)]
end Go.Proofs.YtlgcnbomfhmjiaaGreatDoor
