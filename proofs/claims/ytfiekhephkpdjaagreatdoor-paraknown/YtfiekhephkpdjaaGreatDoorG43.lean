/-
  What is proved here: that the listed table of blanks lies in memory as the library's contracts ask; how items that are handed in look.
-/
import Derived.Test.YtfiekhephkpdjaaGreatDoorG25
import Derived.Test.YtfiekhephkpdjaaGreatDoorG38
import Derived.Maps.OwnSet
import Derived.Test.YtfiekhephkpdjaaGreatDoorProg
import Derived.Test.YtfiekhephkpdjaaGreatDoorG1
import Derived.RangeFuncNested
import Derived.RangeFuncBound
import Derived.RangeFuncCalls
import Derived.RangeFuncLeaves
import Derived.Shelf.Abstract
import Derived.Shelf.RegionOpen
import Derived.OwnWalkIn
import Derived.TacticsInMore
import Derived.LoopNIn
import Derived.LoopIn
import Derived.Lib.Builder
import Derived.Laws.IdiomStrings
import Derived.Test.YtfiekhephkpdjaaGreatDoorG4
import Derived.Test.YtfiekhephkpdjaaGreatDoorCards
import Derived.Test.YtfiekhephkpdjaaGreatDoorTie
import Derived.ProofKit
import Derived.OpenShut
import Derived.LaidMore
import Derived.Lay
import Derived.Lib.LaidU8
import Derived.SevenTiedAt
import Derived.Stop.Joined
namespace Go.Proofs.YtfiekhephkpdjaaGreatDoor
open Go.ChangeShapes Go.WideShapes Go.ChangeAt Go.RowKit

def laidL : List (String × DataW Unit) := [("unicode/utf8.acceptRanges",Rows.laid_unicode_utf8_acceptRanges),("unicode.White_Space",Rows.laid_unicode_White_Space),("strings.asciiSpace",Rows.laid_strings_asciiSpace),("unicode.CaseRanges",Rows.laid_unicode_CaseRanges),("unicode/utf8.first",Rows.laid_unicode_utf8_first)]

end Go.Proofs.YtfiekhephkpdjaaGreatDoor
