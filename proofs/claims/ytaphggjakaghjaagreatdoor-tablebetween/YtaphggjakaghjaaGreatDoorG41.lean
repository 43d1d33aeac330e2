/-
  What is proved here: that the listed tables lie in memory as the library's contracts ask.
-/
import Derived.Test.YtaphggjakaghjaaGreatDoorProg
import Derived.Test.YtaphggjakaghjaaGreatDoorChecked
import Derived.Test.YtaphggjakaghjaaGreatDoorCards
import Derived.Test.YtaphggjakaghjaaGreatDoorTie
import Derived.ProofKit
import Derived.OpenShut
import Derived.LaidMore
import Derived.Lay
import Derived.Lib.LaidU8
import Derived.SevenTiedAt
import Derived.Stop.Joined
namespace Go.Proofs.YtaphggjakaghjaaGreatDoor
open Go.ChangeShapes Go.WideShapes Go.ChangeAt Go.RowKit

theorem own : ownKnob Tryz.prog.godebug = none := by kernel_rfl
def laidL : List (String × DataW Unit) := [("unicode/utf8.acceptRanges",Rows.laid_unicode_utf8_acceptRanges),("unicode.White_Space",Rows.laid_unicode_White_Space),("strings.asciiSpace",Rows.laid_strings_asciiSpace),("unicode.CaseRanges",Rows.laid_unicode_CaseRanges),("unicode/utf8.first",Rows.laid_unicode_utf8_first)]
end Go.Proofs.YtaphggjakaghjaaGreatDoor
namespace Go.Proofs.YtaphggjakaghjaaGreatDoor.tableBetween
open Go.ChangeShapes Go.WideShapes Go.ChangeAt Go.RowKit
set_option maxRecDepth 100000
set_option maxHeartbeats 40000000

theorem facts : joinedFacts Tryz.pinned.checked.prog 4 Tryz.f4 Rows.tableBetweenSpec Rows.tableBetweenRow = true := by
 unfold joinedFacts
 simp only [Bool.and_eq_true]
 repeat' apply And.intro
 all_goals (as_aux_lemma => kernel_rfl)
end Go.Proofs.YtaphggjakaghjaaGreatDoor.tableBetween
