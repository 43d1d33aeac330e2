/-
  What is proved here: that the listed table of blanks lies in memory as the library's contracts ask; how items that are handed in look.
-/
import Derived.Test.YthcphnifnfnceaaGreatDoorG25
import Derived.Test.YthcphnifnfnceaaGreatDoorG21
import Derived.Test.YthcphnifnfnceaaGreatDoorG3
import Derived.Test.YthcphnifnfnceaaGreatDoorCards
import Derived.Test.YthcphnifnfnceaaGreatDoorTie
import Derived.ProofKit
import Derived.OpenShut
import Derived.LaidMore
import Derived.Lay
import Derived.Lib.LaidU8
import Derived.SevenTiedAt
import Derived.Stop.Joined
namespace Go.Proofs.YthcphnifnfnceaaGreatDoor
open Go.ChangeShapes Go.WideShapes Go.ChangeAt Go.RowKit

def laidL : List (String × DataW Unit) := [("unicode/utf8.acceptRanges",Rows.laid_unicode_utf8_acceptRanges),("unicode.White_Space",Rows.laid_unicode_White_Space),("strings.asciiSpace",Rows.laid_strings_asciiSpace),("unicode.CaseRanges",Rows.laid_unicode_CaseRanges),("unicode/utf8.first",Rows.laid_unicode_utf8_first)]

theorem gS : ∃ g,Tryz.prog.globalNamed "strings.asciiSpace" = some g ∧ (Tryz.prog.globals[g]?).map (·.type) = some 177 := ⟨0,by kernel_rfl,by kernel_rfl⟩
theorem space_is : (Rows.laid_strings_asciiSpace : DataW Unit) = Lib.tabData .u8 Lib.asciiSpaceTab := by kernel_rfl

theorem tab_of {W : World} (h : laidMetH Tryz.prog laidL W) : Hy.Tab W := by
 rw [MakeChecks.laidMetH_plain _ _ _ (by kernel_rfl)] at h
 obtain ⟨g,t,cs,fuel,p,hg,ht,hv,hd⟩ := Lib.laidMet.reads h (.tail _ (.tail _ (.head _)))
 obtain ⟨g0,hg0,ht0⟩ := gS
 obtain rfl := Option.some.inj (hg0.symm.trans hg)
 obtain rfl := Option.some.inj (ht0.symm.trans ht)
 rw [space_is] at hd
 have hc := Lib.cells_of_tab Tryz.underlying177 Tryz.underlying5 (by kernel_rfl) (by kernel_rfl) hd
 refine ⟨?_⟩
 unfold Lib.TabIs
 rw [hv,← hc]
end Go.Proofs.YthcphnifnfnceaaGreatDoor
