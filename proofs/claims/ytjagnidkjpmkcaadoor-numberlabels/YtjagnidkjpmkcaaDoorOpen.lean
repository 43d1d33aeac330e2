/-
  What is proved here: that the listed table of tens lies in memory as the library's contracts ask, and a world in which the listed tables lie.
-/
import Derived.Test.YtjagnidkjpmkcaaDoorRefB
import Derived.Test.YtjagnidkjpmkcaaDoorCards
import Derived.Test.YtjagnidkjpmkcaaDoorTie
import Derived.ProofKit
import Derived.OpenShut
import Derived.LaidMore
import Derived.Lay
import Derived.Lib.LaidU8
import Derived.SevenTiedAt
import Derived.Stop.Joined
namespace Go.Proofs.YtjagnidkjpmkcaaDoor
open Go.ChangeShapes Go.WideShapes Go.ChangeAt Go.RowKit

theorem own : ownKnob Tryd.prog.godebug = none := by kernel_rfl
theorem laidOut : laidOutB Tryd.prog = true := by kernel_rfl

/-- The listed variables. -/
def laidL : List (String × DataW Unit) := [("math/bits.deBruijn32tab", Rows.laid_math_bits_deBruijn32tab), ("math/bits.deBruijn64tab", Rows.laid_math_bits_deBruijn64tab), ("internal/strconv.uint64pow10", Rows.laid_internal_strconv_uint64pow10)]

theorem g10_type : (Tryd.prog.globals[0]?).map (·.type) = some 87 := by kernel_rfl
theorem pow_is : (Rows.laid_internal_strconv_uint64pow10 : DataW Unit) = Lib.tabData .u64 Lib.pow10Tab := by kernel_rfl

theorem tab_of {W : World} (h : laidMetH Tryd.prog laidL W) : Tab W := by
  rw [MakeChecks.laidMetH_plain _ _ _ (by kernel_rfl)] at h
  obtain ⟨g, t, cs, fuel, p, hg, ht, hv, hd⟩ := Lib.laidMet.reads h (.tail _ (.tail _ (.head _)))
  obtain rfl := Option.some.inj (g10.symm.trans hg)
  obtain rfl := Option.some.inj (g10_type.symm.trans ht)
  rw [pow_is] at hd
  have hc := Lib.cells_of_tab Tryd.underlying87 Tryd.underlying78 (by kernel_rfl) (by kernel_rfl) hd
  refine ⟨?_, ?_⟩
  · unfold Lib.TabIs
    rw [hv, ← hc]
  · unfold World.var? at hv
    rw [hg] at hv
    simp only [Option.bind_some] at hv
    by_cases h0 : 0 < W.heap.size
    · exact h0
    · rw [Array.getElem?_eq_none (by omega)] at hv
      cases hv

end Go.Proofs.YtjagnidkjpmkcaaDoor
