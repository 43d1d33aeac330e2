/-
  What is proved here: GridFits answers true, a case.
-/
import Derived.Test.YtkhnfmdhdfpdhaaGrT
import Derived.Test.YtkhnfmdhdfpdhaaGrU
import Derived.Test.YtkhnfmdhdfpdhaaGrV
import Derived.Deep.QuietTactic
import Derived.BigQuiet
namespace Go.Proofs.Ytkhnfmdhdfpdhaa
open Go.RowKit Go.Shelf

theorem fits_any (c : Int) (v : Value) (l : List ByteArray) (q : Int) (hl : l.length ≤ 9223372036854775807) (hsz : ∀ t ∈ l, t.size ≤ 9223372036854775807) (w : World) (hS : StrsAt w v l) :
    Calls Try.prog 5 #[.agg #[.int .i64 c, v], .int .i64 q] w fun e w' => e = .returned (.bool true) ∧ Below w.heap.size w w' := by
  by_cases h100 : 100 < l.length
  · exact fits_many c v l q hl hsz w hS h100
  by_cases hz : chkG c l = 0
  · by_cases hq : 0 ≤ q ∧ q ≤ 4095
    · by_cases htt : q < sumS c.toNat l
      · exact fits_tight c v l q hl hsz w hS h100 hz hq htt
      · by_cases hge : q ≤ smI (leM c.toNat l c.toNat) c.toNat
        · exact fits_full c v l q hl hsz w hS h100 hz hq htt hge
        · exact fits_part c v l q hl hsz w hS h100 hz hq htt hge
    · exact fits_err c v l q hl hsz w hS h100 (.inr hq)
  · exact fits_err c v l q hl hsz w hS h100 (.inl hz)
end Go.Proofs.Ytkhnfmdhdfpdhaa
