/-
  What is proved here: the listed variables of a statement that tells numbers in digits.
-/
import Derived.Test.YtlgcnbomfhmjiaaGreatDoorK32
namespace Go.Proofs.YtlgcnbomfhmjiaaGreatDoor
open Go.ChangeShapes Go.WideShapes Go.ChangeAt Go.RowKit

def laidK : List (String × DataW Unit) := ("math/bits.deBruijn32tab",Rows.laid_math_bits_deBruijn32tab) :: ("math/bits.deBruijn64tab",Rows.laid_math_bits_deBruijn64tab) :: ("internal/strconv.uint64pow10",Rows.laid_internal_strconv_uint64pow10) :: laidL
end Go.Proofs.YtlgcnbomfhmjiaaGreatDoor
