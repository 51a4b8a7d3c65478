/-
  The example's digest, reckoned.
-/
import Derived.Test.YtbemnolgolecaaaDoorB5
import Derived.Test.YtbemnolgolecaaaDoorC0
namespace Go.Proofs.YtbemnolgolecaaaDoor
open Go.RowKit

def abcText : ByteArray := { data := #[53, 48, 56, 99, 53, 101, 56, 99, 51, 50, 55, 99, 49, 52, 101, 50, 101, 49, 97, 55, 50, 98, 97, 51, 52, 101, 101, 98, 52, 53, 50, 102, 51, 55, 52, 53, 56, 98, 50, 48, 57, 101, 100, 54, 51, 97, 50, 57, 52, 100, 57, 57, 57, 98, 52, 99, 56, 54, 54, 55, 53, 57, 56, 50] }
theorem abc_ok : okd abcText 32 := by decide +kernel
theorem abc_sum : sumF [97, 98, 99] = ofd abcText 32 := by decide +kernel
theorem abc_less : cmpL Z32 (ofd abcText 32) < 0 := by decide +kernel

end Go.Proofs.YtbemnolgolecaaaDoor
