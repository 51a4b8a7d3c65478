/-
  What the program's Count and the document's Count answer.
-/
import Derived.Test.YtndkoefchlclkaaProg
import Derived.WalkKit
import Derived.WalkSpells
import Derived.WalkLawsBesides
import Derived.Lib.Hide
import Derived.Test.YtndkoefchlclkaaWords
namespace Go.Proofs.Ytndkoefchlclkaa
open Go.RowKit


end Go.Proofs.Ytndkoefchlclkaa
