/-
  What nothing reads: a step over a nil Reader.
-/
import Derived.Test.YtndkoefchlclkaaWakes
namespace Go.Proofs.Ytndkoefchlclkaa
open Go.RowKit


end Go.Proofs.Ytndkoefchlclkaa
