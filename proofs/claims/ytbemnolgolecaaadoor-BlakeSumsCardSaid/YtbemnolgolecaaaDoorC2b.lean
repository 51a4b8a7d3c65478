/-
  Sum, of whatever bytes.
-/
import Derived.Test.YtbemnolgolecaaaDoorC2
import Derived.Test.YtbemnolgolecaaaDoorC2a
import Derived.Test.YtbemnolgolecaaaDoorC2z
namespace Go.Proofs.YtbemnolgolecaaaDoor
open Go.RowKit

theorem sum_any (A : Option Addr) (n c : Nat) (zs : List Int) (w : World) (hz : By w w.heap.size A n zs) (hn : n ≤ 100000) (hnc : n ≤ c) (hc : c ≤ 9223372036854775807) (hG : Gl w) :
    Calls Tryd.prog 12 #[.slice A n c] w fun e w' => e = .returned (.agg (BL (sumF zs)).toArray) ∧ Below w.heap.size w w' := by
  by_cases h : n ≤ 64
  · by_cases hz0 : 0 < c
    · exact sum_one A n c zs w hz hn hnc hc h hz0 hG
    · obtain rfl : c = 0 := by omega
      obtain rfl : n = 0 := by omega
      obtain rfl : zs = [] := List.eq_nil_of_length_eq_zero hz.1
      exact sum_zero A w hG
  · exact sum_many A n c zs w hz hn hnc hc (by omega) hG

end Go.Proofs.YtbemnolgolecaaaDoor
