/-
  Several texts in one: BkC2b, BkC3.
-/
import Derived.Test.YtemfnckaehjhcaaDoorBkC2
import Derived.Test.YtemfnckaehjhcaaDoorBkC2a
import Derived.Test.YtemfnckaehjhcaaDoorBkC2z
import Derived.Test.YtemfnckaehjhcaaDoorBkA
import Derived.Test.YtemfnckaehjhcaaDoorBkCb
/-
  Sum, of whatever bytes.
-/
namespace Go.Proofs.YtemfnckaehjhcaaDoor.Bk
open Go.RowKit

theorem sum_any (A : Option Addr) (n c : Nat) (zs : List Int) (w : World) (hz : By w w.heap.size A n zs) (hn : n ≤ 100000) (hnc : n ≤ c) (hc : c ≤ 9223372036854775807) (hG : Gl w) :
    Calls Tryd.prog 49 #[.slice A n c] w fun e w' => e = .returned (.agg (BL (sumF zs)).toArray) ∧ Below w.heap.size w w' := by
  by_cases h : n ≤ 64
  · by_cases hz0 : 0 < c
    · exact sum_one A n c zs w hz hn hnc hc h hz0 hG
    · obtain rfl : c = 0 := by omega
      obtain rfl : n = 0 := by omega
      obtain rfl : zs = [] := List.eq_nil_of_length_eq_zero hz.1
      exact sum_zero A w hG
  · exact sum_many A n c zs w hz hn hnc hc (by omega) hG

end Go.Proofs.YtemfnckaehjhcaaDoor.Bk

/-
  The example's digest, reckoned.
-/
namespace Go.Proofs.YtemfnckaehjhcaaDoor.Bk
open Go.RowKit

def abcText : ByteArray := { data := #[53, 48, 56, 99, 53, 101, 56, 99, 51, 50, 55, 99, 49, 52, 101, 50, 101, 49, 97, 55, 50, 98, 97, 51, 52, 101, 101, 98, 52, 53, 50, 102, 51, 55, 52, 53, 56, 98, 50, 48, 57, 101, 100, 54, 51, 97, 50, 57, 52, 100, 57, 57, 57, 98, 52, 99, 56, 54, 54, 55, 53, 57, 56, 50] }
theorem abc_ok : okd abcText 32 := by decide +kernel
theorem abc_sum : sumF [97, 98, 99] = ofd abcText 32 := by decide +kernel
theorem abc_less : cmpL Z32 (ofd abcText 32) < 0 := by decide +kernel

end Go.Proofs.YtemfnckaehjhcaaDoor.Bk
