/-
  Words for the laws that run several calls of the package.
-/
import Derived.Test.YtmgaihdepglahaaQ1
import Derived.Test.YtmgaihdepglahaaN9
import Derived.Test.YtmgaihdepglahaaK2
import Derived.Test.YtmgaihdepglahaaK5
namespace Go.Proofs.Ytmgaihdepglahaa
open Go.RowKit

theorem Blk.three {w : World} {p : Nat} {t : TypeId} {a b c : Value} (h : Blk w p t #[a, b, c]) : w.cell? ⟨p, 0, none⟩ = some a ∧ w.cell? ⟨p, 1, none⟩ = some b ∧ w.cell? ⟨p, 2, none⟩ = some c := ⟨h.cell 0, h.cell 1, h.cell 2⟩
theorem Blk.two {w : World} {p : Nat} {t : TypeId} {a b : Value} (h : Blk w p t #[a, b]) : w.cell? ⟨p, 0, none⟩ = some a ∧ w.cell? ⟨p, 1, none⟩ = some b := ⟨h.cell 0, h.cell 1⟩
theorem Eqa_refl (a b : Int) : Eqa a b a b = true := by simp [Eqa]
theorem wrap64_eq (n : Int) : wrap64 n = (n + 9223372036854775808) % 18446744073709551616 - 9223372036854775808 := by
  unfold wrap64
  omega
/-- A log that is good to be asked. -/
structure Lok (l : Lg) : Prop where
  few : l.es.length ≤ 100
  bi0 : 0 ≤ l.bi
  bi1 : l.bi < 18446744073709551616
  bt0 : 0 ≤ l.bt
  bt1 : l.bt < 18446744073709551616
theorem Lok.lr {l : Lg} (h : Lok l) {w : World} {base n c : Nat} {A : Option Addr} (ho : Eo w base A n c l.es) : Lr w w.heap.size A n c l := ho.lr (by have := h.few; omega) h.bi0 h.bi1 h.bt0 h.bt1
theorem Lok.lg0 : Lok lg0 := ⟨by decide, by decide, by decide, by decide, by decide⟩


end Go.Proofs.Ytmgaihdepglahaa
