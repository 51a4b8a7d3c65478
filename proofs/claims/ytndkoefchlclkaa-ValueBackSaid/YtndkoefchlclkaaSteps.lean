/-
  What a step of the program's Reader does, and what the document says of it.
-/
import Derived.Test.YtndkoefchlclkaaNoneLaw
import Derived.Test.YtndkoefchlclkaaGoesLaw
namespace Go.Proofs.Ytndkoefchlclkaa
open Go.RowKit

/-- The document's step of kind d (0 to 7): the number, the bytes, the place, the error. -/
def sX (zs : List Int) (k : Nat) (er : Int) (d : Int) : Int := if d < 4 then num (nBytes zs k er (2 ^ d.toNat)) else 0
def sB (zs : List Int) (k : Nat) (er : Int) (d m : Int) : List Int := if d < 4 then [] else if d < 6 then nBytes zs k er m else []
def sAt (L k : Nat) (er : Int) (d m : Int) : Nat := if d < 4 then nAt L k er (2 ^ d.toNat) else if d < 6 then nAt L k er m else gAt L k er m
def sErr (L k : Nat) (er : Int) (d m : Int) : Int := if d < 4 then nErr L k er (2 ^ d.toNat) else if d < 6 then nErr L k er m else gErr L k er m

theorem sAt_le (L k : Nat) (er d m : Int) (h : k ≤ L) : sAt L k er d m ≤ L := by
  unfold sAt
  split
  · exact nAt_le _ _ _ _ h
  · split
    · exact nAt_le _ _ _ _ h
    · exact gAt_le _ _ _ _ h

theorem Moved.boxed {w w' : World} {p n c : Nat} {k er : Int} {A : Option Addr} {o : Obj} (h : Moved (w.alloc o) p k er A n c w') : Moved w p k er A n c w' :=
  ⟨h.1, ⟨h.2.os, h.2.tape, h.2.output, Nat.le_trans (by simp) h.2.size, fun i hi hne => (h.2.block i (by simp; omega) hne).trans (Below.heap_alloc w o i hi)⟩⟩

/-- What 'reads' leaves. -/
def Readed (w : World) (p k : Nat) (er d m : Int) (A : Option Addr) (n c : Nat) (zs : List Int) (e : Ending) (w' : World) : Prop :=
  ∃ A' c', e = .returned (.tuple #[.int .u64 (sX zs k er d), .slice A' (sB zs k er d m).length c']) ∧ Own w' w.heap.size A' (sB zs k er d m).length c' (sB zs k er d m) ∧ Moved w p (sAt n k er d m) (sErr n k er d m) A n c w'

theorem kind_cases (kind : Int) : ∃ d : Int, (IntKind.u64.wrap kind).tmod 8 = d ∧ (d = 0 ∨ d = 1 ∨ d = 2 ∨ d = 3 ∨ d = 4 ∨ d = 5 ∨ d = 6 ∨ d = 7) := by
  have h0 : 0 ≤ IntKind.u64.wrap kind := by rw [IntKind.wrap_u64]; omega
  refine ⟨_, rfl, ?_⟩
  rw [Int.tmod_eq_emod_of_nonneg h0]
  omega

theorem wrap_num (zs : List Int) : IntKind.u64.wrap (num zs) = num zs := by
  rw [IntKind.wrap_u64]
  exact Int.emod_eq_of_lt (num_range zs).1 (num_range zs).2
theorem ret_two {k : IntKind} {a b : Int} {u v : Value} (h : a = b) (h' : u = v) : Ending.returned (.tuple #[.int k a, u]) = .returned (.tuple #[.int k b, v]) := by rw [h, h']


end Go.Proofs.Ytndkoefchlclkaa
