/-
  The layer does something: 'wakes' answers true, and turns nothing that was there.
-/
import Derived.Test.YtndkoefchlclkaaRead5
import Derived.Test.YtndkoefchlclkaaPut
import Derived.Test.YtndkoefchlclkaaCount
namespace Go.Proofs.Ytndkoefchlclkaa
open Go.RowKit

theorem By.of_blk {w : World} {g n : Nat} {zs : List Int} (h : Blk w g 5 (zs.map (Value.int .u8)).toArray) (hb : Bs zs) (hn : zs.length = n) : By w (g + 1) (some ⟨g, 0, none⟩) n zs := by
  refine ⟨hn, hb, fun _ => ⟨g, 0, rfl, by omega, fun j hj => ?_⟩⟩
  rw [Nat.zero_add, h.cell j]
  simp [List.getD, List.getElem?_eq_getElem (show j < zs.length by omega)]

/-- A new Reader. -/
theorem read_new (A : Option Addr) (n c : Nat) (w : World) :
    Calls Try.prog 55 #[.slice A n c] w fun e w' => e = .returned (.pointer (some ⟨w.heap.size, 0, none⟩)) ∧ Rd w' w.heap.size (0 : Nat) 0 A n c ∧ Below w.heap.size w w' := by
  refine (read_any A n c w).mono ?_
  rintro e w' ⟨rfl, rfl⟩
  exact ⟨rfl, Blk.new w 102 _, (Below.refl _ _).alloc (Nat.le_refl _) _⟩

theorem Moved.low {w w' : World} {p n c B : Nat} {k er : Int} {A : Option Addr} (h : Moved w p k er A n c w') (hp : p < w.heap.size) (hB : B ≤ p) : Below B w w' :=
  ⟨h.2.os, h.2.tape, h.2.output, h.2.size, fun i hi => h.2.block i (by omega) (fun e => by injection e with e; omega)⟩


end Go.Proofs.Ytndkoefchlclkaa
