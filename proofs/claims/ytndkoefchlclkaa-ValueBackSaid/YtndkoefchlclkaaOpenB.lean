/-
  How bytes are opened, nil told.
-/
import Derived.Test.YtndkoefchlclkaaOpen
namespace Go.Proofs.Ytndkoefchlclkaa
open Go.ChangeShapes Go.WideShapes Go.ChangeAt Go.RowKit Go.Deep

theorem open_raw {H : Type} {enc : TypeId × Value → H} {W : World} {sp : Nat → Bool} {a : Option Addr} {len cap : Nat} {d : DataW H} {p : List MemPlace} (h : DataW.Trod enc Try.prog W 0 sp true 44 (.slice a len cap) d p) :
    ∃ zs, By W W.heap.size a len zs ∧ len ≤ cap ∧ (a = none → cap = 0) := by
  have h' := h
  obtain ⟨zs, h1, h2, _⟩ := open_bytes h
  obtain ⟨fuel, hf⟩ := h'
  refine ⟨zs, h1, h2, fun ha => ?_⟩
  rcases open_ints Try.underlying44 Try.underlying5 Try.cells5 hf with ⟨hcs, _⟩ | ⟨x, l, c, zs', hcs, _⟩
  · simp [Value.cells] at hcs
    exact hcs.2.2
  · simp [Value.cells] at hcs
    rw [ha] at hcs
    exact absurd hcs.1 (by simp)

end Go.Proofs.Ytndkoefchlclkaa
