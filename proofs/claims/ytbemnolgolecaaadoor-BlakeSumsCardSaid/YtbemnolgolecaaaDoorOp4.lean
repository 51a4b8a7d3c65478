/-
  Rows of bytes as an argument.
-/
import Derived.Test.YtbemnolgolecaaaDoorOp2
import Derived.Test.YtbemnolgolecaaaDoorU2
import Derived.Deep.Matrix
import Derived.Deep.Slices
import Derived.Deep.OwnShut
namespace Go.Proofs.YtbemnolgolecaaaDoor
open Go.ChangeShapes Go.WideShapes Go.ChangeAt Go.RowKit Go.Deep

theorem Tryd.cells24 : Tryd.prog.cellsOf 24 = 1 := by kernel_rfl
section
variable {H : Type} {enc : TypeId × Value → H} {W : World}
theorem open_rows {a : Option Addr} {len cap : Nat} {d : DataW H} {p : List MemPlace} (h : DataW.Trod enc Tryd.prog W 0 (fun _ => true) true 22 (.slice a len cap) d p) : Rws W W.heap.size a len ∧ len ≤ 9223372036854775807 := by
  obtain ⟨fuel, hf⟩ := h
  rcases open_int_rows Tryd.underlying22 Tryd.underlying24 Tryd.underlying5 Tryd.cells24 Tryd.cells5 hf with ⟨hcs, _⟩ | ⟨x, l, c, A, L, C, Z, hcs, _, hl, hm, _, hr⟩
  · simp [Value.cells] at hcs
    obtain ⟨rfl, rfl, rfl⟩ := hcs
    exact ⟨fun h => absurd h (by omega), by omega⟩
  · simp [Value.cells] at hcs
    obtain ⟨rfl, rfl, rfl⟩ := hcs
    refine ⟨fun hp => ?_, by unfold maxLen at hm; omega⟩
    obtain ⟨b, o, rfl, hb⟩ := addr_of (hr 0 (by omega)).1
    refine ⟨b, o, rfl, hb, fun i hi => ?_⟩
    obtain ⟨h0, h1, h2, h3, h4, h5, h6⟩ := hr i (by omega)
    rw [add_at] at h0
    refine ⟨A i, L i, C i, (Z i).take (L i), h0, ⟨by rw [List.length_take]; omega, Bs.take (fun j => by
      rcases Nat.lt_or_ge j (Z i).length with hj | hj
      · have := bounds_u8 (h4 ((Z i).getD j 0) (by simp [List.getD, hj]))
        omega
      · simp [List.getD, List.getElem?_eq_none hj]) _, fun hp => ?_⟩, h1⟩
    cases hA : A i with
    | none => have := h5 hA; omega
    | some a' =>
      obtain ⟨_, hc⟩ := h6 a' hA
      obtain ⟨b', o', rfl, hb'⟩ := addr_of (hc 0 (by omega))
      refine ⟨b', o', rfl, hb', fun j hj => ?_⟩
      have := hc j (by omega)
      rw [add_at] at this
      rw [this]
      simp [List.getD, hj]
end

end Go.Proofs.YtbemnolgolecaaaDoor
