/-
  How a slice of numbers of 64 bits is opened.
-/
import Derived.Test.YtbjillkdhjndpaaOpen
import Derived.Test.YtbjillkdhjndpaaBack0
namespace Go.Proofs.Ytbjillkdhjndpaa
open Go.ChangeShapes Go.WideShapes Go.ChangeAt Go.RowKit Go.Deep

theorem Try.cells26 : Try.prog.cellsOf 26 = 1 := by kernel_rfl

section
variable {H : Type} {enc : TypeId × Value → H} {W : World} {sp : Nat → Bool}
theorem open_us {a : Option Addr} {len cap : Nat} {d : DataW H} {p : List MemPlace} (h : DataW.Trod enc Try.prog W 0 sp true 23 (.slice a len cap) d p) : ∃ vs, Us W W.heap.size a len vs ∧ len ≤ cap ∧ cap ≤ 9223372036854775807 := by
  obtain ⟨fuel, hf⟩ := h
  rcases open_ints Try.underlying23 Try.underlying26 Try.cells26 hf with ⟨hcs, _⟩ | ⟨x, l, c, zs, hcs, _, hl, hm, hz, _, hcell, hwz⟩
  · simp [Value.cells] at hcs
    obtain ⟨rfl, rfl, rfl⟩ := hcs
    exact ⟨[], ⟨rfl, fun j => by simp, fun h => absurd h (by omega)⟩, by omega, by omega⟩
  · simp [Value.cells] at hcs
    obtain ⟨rfl, rfl, rfl⟩ := hcs
    have hlz : len ≤ zs.length := by rw [hz]; split <;> omega
    have hw : Us W W.heap.size (some x) len (zs.take len) := by
      refine ⟨by rw [List.length_take]; omega, fun j => ?_, fun hp => ?_⟩
      · simp only [List.getD, List.getElem?_take]
        split
        · exact range_u64 hwz j
        · simp
      · obtain ⟨b, o, rfl, hb⟩ := addr_of (hcell 0 (by omega))
        refine ⟨b, o, rfl, hb, fun j hj => ?_⟩
        have := hcell j (by omega)
        rw [add_at] at this
        rw [this]
        simp [List.getD, hj]
    exact ⟨_, hw, hl, by unfold maxLen at hm; omega⟩
end

end Go.Proofs.Ytbjillkdhjndpaa
