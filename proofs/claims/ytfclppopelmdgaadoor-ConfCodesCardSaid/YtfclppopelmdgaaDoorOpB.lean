/-
  How the laws' arguments are opened: bytes.
-/
import Derived.Test.YtfclppopelmdgaaDoorOp
import Derived.Test.YtfclppopelmdgaaDoorLR
namespace Go.Proofs.YtfclppopelmdgaaDoor
open Go.ChangeShapes Go.WideShapes Go.ChangeAt Go.RowKit Go.Deep

section
variable {H : Type} {enc : TypeId × Value → H} {W : World}
theorem open_bytes0 {sp : Nat → Bool} {fuel : Nat} {v : Value} {x : DataW H × List MemPlace} (h : DataW.trod enc Tryd.prog W 0 sp true fuel 48 [v] = some x) :
    ∃ a len cap zs, v = .slice a len cap ∧ Brg W a len cap zs := by
  rcases open_ints Tryd.underlying48 Tryd.underlying5 Tryd.cells5 h with ⟨hcs, _⟩ | ⟨x, len, c, zs, hcs, _, hl, hm, hz, _, hcell, hwz⟩
  · injection hcs with hcs
    subst hcs
    exact ⟨none, 0, 0, [], rfl, By.none_, Nat.le_refl _, fun _ => rfl, by omega⟩
  · injection hcs with hcs
    subst hcs
    have hlz : len ≤ zs.length := by rw [hz]; split <;> omega
    have hbs : Bs zs := fun j => by
      rcases Nat.lt_or_ge j zs.length with hj | hj
      · have := hwz (zs.getD j 0) (by simp [List.getD, hj])
        have := bounds_u8 this
        omega
      · simp [List.getD, List.getElem?_eq_none hj]
    refine ⟨some x, len, c, zs.take len, rfl, ⟨by rw [List.length_take]; omega, hbs.take len, fun hp => ?_⟩, hl, fun e => (by cases e), by unfold maxLen at hm; omega⟩
    obtain ⟨b, o, rfl, hb⟩ := addr_of (hcell 0 (by omega))
    refine ⟨b, o, rfl, hb, fun j hj => ?_⟩
    have := hcell j (by omega)
    rw [add_at] at this
    rw [this]
    simp [List.getD, hj]
theorem open_bytes {sp : Nat → Bool} {a : Option Addr} {len cap : Nat} {d : DataW H} {p : List MemPlace} (h : DataW.Trod enc Tryd.prog W 0 sp true 48 (.slice a len cap) d p) : ∃ zs, Brg W a len cap zs := by
  obtain ⟨fuel, hf⟩ := h
  obtain ⟨a', l', c', zs, hv, r⟩ := open_bytes0 (v := .slice a len cap) (by simpa [Value.cells] using hf)
  injection hv with h1 h2 h3
  subst h1 h2 h3
  exact ⟨zs, r⟩
end
end Go.Proofs.YtfclppopelmdgaaDoor
