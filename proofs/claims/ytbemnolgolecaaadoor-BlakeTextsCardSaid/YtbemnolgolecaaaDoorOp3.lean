/-
  Rows of digests and of texts as arguments.
-/
import Derived.Test.YtbemnolgolecaaaDoorOp2
import Derived.Test.YtbemnolgolecaaaDoorT6
import Derived.Test.YtbemnolgolecaaaDoorM2
import Derived.SliceStrings
import Derived.Deep.Slices
import Derived.Deep.OwnShut
namespace Go.Proofs.YtbemnolgolecaaaDoor
open Go.ChangeShapes Go.WideShapes Go.ChangeAt Go.RowKit Go.Deep

theorem Tryd.cells27 : Tryd.prog.cellsOf 27 = 32 := by kernel_rfl
theorem Tryd.cells9 : Tryd.prog.cellsOf 9 = 1 := by kernel_rfl
section
variable {H : Type} {enc : TypeId × Value → H} {W : World}
theorem open_ids {a : Option Addr} {len cap : Nat} {d : DataW H} {p : List MemPlace} (h : DataW.Trod enc Tryd.prog W 0 (fun _ => true) true 50 (.slice a len cap) d p) : Ids W W.heap.size a len ∧ len ≤ 9223372036854775807 := by
  obtain ⟨fuel, hf⟩ := h
  rcases open_slice Tryd.underlying50 hf with ⟨hcs, _⟩ | ⟨x, l, c, m, n, D, Pl, hcs, _, hl, hm, hmm, _, hc⟩
  · simp [Value.cells] at hcs
    obtain ⟨rfl, rfl, rfl⟩ := hcs
    exact ⟨fun h => absurd h (by omega), by omega⟩
  · simp [Value.cells] at hcs
    obtain ⟨rfl, rfl, rfl⟩ := hcs
    have hlm : len ≤ m := by rw [hmm]; split <;> omega
    refine ⟨fun hp => ?_, by unfold maxLen at hm; omega⟩
    obtain ⟨cs0, h0, _⟩ := hc 0 (by omega)
    obtain ⟨_, hl0, hat0⟩ := World.cells?_some h0
    rw [Tryd.cells27] at hl0 hat0
    have h00 := hat0 0 (by omega)
    rw [List.getElem?_eq_getElem (show 0 < cs0.length by omega)] at h00
    rw [Nat.zero_mul, show x.add 0 = x from rfl] at h00
    obtain ⟨b, o, rfl, hb⟩ := addr_of h00
    refine ⟨b, o, rfl, hb, fun i hi => ?_⟩
    obtain ⟨cs', hc', ht'⟩ := hc i (by omega)
    obtain ⟨zs, hzl, hz, hw⟩ := arr_ints Tryd.underlying27 Tryd.underlying5 Tryd.cells5 Tryd.cells27 ht'
    obtain ⟨_, hln, hat⟩ := World.cells?_some hc'
    rw [Tryd.cells27] at hat hln
    refine ⟨zs, hzl, bs_of hw, fun j v hj => ?_⟩
    have hj4 : j < 32 := by
      have := (List.getElem?_eq_some_iff.1 hj).1
      rw [BL.len] at this
      omega
    have := hat j hj4
    have e : cs' = BL zs := hz
    rw [add_at, add_at, e, hj] at this
    exact this
theorem open_txts {a : Option Addr} {len cap : Nat} {d : DataW H} {p : List MemPlace} (h : DataW.Trod enc Tryd.prog W 0 (fun _ => true) true 51 (.slice a len cap) d p) : Txts W W.heap.size a len ∧ len ≤ 9223372036854775807 := by
  obtain ⟨fuel, hf⟩ := h
  rcases open_strings Tryd.underlying51 Tryd.underlying9 Tryd.cells9 hf with ⟨hcs, _⟩ | ⟨x, l, c, ss, hcs, _, hl, hm, hz, _, hcell, hsz⟩
  · simp [Value.cells] at hcs
    obtain ⟨rfl, rfl, rfl⟩ := hcs
    exact ⟨fun h => absurd h (by omega), by omega⟩
  · simp [Value.cells] at hcs
    obtain ⟨rfl, rfl, rfl⟩ := hcs
    have hlm : len ≤ ss.length := by rw [hz]; split <;> omega
    refine ⟨fun hp => ?_, by unfold maxLen at hm; omega⟩
    obtain ⟨b, o, rfl, hb⟩ := addr_of (hcell 0 (by omega))
    refine ⟨b, o, rfl, hb, fun i hi => ?_⟩
    have := hcell i (by omega)
    rw [add_at] at this
    refine ⟨_, this, ?_⟩
    have e : ss.getD i ByteArray.empty = ss[i] := by simp [List.getD, show i < ss.length by omega]
    rw [e]
    have := hsz _ (List.getElem_mem (show i < ss.length by omega))
    unfold maxLen at this
    omega
end

end Go.Proofs.YtbemnolgolecaaaDoor
