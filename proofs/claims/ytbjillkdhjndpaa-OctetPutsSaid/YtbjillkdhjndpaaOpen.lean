/-
  How the laws' arguments are opened: bytes, steps, rows of bytes.
-/
import Derived.Test.YtbjillkdhjndpaaRows
import Derived.WalkKit
import Derived.ProofKit
import Derived.OpenShut
import Derived.ShutString
import Derived.ChangeOld
import Derived.Below
import Derived.Deep.SlicePairs
import Derived.Deep.Matrix
import Derived.Test.YtbjillkdhjndpaaNoneLaw
import Derived.Test.YtbjillkdhjndpaaTellsLaw
namespace Go.Proofs.Ytbjillkdhjndpaa
open Go.ChangeShapes Go.WideShapes Go.ChangeAt Go.RowKit Go.Deep

theorem ownOk : ownKnob Try.prog.godebug = none := by kernel_rfl
theorem laidOk : laidOutB Try.prog = true := by kernel_rfl
theorem Try.cells3 : Try.prog.cellsOf 3 = 1 := by kernel_rfl
theorem Try.cells5 : Try.prog.cellsOf 5 = 1 := by kernel_rfl
theorem Try.cells22 : Try.prog.cellsOf 22 = 1 := by kernel_rfl
theorem Try.cells47 : Try.prog.cellsOf 47 = 2 := by kernel_rfl

theorem addr_of {w : World} {a : Addr} {v : Value} (h : w.cell? (a.add 0) = some v) : ∃ b o, a = ⟨b, o, none⟩ ∧ b < w.heap.size := by
  rw [show a.add 0 = a from rfl] at h
  obtain ⟨b, o, s⟩ := a
  have hs : s = none := World.cell?_spot h
  subst hs
  exact ⟨b, o, rfl, World.block_lt_of_cell? w _ h⟩
theorem add_at (b o i : Nat) : (⟨b, o, none⟩ : Addr).add i = ⟨b, o + i, none⟩ := by by_cases h0 : i = 0 <;> simp [Addr.add, h0]

section
variable {H : Type} {enc : TypeId × Value → H} {W : World} {sp : Nat → Bool}

theorem open_steps {a : Option Addr} {len cap : Nat} {d : DataW H} {p : List MemPlace} (h : DataW.Trod enc Try.prog W 0 sp true 40 (.slice a len cap) d p) : Steps W W.heap.size a len ∧ len ≤ 9223372036854775807 := by
  obtain ⟨fuel, hf⟩ := h
  rcases open_slice_pairs Try.underlying40 Try.underlying47 Try.cells47 rfl rfl Try.cells3 Try.cells3 hf with ⟨hcs, _⟩ | ⟨x, l, c, m, n, V0, V1, D0, D1, P0, P1, hcs, _, hl, hm, hmm, _, hc⟩
  · simp [Value.cells] at hcs
    obtain ⟨rfl, rfl, rfl⟩ := hcs
    exact ⟨fun h => absurd h (by omega), by omega⟩
  · simp [Value.cells] at hcs
    obtain ⟨rfl, rfl, rfl⟩ := hcs
    have hlm : len ≤ m := by rw [hmm]; split <;> omega
    refine ⟨fun hp => ?_, by unfold maxLen at hm; omega⟩
    obtain ⟨b, o, rfl, hb⟩ := addr_of (hc 0 (by omega)).1
    refine ⟨b, o, rfl, hb, fun i hi => ?_⟩
    obtain ⟨h0, h1, h2, h3⟩ := hc i (by omega)
    rw [add_at] at h0 h1
    obtain ⟨x, e0, _⟩ := DataW.trod_int Try.underlying3 h2
    obtain ⟨y, e1, _⟩ := DataW.trod_int Try.underlying3 h3
    simp at e0 e1
    exact ⟨x, y, by rw [h0, e0], by rw [← Nat.add_assoc] at h1; rw [h1, e1]⟩

theorem open_bytes {a : Option Addr} {len cap : Nat} {d : DataW H} {p : List MemPlace} (h : DataW.Trod enc Try.prog W 0 sp true 22 (.slice a len cap) d p) : ∃ zs, By W W.heap.size a len zs ∧ len ≤ cap ∧ cap ≤ 9223372036854775807 := by
  obtain ⟨fuel, hf⟩ := h
  rcases open_ints Try.underlying22 Try.underlying5 Try.cells5 hf with ⟨hcs, _⟩ | ⟨x, l, c, zs, hcs, _, hl, hm, hz, _, hcell, hwz⟩
  · simp [Value.cells] at hcs
    obtain ⟨rfl, rfl, rfl⟩ := hcs
    exact ⟨[], By.none_, by omega, by omega⟩
  · simp [Value.cells] at hcs
    obtain ⟨rfl, rfl, rfl⟩ := hcs
    have hlz : len ≤ zs.length := by rw [hz]; split <;> omega
    have hbs : Bs zs := fun j => by
      rcases Nat.lt_or_ge j zs.length with hj | hj
      · have := hwz (zs.getD j 0) (by simp [List.getD, hj])
        have := bounds_u8 this
        omega
      · simp [List.getD, List.getElem?_eq_none hj]
    refine ⟨zs.take len, ⟨by rw [List.length_take]; omega, hbs.take len, fun hp => ?_⟩, hl, by unfold maxLen at hm; omega⟩
    obtain ⟨b, o, rfl, hb⟩ := addr_of (hcell 0 (by omega))
    refine ⟨b, o, rfl, hb, fun j hj => ?_⟩
    have := hcell j (by omega)
    rw [add_at] at this
    rw [this]
    simp [List.getD, hj]

theorem open_rws {a : Option Addr} {len cap : Nat} {d : DataW H} {p : List MemPlace} (h : DataW.Trod enc Try.prog W 0 (fun _ => true) true 38 (.slice a len cap) d p) : Rws W W.heap.size a len ∧ len ≤ 9223372036854775807 := by
  obtain ⟨fuel, hf⟩ := h
  rcases open_int_rows Try.underlying38 Try.underlying22 Try.underlying5 Try.cells22 Try.cells5 hf with ⟨hcs, _⟩ | ⟨x, l, c, A, L, C, Z, hcs, _, hl, hm, _, hr⟩
  · simp [Value.cells] at hcs
    obtain ⟨rfl, rfl, rfl⟩ := hcs
    exact ⟨fun h => absurd h (by omega), by omega⟩
  · simp [Value.cells] at hcs
    obtain ⟨rfl, rfl, rfl⟩ := hcs
    refine ⟨fun hp => ?_, by unfold maxLen at hm; omega⟩
    obtain ⟨b, o, rfl, hb⟩ := addr_of (hr 0 (by omega)).1
    refine ⟨b, o, rfl, hb, fun i hi => ?_⟩
    obtain ⟨h0, h1, h2, h3, h4, h5, h6⟩ := hr i (by omega)
    rw [add_at] at h0
    refine ⟨A i, L i, C i, (Z i).take (L i), h0, ⟨by rw [List.length_take]; omega, Bs.take (fun j => by
      rcases Nat.lt_or_ge j (Z i).length with hj | hj
      · have := bounds_u8 (h4 ((Z i).getD j 0) (by simp [List.getD, hj]))
        omega
      · simp [List.getD, List.getElem?_eq_none hj]) _, fun hp => ?_⟩, h1⟩
    cases hA : A i with
    | none => have := h5 hA; omega
    | some a' =>
      obtain ⟨_, hc⟩ := h6 a' hA
      obtain ⟨b', o', rfl, hb'⟩ := addr_of (hc 0 (by omega))
      refine ⟨b', o', rfl, hb', fun j hj => ?_⟩
      have := hc j (by omega)
      rw [add_at] at this
      rw [this]
      simp [List.getD, hj]
end

end Go.Proofs.Ytbjillkdhjndpaa
