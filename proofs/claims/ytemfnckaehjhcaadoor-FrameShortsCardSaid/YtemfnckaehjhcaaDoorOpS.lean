/-
  How the laws' arguments are opened: rows of numbers, rows of bytes.
-/
import Derived.Deep.Matrix
import Derived.Test.YtemfnckaehjhcaaDoorOp
import Derived.Test.YtemfnckaehjhcaaDoorFQ
namespace Go.Proofs.YtemfnckaehjhcaaDoor
open Go.ChangeShapes Go.WideShapes Go.ChangeAt Go.RowKit Go.Deep

section
variable {H : Type} {enc : TypeId × Value → H} {W : World}

theorem open_nums {a : Option Addr} {len cap : Nat} {d : DataW H} {p : List MemPlace} (h : DataW.Trod enc Tryd.prog W 0 (fun _ => true) true 43 (.slice a len cap) d p) : ∃ _u : Unit, Nus W W.heap.size a len := by
  refine ⟨(), ?_⟩
  obtain ⟨fuel, hf⟩ := h
  rcases open_ints Tryd.underlying43 Tryd.underlying22 Tryd.cells22 hf with ⟨hcs, _⟩ | ⟨x, l, c, zs, hcs, _, hl, hm, hz, _, hcell, hwz⟩
  · simp [Value.cells] at hcs
    obtain ⟨rfl, rfl, rfl⟩ := hcs
    exact fun h => absurd h (by omega)
  · simp [Value.cells] at hcs
    obtain ⟨rfl, rfl, rfl⟩ := hcs
    have hlz : len ≤ zs.length := by rw [hz]; split <;> omega
    intro hp
    obtain ⟨b, o, rfl, hb⟩ := addr_of (hcell 0 (by omega))
    refine ⟨b, o, rfl, hb, fun i hi => ?_⟩
    have := hcell i (by omega)
    rw [add_at] at this
    obtain ⟨y, hy, hy2⟩ := nat_u64 (hwz (zs.getD i 0) (by simp [List.getD, show i < zs.length by omega]))
    exact ⟨y, hy2, by rw [this, hy]⟩

theorem open_rows {a : Option Addr} {len cap : Nat} {d : DataW H} {p : List MemPlace} (h : DataW.Trod enc Tryd.prog W 0 (fun _ => true) true 44 (.slice a len cap) d p) : ∃ _u : Unit, Rws W W.heap.size a len := by
  refine ⟨(), ?_⟩
  obtain ⟨fuel, hf⟩ := h
  rcases open_slice Tryd.underlying44 hf with ⟨hcs, _⟩ | ⟨x, l, c, m, n, D, Pl, hcs, _, hl, hm, hmm, _, hc⟩
  · simp [Value.cells] at hcs
    obtain ⟨rfl, rfl, rfl⟩ := hcs
    exact fun h => absurd h (by omega)
  · simp [Value.cells] at hcs
    obtain ⟨rfl, rfl, rfl⟩ := hcs
    have hlm : len ≤ m := by rw [hmm]; split <;> omega
    intro hp
    have hex : ∀ i, i < len → ∃ A' k c' zs, W.cell? (x.add i) = some (.slice A' k c') ∧ By W W.heap.size A' k zs ∧ k ≤ c' ∧ (A' = none → c' = 0) ∧ c' ≤ 9223372036854775807 := fun i hi => by
      obtain ⟨cs', hc', ht'⟩ := hc i (by omega)
      obtain ⟨_, hlen, hat⟩ := World.cells?_some hc'
      rw [Tryd.cells29] at hlen hat
      match cs', hlen with
      | [v], _ =>
        obtain ⟨A', k, c', zs, rfl, r⟩ := open_bytes0 ht'
        have h0 := hat 0 (by omega)
        rw [show (x.add (i * 1)).add 0 = x.add i by rw [Nat.mul_one]; rfl] at h0
        exact ⟨A', k, c', zs, h0, r⟩
    obtain ⟨_, _, _, _, h0, _⟩ := hex 0 hp
    obtain ⟨b, o, rfl, hb⟩ := addr_of h0
    refine ⟨b, o, rfl, hb, fun i hi => ?_⟩
    obtain ⟨A', k, c', zs, h1, r⟩ := hex i hi
    rw [add_at] at h1
    exact ⟨A', k, c', zs, h1, r⟩
end

end Go.Proofs.YtemfnckaehjhcaaDoor
