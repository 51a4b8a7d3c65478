/-
  Rows of members: how they lie, how they are opened.
-/
import Derived.Test.YtfclppopelmdgaaDoorOp
namespace Go.Proofs.YtfclppopelmdgaaDoor
open Go.ChangeShapes Go.WideShapes Go.ChangeAt Go.RowKit Go.Deep

/-- Rows of members that came in. -/
def Cfs (w : World) (B : Nat) (A : Option Addr) (n : Nat) : Prop :=
  0 < n → ∃ b o, A = some ⟨b, o, none⟩ ∧ b < B ∧ ∀ i, i < n → ∃ A' k c' xs, w.cell? ⟨b, o + i, none⟩ = some (.slice A' k c') ∧ Is w B A' k xs ∧ k ≤ c' ∧ (A' = none → c' = 0) ∧ c' ≤ 9223372036854775807
theorem Cfs.below {w w' : World} {B n : Nat} {A : Option Addr} (h : Cfs w B A n) (hb : Below B w w') : Cfs w' B A n := fun hn => by
  obtain ⟨b, o, e, hl, hc⟩ := h hn
  refine ⟨b, o, e, hl, fun i hi => ?_⟩
  obtain ⟨A', k, c', xs, h1, h2, h3⟩ := hc i hi
  exact ⟨A', k, c', xs, (hb.cell (p := ⟨b, o + i, none⟩) hl).trans h1, h2.below hb, h3⟩

section
variable {H : Type} {enc : TypeId × Value → H} {W : World}
theorem open_confs {a : Option Addr} {len cap : Nat} {d : DataW H} {p : List MemPlace} (h : DataW.Trod enc Tryd.prog W 0 (fun _ => true) true 22 (.slice a len cap) d p) : ∃ _u : Unit, Cfs W W.heap.size a len ∧ len ≤ 9223372036854775807 := by
  refine ⟨(), ?_⟩
  obtain ⟨fuel, hf⟩ := h
  rcases open_slice Tryd.underlying22 hf with ⟨hcs, _⟩ | ⟨x, l, c, m, n, D, Pl, hcs, _, hl, hm, hmm, _, hc⟩
  · simp [Value.cells] at hcs
    obtain ⟨rfl, rfl, rfl⟩ := hcs
    exact ⟨fun h => absurd h (by omega), by omega⟩
  · simp [Value.cells] at hcs
    obtain ⟨rfl, rfl, rfl⟩ := hcs
    have hlm : len ≤ m := by rw [hmm]; split <;> omega
    refine ⟨fun hp => ?_, by unfold maxLen at hm; omega⟩
    have hex : ∀ i, i < len → ∃ A' k c' zs, W.cell? (x.add i) = some (.slice A' k c') ∧ Arg W A' k c' zs := fun i hi => by
      obtain ⟨cs', hc', ht'⟩ := hc i (by omega)
      obtain ⟨_, hlen, hat⟩ := World.cells?_some hc'
      rw [Tryd.cells27] at hlen hat
      obtain ⟨A', k, c', zs, rfl, r⟩ := open_conf0 ht'
      have h0 := hat 0 (by omega)
      rw [show (x.add (i * 1)).add 0 = x.add i by rw [Nat.mul_one]; rfl] at h0
      exact ⟨A', k, c', zs, h0, r⟩
    obtain ⟨_, _, _, _, h0, _⟩ := hex 0 hp
    obtain ⟨b, o, rfl, hb⟩ := addr_of h0
    refine ⟨b, o, rfl, hb, fun i hi => ?_⟩
    obtain ⟨A', k, c', zs, h1, r⟩ := hex i hi
    rw [add_at] at h1
    exact ⟨A', k, c', zs, h1, r.is_, r.nc, r.nil, r.cm⟩
end
end Go.Proofs.YtfclppopelmdgaaDoor
