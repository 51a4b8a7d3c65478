/-
  The law OctetNone, walked.
-/
import Derived.Test.YtndkoefchlclkaaNone
namespace Go.Proofs.Ytndkoefchlclkaa
open Go.RowKit

/-- The slice '.slice A n c' holds steps, below block B. -/
def Steps (w : World) (B : Nat) (A : Option Addr) (n : Nat) : Prop :=
  0 < n → ∃ b o, A = some ⟨b, o, none⟩ ∧ b < B ∧ ∀ i, i < n → ∃ x y : Int, w.cell? ⟨b, o + i * 2, none⟩ = some (.int .i64 x) ∧ w.cell? ⟨b, o + i * 2 + 1, none⟩ = some (.int .i64 y)
theorem Steps.below {w w' : World} {B : Nat} {A : Option Addr} {n : Nat} (h : Steps w B A n) (hb : Below B w w') : Steps w' B A n := fun hn => by
  obtain ⟨b, o, hA, hB, hc⟩ := h hn
  refine ⟨b, o, hA, hB, fun i hi => ?_⟩
  obtain ⟨x, y, h1, h2⟩ := hc i hi
  exact ⟨x, y, (hb.cell (p := ⟨b, _, none⟩) hB).trans h1, (hb.cell (p := ⟨b, _, none⟩) hB).trans h2⟩


end Go.Proofs.Ytndkoefchlclkaa
