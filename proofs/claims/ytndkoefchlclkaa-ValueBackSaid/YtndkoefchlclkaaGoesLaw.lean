/-
  The law OctetGoes, walked.
-/
import Derived.Test.YtndkoefchlclkaaTells
import Derived.Deep.RegionWith
namespace Go.Proofs.Ytndkoefchlclkaa
open Go.RowKit

theorem mod_nat (a : Int) (N : Nat) (hN : N ≤ 100000) : ∃ K : Nat, K ≤ N ∧ wrap64 ((IntKind.u64.wrap a).tmod ((N : Int) + 1)) = (K : Int) := by
  have h0 : 0 ≤ IntKind.u64.wrap a := by rw [IntKind.wrap_u64]; omega
  rw [Int.tmod_eq_emod_of_nonneg h0]
  have h1 := Int.emod_nonneg (IntKind.u64.wrap a) (show ((N : Int) + 1) ≠ 0 by omega)
  have h2 := Int.emod_lt_of_pos (IntKind.u64.wrap a) (show 0 < ((N : Int) + 1) by omega)
  generalize IntKind.u64.wrap a % ((N : Int) + 1) = q at *
  refine ⟨q.toNat, by omega, ?_⟩
  unfold wrap64
  omega
theorem mod_400 (a : Int) : ∃ K : Nat, K < 400 ∧ wrap64 ((IntKind.u64.wrap a).tmod 400) = (K : Int) := by
  obtain ⟨K, h1, h2⟩ := mod_nat a 399 (by omega)
  exact ⟨K, by omega, h2⟩

theorem Rd.other {w w' : World} {p p' n c n' c' : Nat} {k er k' er' : Int} {A A' : Option Addr} (h : Rd w p' k' er' A' n' c') (hm : Moved w p k er A n c w') (hne : p' ≠ p) : Rd w' p' k' er' A' n' c' :=
  (hm.2.block p' (Blk.lt h) (fun e => by injection e with e; exact hne e)).trans h
theorem By.moved' {w w' : World} {p n c B m : Nat} {k er : Int} {A A' : Option Addr} {zs : List Int} (h : By w B A' m zs) (hp : p < w.heap.size) (hB : B ≤ p) (hm : Moved w p k er A n c w') : By w' B A' m zs :=
  h.keep fun q hq => World.cell?_of_block (hm.2.block q.block (by omega) (fun e => by injection e with e; omega))
theorem Own.moved {w w' : World} {p n c base m d : Nat} {k er : Int} {A A' : Option Addr} {zs : List Int} (h : Own w base A' m d zs) (hm : Moved w p k er A n c w') (hp : p < base) : Own w' base A' m d zs := by
  refine ⟨⟨h.1.1, ?_⟩, h.2⟩
  rcases h.1.2 with hv | ⟨g, cap, cur, hv, hbs, hh, r⟩
  · exact .inl hv
  · exact .inr ⟨g, cap, cur, hv, hbs, (hm.2.block g (Blk.lt (t := 5) hh) (fun e => by injection e with e; omega)).trans hh, r⟩


end Go.Proofs.Ytndkoefchlclkaa
