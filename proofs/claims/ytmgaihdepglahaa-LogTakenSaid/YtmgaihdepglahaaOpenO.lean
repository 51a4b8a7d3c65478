/-
  How an offer, a law's argument, is opened.
-/
import Derived.Test.YtmgaihdepglahaaOpen
namespace Go.Proofs.Ytmgaihdepglahaa
open Go.ChangeShapes Go.WideShapes Go.ChangeAt Go.RowKit Go.Deep

theorem Try.cells33 : Try.prog.cellsOf 33 = 3 := by kernel_rfl
section
variable {H : Type} {enc : TypeId × Value → H} {W : World}

set_option maxRecDepth 100000 in
theorem open_offer {fuel : Nat} {cs : List Value} {x : DataW H × List MemPlace} (h : DataW.trod enc Try.prog W 0 (fun _ => true) true fuel 33 cs = some x) :
    ∃ g : Gc, cs = g.cs ∧ g.raw W W.heap.size ∧ g.n ≤ g.c ∧ (g.A = none → g.c = 0) := by
  obtain ⟨y0, y1, n, _, hlen, h0, h1⟩ := trod_struct2 Try.underlying33 h
  rw [Try.cells33] at hlen
  match cs, hlen with
  | [c0, c1, c2], _ =>
    simp only [Try.cells24, Try.cells25, List.drop_succ_cons, List.drop_zero, List.take_succ_cons, List.take_zero] at h0 h1
    obtain ⟨z0, z1, n2, _, hlen2, g0, g1⟩ := trod_struct2 Try.underlying24 h0
    simp only [Try.cells22, List.drop_succ_cons, List.drop_zero, List.take_succ_cons, List.take_zero] at g0 g1
    obtain ⟨bi, e0, _, w0⟩ := DataW.trod_int Try.underlying22 g0
    obtain ⟨bt, e1, _, w1⟩ := DataW.trod_int Try.underlying22 g1
    obtain ⟨A, m, c, xs, rfl, hes, hmc, hnil⟩ := open_entries h1
    injection e0 with e0
    injection e1 with e1
    subst e0 e1
    have hb := bounds_u64' w0
    have hb' := bounds_u64' w1
    exact ⟨⟨bi, bt, A, m, c, xs⟩, rfl, ⟨hes, hb.1, hb.2, hb'.1, hb'.2⟩, hmc, hnil⟩

end

end Go.Proofs.Ytmgaihdepglahaa
