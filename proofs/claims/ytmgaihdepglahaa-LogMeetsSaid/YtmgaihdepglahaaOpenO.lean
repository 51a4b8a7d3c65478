/-
  How an offer, a law's argument, is opened.
-/
import Derived.Test.YtmgaihdepglahaaOpen
namespace Go.Proofs.Ytmgaihdepglahaa
open Go.ChangeShapes Go.WideShapes Go.ChangeAt Go.RowKit Go.Deep

theorem Try.cells33 : Try.prog.cellsOf 33 = 3 := by kernel_rfl
section
variable {H : Type} {enc : TypeId × Value → H} {W : World}

set_option maxRecDepth 100000 in
theorem open_offer {fuel : Nat} {cs : List Value} {x : DataW H × List MemPlace} (h : DataW.trod enc Try.prog W 0 (fun _ => true) true fuel 33 cs = some x) :
    ∃ g : Gc, cs = g.cs ∧ g.raw W W.heap.size ∧ g.n ≤ g.c ∧ (g.A = none → g.c = 0) := by
  obtain ⟨y0, y1, n, _, hlen, h0, h1⟩ := trod_struct2 Try.underlying33 h
  rw [Try.cells33] at hlen
  match cs, hlen with
  | [c0, c1, c2], _ =>
    simp only [Try.cells24, Try.cells25, List.drop_succ_cons, List.drop_zero, List.take_succ_cons, List.take_zero] at h0 h1
    obtain ⟨z0, z1, n2, _, hlen2, g0, g1⟩ := trod_struct2 Try.underlying24 h0
    simp only [Try.cells22, List.drop_succ_cons, List.drop_zero, List.take_succ_cons, List.take_zero] at g0 g1
    obtain ⟨bi, e0, _, w0⟩ := DataW.trod_int Try.underlying22 g0
    obtain ⟨bt, e1, _, w1⟩ := DataW.trod_int Try.underlying22 g1
    obtain ⟨A, m, c, xs, rfl, hes, hmc, hnil⟩ := open_entries h1
    injection e0 with e0
    injection e1 with e1
    subst e0 e1
    have hb := bounds_u64' w0
    have hb' := bounds_u64' w1
    exact ⟨⟨bi, bt, A, m, c, xs⟩, rfl, ⟨hes, hb.1, hb.2, hb'.1, hb'.2⟩, hmc, hnil⟩


set_option maxRecDepth 100000 in
theorem open_offers {a : Option Addr} {len cap : Nat} {d : DataW H} {p : List MemPlace} (h : DataW.Trod enc Try.prog W 0 (fun _ => true) true 28 (.slice a len cap) d p) : ∃ gs, Gin W W.heap.size a len gs := by
  obtain ⟨fuel, hf⟩ := h
  rcases open_slice Try.underlying28 hf with ⟨hcs, _⟩ | ⟨x, l, c, m, n, D, Pl, hcs, _, hl, hm, hmm, _, hc⟩
  · simp [Value.cells] at hcs
    obtain ⟨rfl, rfl, rfl⟩ := hcs
    exact ⟨[], rfl, fun x hx => (by cases hx), fun hn => absurd hn (by omega)⟩
  · simp [Value.cells] at hcs
    obtain ⟨rfl, rfl, rfl⟩ := hcs
    have hlm : len ≤ m := by rw [hmm]; split <;> omega
    have hex : ∀ i, i < len → ∃ e : Gc, e.raw W W.heap.size ∧ ∀ r, r < 3 → W.cell? ((x.add (i * 3)).add r) = e.cs[r]? := fun i hi => by
      obtain ⟨cs', hc', ht'⟩ := hc i (by omega)
      obtain ⟨e, rfl, he, _⟩ := open_offer ht'
      obtain ⟨_, _, hat⟩ := World.cells?_some hc'
      rw [Try.cells33] at hat
      exact ⟨e, he, fun r hr => hat r hr⟩
    have : Inhabited Gc := ⟨⟨0, 0, none, 0, 0, []⟩⟩
    obtain ⟨f, hf⟩ := choose_lt hex
    have hget : ∀ i, i < len → ((List.range len).map f)[i]? = some (f i) := fun i hi => by simp [hi]
    refine ⟨(List.range len).map f, by simp, fun e he => ?_, fun hp => ?_⟩
    · obtain ⟨i, hi, rfl⟩ := List.mem_map.1 he
      exact (hf i (by simpa using hi)).1
    · have h00 := (hf 0 hp).2 0 (by omega)
      rw [Nat.zero_mul, show x.add 0 = x from rfl] at h00
      obtain ⟨b, o, rfl, hb⟩ := addr_of (h00.trans (show (f 0).cs[0]? = some (.int .u64 (f 0).bi) from rfl))
      refine ⟨b, o, rfl, hb, fun j v hj => ?_⟩
      obtain ⟨e, he1, he2⟩ := rowG_get hj
      have hlj : j / 3 < len := by have := (List.getElem?_eq_some_iff.1 he1).1; simpa using this
      rw [hget _ hlj] at he1
      injection he1 with he1
      subst he1
      have := (hf (j / 3) hlj).2 (j % 3) (by omega)
      rw [add_at, add_at, he2, show o + j / 3 * 3 + j % 3 = o + j by omega] at this
      exact this
end

end Go.Proofs.Ytmgaihdepglahaa
