/-
  How the laws' arguments are opened: members, numbers, bytes.
-/
import Derived.Test.YtfclppopelmdgaaDoorRows
import Derived.ProofKit
import Derived.OpenShut
import Derived.ShutString
import Derived.ChangeOld
import Derived.Below
import Derived.Deep.Slices
import Derived.Deep.Strs
import Derived.Deep.Matrix
import Derived.Test.YtfclppopelmdgaaDoorLd
import Derived.Test.YtfclppopelmdgaaDoorLS
namespace Go.Proofs.YtfclppopelmdgaaDoor
open Go.ChangeShapes Go.WideShapes Go.ChangeAt Go.RowKit Go.Deep

theorem ownOk : ownKnob Tryd.prog.godebug = none := by kernel_rfl
theorem laidOk : laidOutB Tryd.prog = true := by kernel_rfl
theorem Tryd.cells3 : Tryd.prog.cellsOf 3 = 1 := by kernel_rfl
theorem Tryd.cells4 : Tryd.prog.cellsOf 4 = 1 := by kernel_rfl
theorem Tryd.cells5 : Tryd.prog.cellsOf 5 = 1 := by kernel_rfl
theorem Tryd.cells23 : Tryd.prog.cellsOf 23 = 1 := by kernel_rfl
theorem Tryd.cells27 : Tryd.prog.cellsOf 27 = 1 := by kernel_rfl
theorem Tryd.cells48 : Tryd.prog.cellsOf 48 = 1 := by kernel_rfl
theorem Tryd.cells55 : Tryd.prog.cellsOf 55 = 2 := by kernel_rfl

theorem okWide_array {P : Program} {w : World} {r : Reach} {base : Nat} {t e : TypeId} {n : Nat} {v : Value} (ht : P.underlying t = some (.array n e)) (h : Value.okWide P w r base t v) : ∃ cs, v = .agg cs ∧ cs.size = P.cellsOf t := by
  simp only [Value.okWide, ht] at h
  obtain ⟨cs, h1, h2, _⟩ := h
  exact ⟨cs, h1, h2⟩

/-- An array of integers, as it reads. -/
theorem addr_of {w : World} {a : Addr} {v : Value} (h : w.cell? (a.add 0) = some v) : ∃ b o, a = ⟨b, o, none⟩ ∧ b < w.heap.size := by
  rw [show a.add 0 = a from rfl] at h
  obtain ⟨b, o, s⟩ := a
  have hs : s = none := World.cell?_spot h
  subst hs
  exact ⟨b, o, rfl, World.block_lt_of_cell? w _ h⟩
theorem add_at (b o i : Nat) : (⟨b, o, none⟩ : Addr).add i = ⟨b, o + i, none⟩ := by by_cases h0 : i = 0 <;> simp [Addr.add, h0]

section
variable {H : Type} {enc : TypeId × Value → H} {W : World}

theorem open_ilist {sp : Nat → Bool} {fuel : Nat} {v : Value} {x : DataW H × List MemPlace} (h : DataW.trod enc Tryd.prog W 0 sp true fuel 23 [v] = some x) :
    ∃ a len cap zs, v = .slice a len cap ∧ Arg W a len cap zs := by
  rcases open_ints Tryd.underlying23 Tryd.underlying3 Tryd.cells3 h with ⟨hcs, _⟩ | ⟨x, len, c, zs, hcs, _, hl, hm, hz, _, hcell, hwz⟩
  · injection hcs with hcs
    subst hcs
    exact ⟨none, 0, 0, [], rfl, ⟨rfl, fun h => absurd h (by omega)⟩, Nat.le_refl _, fun _ => rfl, by omega⟩
  · injection hcs with hcs
    subst hcs
    have hlz : len ≤ zs.length := by rw [hz]; split <;> omega
    refine ⟨some x, len, c, zs.take len, rfl, ⟨by rw [List.length_take]; omega, fun hp => ?_⟩, hl, fun e => (by cases e), by unfold maxLen at hm; omega⟩
    obtain ⟨b, o, rfl, hb⟩ := addr_of (hcell 0 (by omega))
    refine ⟨b, o, rfl, hb, fun j hj => ?_⟩
    have := hcell j (by omega)
    rw [add_at] at this
    rw [this]
    simp [List.getD, hj]
theorem open_nums {a : Option Addr} {len cap : Nat} {d : DataW H} {p : List MemPlace} (h : DataW.Trod enc Tryd.prog W 0 (fun _ => true) true 23 (.slice a len cap) d p) : ∃ zs, Arg W a len cap zs := by
  obtain ⟨fuel, hf⟩ := h
  obtain ⟨a', l', c', zs, hv, r⟩ := open_ilist (v := .slice a len cap) (by simpa [Value.cells] using hf)
  injection hv with h1 h2 h3
  subst h1 h2 h3
  exact ⟨zs, r⟩
theorem open_conf0 {sp : Nat → Bool} {fuel : Nat} {cs : List Value} {x : DataW H × List MemPlace} (h : DataW.trod enc Tryd.prog W 0 sp true fuel 27 cs = some x) :
    ∃ a len cap zs, cs = [.slice a len cap] ∧ Arg W a len cap zs := by
  obtain ⟨u0, n, _, hlen, g⟩ := trod_struct1 Tryd.underlying27 h
  rw [Tryd.cells27] at hlen
  match cs, hlen with
  | [v], _ =>
    simp only [Tryd.cells23, List.drop_zero, List.take_succ_cons, List.take_zero] at g
    obtain ⟨a, l, c, zs, rfl, r⟩ := open_ilist g
    exact ⟨a, l, c, zs, rfl, r⟩
theorem open_conf {base : Nat} {v : Value} {d : DataW H} {p : List MemPlace} (hv : Value.okWide Tryd.prog W .any base 27 v) (h : DataW.Trod enc Tryd.prog W 0 (fun _ => true) true 27 v d p) :
    ∃ a len cap zs, v = .agg #[.slice a len cap] ∧ Arg W a len cap zs := by
  obtain ⟨⟨cs⟩, rfl, hs⟩ := okWide_struct Tryd.underlying27 hv
  obtain ⟨fuel, hf⟩ := h
  obtain ⟨a, l, c, zs, hc, r⟩ := open_conf0 (cs := cs) (by simpa [Value.cells] using hf)
  subst hc
  exact ⟨a, l, c, zs, rfl, r⟩
theorem open_sets {base : Nat} {v : Value} {d : DataW H} {p : List MemPlace} (hv : Value.okWide Tryd.prog W .any base 55 v) (h : DataW.Trod enc Tryd.prog W 0 (fun _ => true) true 55 v d p) :
    ∃ a len cap zs a2 len2 cap2 zs2, v = .agg #[.slice a len cap, .slice a2 len2 cap2] ∧ Arg W a len cap zs ∧ Arg W a2 len2 cap2 zs2 := by
  obtain ⟨cs0, rfl, _⟩ := okWide_array Tryd.underlying55 hv
  obtain ⟨cs⟩ := cs0
  obtain ⟨fuel, hf⟩ := h
  have hf' : DataW.trod enc Tryd.prog W 0 (fun _ => true) true fuel 55 cs = some (d, p) := by simpa [Value.cells] using hf
  obtain ⟨ds, n, _, _, hlen, hds, hh⟩ := DataW.trod_array Tryd.underlying55 hf'
  rw [Tryd.cells55] at hlen
  match cs, hlen with
  | [u, v], _ =>
    have h0 := hh 0 (by omega)
    have h1 := hh 1 (by omega)
    simp only [Tryd.cells23, Nat.zero_mul, Nat.one_mul, List.drop_zero, List.drop_succ_cons, List.take_succ_cons, List.take_zero] at h0 h1
    rw [List.getElem?_eq_getElem (by omega)] at h0 h1
    obtain ⟨a, l, c, zs, rfl, r⟩ := open_ilist h0
    obtain ⟨a2, l2, c2, zs2, rfl, r2⟩ := open_ilist h1
    exact ⟨a, l, c, zs, a2, l2, c2, zs2, rfl, r, r2⟩
end

end Go.Proofs.YtfclppopelmdgaaDoor
