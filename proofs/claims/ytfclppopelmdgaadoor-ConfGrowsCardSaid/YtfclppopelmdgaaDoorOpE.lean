/-
  How the laws' arguments are opened: lists of how far.
-/
import Derived.Test.YtfclppopelmdgaaDoorOp
import Derived.Test.YtfclppopelmdgaaDoorLE
namespace Go.Proofs.YtfclppopelmdgaaDoor
open Go.ChangeShapes Go.WideShapes Go.ChangeAt Go.RowKit Go.Deep

theorem Tryd.cells37 : Tryd.prog.cellsOf 37 = 1 := by kernel_rfl
theorem Tryd.cells38 : Tryd.prog.cellsOf 38 = 1 := by kernel_rfl
theorem Tryd.cells59 : Tryd.prog.cellsOf 59 = 2 := by kernel_rfl
theorem bounds_u64' {a : Int} (h : (Lit.int .u64 a).wf = true) : 0 ≤ a ∧ a < 18446744073709551616 := by
  have := range_u64 (zs := [a]) (fun z hz => by rw [List.mem_singleton.1 hz]; exact h) 0
  have h2 : 0 ≤ a ∧ a ≤ 18446744073709551615 := by simpa using this
  omega
section
variable {H : Type} {enc : TypeId × Value → H} {W : World}
theorem open_match0 {sp : Nat → Bool} {fuel : Nat} {cs : List Value} {x : DataW H × List MemPlace} (h : DataW.trod enc Tryd.prog W 0 sp true fuel 59 cs = some x) :
    ∃ m j : Int, cs = [.int .i64 m, .int .u64 j] ∧ 0 ≤ j ∧ j ≤ 18446744073709551615 := by
  obtain ⟨y0, y1, n, _, hlen, h0, h1⟩ := trod_struct2 Tryd.underlying59 h
  rw [Tryd.cells59] at hlen
  match cs, hlen with
  | [c0, c1], _ =>
    simp only [Tryd.cells3, List.drop_succ_cons, List.drop_zero, List.take_succ_cons, List.take_zero] at h0 h1
    obtain ⟨m, e0, _, w0⟩ := DataW.trod_int Tryd.underlying3 h0
    obtain ⟨j, e1, _, w1⟩ := DataW.trod_int Tryd.underlying38 h1
    injection e0 with e0
    injection e1 with e1
    subst e0 e1
    have hb := bounds_u64' w1
    exact ⟨m, j, rfl, hb.1, by omega⟩
theorem open_match {base : Nat} {v : Value} {d : DataW H} {p : List MemPlace} (hv : Value.okWide Tryd.prog W .any base 59 v) (h : DataW.Trod enc Tryd.prog W 0 (fun _ => true) true 59 v d p) :
    ∃ m j : Int, v = .agg #[.int .i64 m, .int .u64 j] ∧ 0 ≤ j ∧ j ≤ 18446744073709551615 := by
  obtain ⟨⟨cs⟩, rfl, hs⟩ := okWide_struct Tryd.underlying59 hv
  obtain ⟨fuel, hf⟩ := h
  obtain ⟨m, j, hc, hb⟩ := open_match0 (cs := cs) (by simpa [Value.cells] using hf)
  subst hc
  exact ⟨m, j, rfl, hb⟩
theorem choose_lt {α : Type} [Inhabited α] {n : Nat} {p : Nat → α → Prop} (h : ∀ i, i < n → ∃ a, p i a) : ∃ f : Nat → α, ∀ i, i < n → p i (f i) :=
  ⟨fun i => if hi : i < n then Classical.choose (h i hi) else default, fun i hi => by simp only [hi, dif_pos]; exact Classical.choose_spec (h i hi)⟩
theorem open_matches {a : Option Addr} {len cap : Nat} {d : DataW H} {p : List MemPlace} (h : DataW.Trod enc Tryd.prog W 0 (fun _ => true) true 37 (.slice a len cap) d p) : ∃ l, Mrg W a len cap l := by
  obtain ⟨fuel, hf⟩ := h
  rcases open_slice Tryd.underlying37 hf with ⟨hcs, _⟩ | ⟨x, l, c, m, n, D, Pl, hcs, _, hl, hm, hmm, _, hc⟩
  · simp [Value.cells] at hcs
    obtain ⟨rfl, rfl, rfl⟩ := hcs
    exact ⟨[], ⟨rfl, fun j => by simp, fun hn => absurd hn (by omega)⟩, Nat.le_refl _, fun _ => rfl, by omega⟩
  · simp [Value.cells] at hcs
    obtain ⟨rfl, rfl, rfl⟩ := hcs
    have hlm : len ≤ m := by rw [hmm]; split <;> omega
    have hex : ∀ i, i < len → ∃ e : Int × Int, (0 ≤ e.2 ∧ e.2 ≤ 18446744073709551615) ∧ W.cell? (x.add (i * 2)) = some (.int .i64 e.1) ∧ W.cell? ((x.add (i * 2)).add 1) = some (.int .u64 e.2) := fun i hi => by
      obtain ⟨cs', hc', ht'⟩ := hc i (by omega)
      obtain ⟨y, j, rfl, hb⟩ := open_match0 ht'
      obtain ⟨_, _, hat⟩ := World.cells?_some hc'
      rw [Tryd.cells59] at hat
      exact ⟨(y, j), hb, hat 0 (by omega), hat 1 (by omega)⟩
    obtain ⟨f, hf⟩ := choose_lt hex
    have hget : ∀ i, i < len → ((List.range len).map f).getD i (0, 0) = f i := fun i hi => by simp [List.getD, hi]
    refine ⟨(List.range len).map f, ⟨by simp, fun j => ?_, fun hp => ?_⟩, hl, fun e => (by cases e), by unfold maxLen at hm; omega⟩
    · by_cases hj : j < len
      · rw [hget j hj]; exact (hf j hj).1
      · simp [List.getD, List.getElem?_eq_none (show ((List.range len).map f).length ≤ j by simp; omega)]
    · have h00 := (hf 0 hp).2.1
      rw [Nat.zero_mul] at h00
      obtain ⟨b, o, rfl, hb⟩ := addr_of h00
      refine ⟨b, o, rfl, hb, fun j hj => ?_⟩
      rw [hget j hj]
      have := (hf j hj).2
      rw [add_at, add_at] at this
      exact this
end

end Go.Proofs.YtfclppopelmdgaaDoor
