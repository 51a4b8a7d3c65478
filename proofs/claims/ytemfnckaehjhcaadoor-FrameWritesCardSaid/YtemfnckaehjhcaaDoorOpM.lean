/-
  How the laws' arguments are opened: a message.
-/
import Derived.Test.YtemfnckaehjhcaaDoorOp
import Derived.Test.YtemfnckaehjhcaaDoorFV2
namespace Go.Proofs.YtemfnckaehjhcaaDoor
open Go.ChangeShapes Go.WideShapes Go.ChangeAt Go.RowKit Go.Deep

theorem Tryd.cells24 : Tryd.prog.cellsOf 24 = 2 := by kernel_rfl
theorem Tryd.cells25 : Tryd.prog.cellsOf 25 = 1 := by kernel_rfl
theorem Tryd.cells26 : Tryd.prog.cellsOf 26 = 1 := by kernel_rfl
theorem Tryd.cells28 : Tryd.prog.cellsOf 28 = 1 := by kernel_rfl
theorem Tryd.cells56 : Tryd.prog.cellsOf 56 = 3 := by kernel_rfl
theorem Tryd.cells31 : Tryd.prog.cellsOf 31 = 11 := by kernel_rfl
theorem rowE_get {xs : List Ec} {j : Nat} {v : Value} (h : (rowE xs)[j]? = some v) : ∃ x, xs[j / 3]? = some x ∧ x.cs[j % 3]? = some v := by
  have hl : j < xs.length * 3 := by rw [← rowE_len]; exact (List.getElem?_eq_some_iff.1 h).1
  have hx : xs[j / 3]? = some (xs[j / 3]'(by omega)) := List.getElem?_eq_getElem _
  refine ⟨_, hx, ?_⟩
  rw [← rowE_at xs (j / 3) (j % 3) _ hx (by omega), show j / 3 * 3 + j % 3 = j by omega]
  exact h
theorem trod_struct10 {H : Type} {enc : TypeId × Value → H} {P : Program} {w : World} {base : Nat} {spare : Nat → Bool} {held : Bool} {t : TypeId} {f0 f1 f2 f3 f4 f5 f6 f7 f8 f9 : Field} {fuel : Nat} {cs : List Value} {x : DataW H × List MemPlace} (ht : P.underlying t = some (.struct #[f0, f1, f2, f3, f4, f5, f6, f7, f8, f9])) (h : DataW.trod enc P w base spare held fuel t cs = some x) :
    ∃ y0 y1 y2 y3 y4 y5 y6 y7 y8 y9 n, cs.length = P.cellsOf t ∧ DataW.trod enc P w base spare held n f0.type ((cs.drop f0.offset).take (P.cellsOf f0.type)) = some y0 ∧ DataW.trod enc P w base spare held n f1.type ((cs.drop f1.offset).take (P.cellsOf f1.type)) = some y1 ∧ DataW.trod enc P w base spare held n f2.type ((cs.drop f2.offset).take (P.cellsOf f2.type)) = some y2 ∧ DataW.trod enc P w base spare held n f3.type ((cs.drop f3.offset).take (P.cellsOf f3.type)) = some y3 ∧ DataW.trod enc P w base spare held n f4.type ((cs.drop f4.offset).take (P.cellsOf f4.type)) = some y4 ∧ DataW.trod enc P w base spare held n f5.type ((cs.drop f5.offset).take (P.cellsOf f5.type)) = some y5 ∧ DataW.trod enc P w base spare held n f6.type ((cs.drop f6.offset).take (P.cellsOf f6.type)) = some y6 ∧ DataW.trod enc P w base spare held n f7.type ((cs.drop f7.offset).take (P.cellsOf f7.type)) = some y7 ∧ DataW.trod enc P w base spare held n f8.type ((cs.drop f8.offset).take (P.cellsOf f8.type)) = some y8 ∧ DataW.trod enc P w base spare held n f9.type ((cs.drop f9.offset).take (P.cellsOf f9.type)) = some y9 := by
  obtain ⟨xs, n, _, rfl, hl, hlen, hf⟩ := DataW.trod_struct ht h
  match xs, hlen with
  | [y0, y1, y2, y3, y4, y5, y6, y7, y8, y9], _ => exact ⟨y0, y1, y2, y3, y4, y5, y6, y7, y8, y9, n, hl, by simpa using hf 0 f0 rfl, by simpa using hf 1 f1 rfl, by simpa using hf 2 f2 rfl, by simpa using hf 3 f3 rfl, by simpa using hf 4 f4 rfl, by simpa using hf 5 f5 rfl, by simpa using hf 6 f6 rfl, by simpa using hf 7 f7 rfl, by simpa using hf 8 f8 rfl, by simpa using hf 9 f9 rfl⟩

section
variable {H : Type} {enc : TypeId × Value → H} {W : World}

theorem open_ilist {fuel : Nat} {v : Value} {x : DataW H × List MemPlace} (h : DataW.trod enc Tryd.prog W 0 (fun _ => true) true fuel 26 [v] = some x) :
    ∃ a len cap zs, v = .slice a len cap ∧ Is W W.heap.size a len zs ∧ len ≤ cap ∧ cap ≤ 9223372036854775807 := by
  rcases open_ints Tryd.underlying26 Tryd.underlying3 Tryd.cells3 h with ⟨hcs, _⟩ | ⟨x, len, c, zs, hcs, _, hl, hm, hz, _, hcell, hwz⟩
  · injection hcs with hcs
    subst hcs
    exact ⟨none, 0, 0, [], rfl, ⟨rfl, fun h => absurd h (by omega)⟩, Nat.le_refl _, by omega⟩
  · injection hcs with hcs
    subst hcs
    have hlz : len ≤ zs.length := by rw [hz]; split <;> omega
    refine ⟨some x, len, c, zs.take len, rfl, ⟨by rw [List.length_take]; omega, fun hp => ?_⟩, hl, by unfold maxLen at hm; omega⟩
    obtain ⟨b, o, rfl, hb⟩ := addr_of (hcell 0 (by omega))
    refine ⟨b, o, rfl, hb, fun j hj => ?_⟩
    have := hcell j (by omega)
    rw [add_at] at this
    rw [this]
    simp [List.getD, hj]

set_option maxRecDepth 100000 in
theorem open_entry {fuel : Nat} {cs : List Value} {x : DataW H × List MemPlace} (h : DataW.trod enc Tryd.prog W 0 (fun _ => true) true fuel 56 cs = some x) :
    ∃ e : Ec, cs = e.cs ∧ e.raw W W.heap.size := by
  obtain ⟨y0, y1, y2, n, _, hlen, h0, h1, h2⟩ := trod_struct3 Tryd.underlying56 h
  rw [Tryd.cells56] at hlen
  match cs, hlen with
  | [c0, c1, c2], _ =>
    simp only [Tryd.cells22, Tryd.cells3, Tryd.cells29, List.drop_succ_cons, List.drop_zero, List.take_succ_cons, List.take_zero] at h0 h1 h2
    obtain ⟨t, e0, _, w0⟩ := DataW.trod_int Tryd.underlying22 h0
    obtain ⟨k, e1, _⟩ := DataW.trod_int Tryd.underlying3 h1
    obtain ⟨A, m, c, zs, rfl, hby, hmc, hnil, hcm⟩ := open_bytes0 h2
    injection e0 with e0
    injection e1 with e1
    subst e0 e1
    have hb := bounds_u64' w0
    exact ⟨⟨t, k, A, m, c, zs⟩, rfl, hby, hmc, hnil, hcm, hb.1, hb.2⟩

set_option maxRecDepth 100000 in
theorem open_entries {fuel : Nat} {v : Value} {x : DataW H × List MemPlace} (h : DataW.trod enc Tryd.prog W 0 (fun _ => true) true fuel 25 [v] = some x) :
    ∃ a len cap xs, v = .slice a len cap ∧ Ein W W.heap.size a len xs ∧ len ≤ cap ∧ (a = none → cap = 0) ∧ len ≤ 9223372036854775807 := by
  rcases open_slice Tryd.underlying25 h with ⟨hcs, _⟩ | ⟨x, len, c, m, n, D, Pl, hcs, _, hl, hm, hmm, _, hc⟩
  · injection hcs with hcs
    subst hcs
    exact ⟨none, 0, 0, [], rfl, ⟨rfl, fun x hx => (by cases hx), fun hn => absurd hn (by omega)⟩, Nat.le_refl _, fun _ => rfl, by omega⟩
  · injection hcs with hcs
    subst hcs
    have hlm : len ≤ m := by rw [hmm]; split <;> omega
    have hex : ∀ i, i < len → ∃ e : Ec, e.raw W W.heap.size ∧ ∀ r, r < 3 → W.cell? ((x.add (i * 3)).add r) = e.cs[r]? := fun i hi => by
      obtain ⟨cs', hc', ht'⟩ := hc i (by omega)
      obtain ⟨e, rfl, he⟩ := open_entry ht'
      obtain ⟨_, _, hat⟩ := World.cells?_some hc'
      rw [Tryd.cells56] at hat
      exact ⟨e, he, fun r hr => hat r hr⟩
    have : Inhabited Ec := ⟨⟨0, 0, none, 0, 0, []⟩⟩
    obtain ⟨f, hf⟩ := choose_lt hex
    have hget : ∀ i, i < len → ((List.range len).map f)[i]? = some (f i) := fun i hi => by simp [hi]
    refine ⟨some x, len, c, (List.range len).map f, rfl, ⟨by simp, fun e he => ?_, fun hp => ?_⟩, hl, fun e => (by cases e), by unfold maxLen at hm; omega⟩
    · obtain ⟨i, hi, rfl⟩ := List.mem_map.1 he
      exact (hf i (by simpa using hi)).1
    · have h00 := (hf 0 hp).2 0 (by omega)
      rw [Nat.zero_mul, show x.add 0 = x from rfl] at h00
      obtain ⟨b, o, rfl, hb⟩ := addr_of (h00.trans (show (f 0).cs[0]? = some (.int .u64 (f 0).t) from rfl))
      refine ⟨b, o, rfl, hb, fun j v hj => ?_⟩
      obtain ⟨e, he1, he2⟩ := rowE_get hj
      have hlj : j / 3 < len := by have := (List.getElem?_eq_some_iff.1 he1).1; simpa using this
      rw [hget _ hlj] at he1
      injection he1 with he1
      subst he1
      have := (hf (j / 3) hlj).2 (j % 3) (by omega)
      rw [add_at, add_at, he2, show o + j / 3 * 3 + j % 3 = o + j by omega] at this
      exact this


set_option maxRecDepth 100000 in
theorem open_msg0 {fuel : Nat} {cs : List Value} {x : DataW H × List MemPlace} (h : DataW.trod enc Tryd.prog W 0 (fun _ => true) true fuel 31 cs = some x) :
    ∃ (kind fr to t pi pt co : Int) (ok : Bool) (A : Option Addr) (n c : Nat) (A1 : Option Addr) (n1 c1 : Nat) (A2 : Option Addr) (n2 c2 : Nat) (xs : List Ec) (mem da : List Int),
      cs = [.int .i64 kind, .int .i64 fr, .int .i64 to, .int .u64 t, .int .u64 pi, .int .u64 pt, .slice A n c, .int .u64 co, .bool ok, .slice A1 n1 c1, .slice A2 n2 c2] ∧
      Min W W.heap.size kind fr to t pi pt co ok A n c A1 n1 c1 A2 n2 c2 xs mem da ∧
      (0 ≤ t ∧ t < 18446744073709551616 ∧ 0 ≤ pi ∧ pi < 18446744073709551616 ∧ 0 ≤ pt ∧ pt < 18446744073709551616 ∧ 0 ≤ co ∧ co < 18446744073709551616) := by
  obtain ⟨y0, y1, y2, y3, y4, y5, y6, y7, y8, y9, n, hlen, h0, h1, h2, h3, h4, h5, h6, h7, h8, h9⟩ := trod_struct10 Tryd.underlying31 h
  rw [Tryd.cells31] at hlen
  match cs, hlen with
  | [c0, c1, c2, c3, c4, c5, c6, c7, c8, c9, c10], _ =>
    simp only [Tryd.cells3, Tryd.cells4, Tryd.cells22, Tryd.cells24, Tryd.cells25, Tryd.cells28, Tryd.cells29, List.drop_succ_cons, List.drop_zero, List.take_succ_cons, List.take_zero] at h0 h1 h2 h3 h4 h5 h6 h7 h8 h9
    obtain ⟨kind, e0, _⟩ := DataW.trod_int Tryd.underlying3 h0
    obtain ⟨fr, e1, _⟩ := DataW.trod_int Tryd.underlying3 h1
    obtain ⟨to, e2, _⟩ := DataW.trod_int Tryd.underlying3 h2
    obtain ⟨t, e3, _, w3⟩ := DataW.trod_int Tryd.underlying22 h3
    obtain ⟨z0, z1, n2, _, hlen2, g0, g1⟩ := trod_struct2 Tryd.underlying24 h4
    simp only [Tryd.cells22, List.drop_succ_cons, List.drop_zero, List.take_succ_cons, List.take_zero] at g0 g1
    obtain ⟨pi, e4, _, w4⟩ := DataW.trod_int Tryd.underlying22 g0
    obtain ⟨pt, e5, _, w5⟩ := DataW.trod_int Tryd.underlying22 g1
    obtain ⟨A, m, c, xs, rfl, hes, hmc, hnil, hmm⟩ := open_entries h5
    obtain ⟨co, e6, _, w6⟩ := DataW.trod_int Tryd.underlying22 h6
    obtain ⟨ok, e7, _⟩ := DataW.trod_bool Tryd.underlying4 h7
    obtain ⟨u0, n3, _, hlen3, g2⟩ := trod_struct1 Tryd.underlying28 h8
    simp only [Tryd.cells26, List.drop_zero, List.take_succ_cons, List.take_zero] at g2
    obtain ⟨A1, m1, cc1, mem, rfl, hi, hic, him⟩ := open_ilist g2
    obtain ⟨A2, m2, cc2, da, rfl, hd, hdc, hdn, hdm⟩ := open_bytes0 h9
    injection e0 with e0
    injection e1 with e1
    injection e2 with e2
    injection e3 with e3
    injection e4 with e4
    injection e5 with e5
    injection e6 with e6
    injection e7 with e7
    subst e0 e1 e2 e3 e4 e5 e6 e7
    have b3 := bounds_u64' w3
    have b4 := bounds_u64' w4
    have b5 := bounds_u64' w5
    have b6 := bounds_u64' w6
    exact ⟨kind, fr, to, t, pi, pt, co, ok, A, m, c, A1, m1, cc1, A2, m2, cc2, xs, mem, da, rfl, ⟨hes, hi, hic, him, hd, hdc, hdm, hmm⟩, b3.1, b3.2, b4.1, b4.2, b5.1, b5.2, b6.1, b6.2⟩

set_option maxRecDepth 100000 in
theorem open_msg {base : Nat} {v : Value} {d : DataW H} {p : List MemPlace} (hv : Value.okWide Tryd.prog W .any base 31 v) (h : DataW.Trod enc Tryd.prog W 0 (fun _ => true) true 31 v d p) :
    ∃ (kind fr to t pi pt co : Int) (ok : Bool) (A : Option Addr) (n c : Nat) (A1 : Option Addr) (n1 c1 : Nat) (A2 : Option Addr) (n2 c2 : Nat) (xs : List Ec) (mem da : List Int),
      v = .agg #[.int .i64 kind, .int .i64 fr, .int .i64 to, .int .u64 t, .int .u64 pi, .int .u64 pt, .slice A n c, .int .u64 co, .bool ok, .slice A1 n1 c1, .slice A2 n2 c2] ∧
      Min W W.heap.size kind fr to t pi pt co ok A n c A1 n1 c1 A2 n2 c2 xs mem da ∧
      (0 ≤ t ∧ t < 18446744073709551616 ∧ 0 ≤ pi ∧ pi < 18446744073709551616 ∧ 0 ≤ pt ∧ pt < 18446744073709551616 ∧ 0 ≤ co ∧ co < 18446744073709551616) := by
  obtain ⟨⟨cs⟩, rfl, hs⟩ := okWide_struct Tryd.underlying31 hv
  obtain ⟨fuel, hf⟩ := h
  obtain ⟨kind, fr, to, t, pi, pt, co, ok, A, n, c, A1, n1, c1, A2, n2, c2, xs, mem, da, hc, r⟩ := open_msg0 (cs := cs) (by simpa [Value.cells] using hf)
  subst hc
  exact ⟨kind, fr, to, t, pi, pt, co, ok, A, n, c, A1, n1, c1, A2, n2, c2, xs, mem, da, rfl, r⟩
end

end Go.Proofs.YtemfnckaehjhcaaDoor
