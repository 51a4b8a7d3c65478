/-
  How the laws' arguments are opened: entries, a log, rows of logs.
-/
import Derived.Test.YtmgaihdepglahaaRows
import Derived.ProofKit
import Derived.OpenShut
import Derived.ShutString
import Derived.ChangeOld
import Derived.Below
import Derived.Deep.Slices
import Derived.Deep.Strs
import Derived.Test.YtmgaihdepglahaaK5
namespace Go.Proofs.Ytmgaihdepglahaa
open Go.ChangeShapes Go.WideShapes Go.ChangeAt Go.RowKit Go.Deep

theorem ownOk : ownKnob Try.prog.godebug = none := by kernel_rfl
theorem laidOk : laidOutB Try.prog = true := by kernel_rfl
theorem Try.cells3 : Try.prog.cellsOf 3 = 1 := by kernel_rfl
theorem Try.cells5 : Try.prog.cellsOf 5 = 1 := by kernel_rfl
theorem Try.cells22 : Try.prog.cellsOf 22 = 1 := by kernel_rfl
theorem Try.cells52 : Try.prog.cellsOf 52 = 1 := by kernel_rfl
theorem Try.cells25 : Try.prog.cellsOf 25 = 1 := by kernel_rfl
theorem Try.cells24 : Try.prog.cellsOf 24 = 2 := by kernel_rfl
theorem Try.cells54 : Try.prog.cellsOf 54 = 3 := by kernel_rfl
theorem Try.cells27 : Try.prog.cellsOf 27 = 3 := by kernel_rfl

theorem addr_of {w : World} {a : Addr} {v : Value} (h : w.cell? (a.add 0) = some v) : ∃ b o, a = ⟨b, o, none⟩ ∧ b < w.heap.size := by
  rw [show a.add 0 = a from rfl] at h
  obtain ⟨b, o, s⟩ := a
  have hs : s = none := World.cell?_spot h
  subst hs
  exact ⟨b, o, rfl, World.block_lt_of_cell? w _ h⟩
theorem bounds_u64' {a : Int} (h : (Lit.int .u64 a).wf = true) : 0 ≤ a ∧ a < 18446744073709551616 := by
  have := range_u64 (zs := [a]) (fun z hz => by rw [List.mem_singleton.1 hz]; exact h) 0
  have h2 : 0 ≤ a ∧ a ≤ 18446744073709551615 := by simpa using this
  omega
theorem rowE_get {xs : List Ec} {j : Nat} {v : Value} (h : (rowE xs)[j]? = some v) : ∃ x, xs[j / 3]? = some x ∧ x.cs[j % 3]? = some v := by
  have hl : j < xs.length * 3 := by rw [← rowE_len]; exact (List.getElem?_eq_some_iff.1 h).1
  have hx : xs[j / 3]? = some (xs[j / 3]'(by omega)) := List.getElem?_eq_getElem _
  refine ⟨_, hx, ?_⟩
  rw [← rowE_at xs (j / 3) (j % 3) _ hx (by omega), show j / 3 * 3 + j % 3 = j by omega]
  exact h
theorem rowG_len : ∀ xs : List Gc, (rowG xs).length = xs.length * 3
  | [] => rfl
  | x :: r => by
    rw [rowG, List.length_append, rowG_len r, List.length_cons]
    show 3 + _ = _
    omega
theorem rowG_get {xs : List Gc} {j : Nat} {v : Value} (h : (rowG xs)[j]? = some v) : ∃ x, xs[j / 3]? = some x ∧ x.cs[j % 3]? = some v := by
  have hl : j < xs.length * 3 := by rw [← rowG_len]; exact (List.getElem?_eq_some_iff.1 h).1
  have hx : xs[j / 3]? = some (xs[j / 3]'(by omega)) := List.getElem?_eq_getElem _
  refine ⟨_, hx, ?_⟩
  rw [← rowG_at xs (j / 3) (j % 3) _ hx (by omega), show j / 3 * 3 + j % 3 = j by omega]
  exact h

section
variable {H : Type} {enc : TypeId × Value → H} {W : World}

theorem open_bytes {fuel : Nat} {v : Value} {x : DataW H × List MemPlace} (h : DataW.trod enc Try.prog W 0 (fun _ => true) true fuel 52 [v] = some x) :
    ∃ a len cap zs, v = .slice a len cap ∧ By W W.heap.size a len zs ∧ len ≤ cap ∧ (a = none → cap = 0) := by
  rcases open_ints Try.underlying52 Try.underlying5 Try.cells5 h with ⟨hcs, _⟩ | ⟨x, len, c, zs, hcs, _, hl, hm, hz, _, hcell, hwz⟩
  · injection hcs with hcs
    subst hcs
    exact ⟨none, 0, 0, [], rfl, By.none_, Nat.le_refl _, fun _ => rfl⟩
  · injection hcs with hcs
    subst hcs
    have hlz : len ≤ zs.length := by rw [hz]; split <;> omega
    have hbs : Bs zs := fun j => by
      rcases Nat.lt_or_ge j zs.length with hj | hj
      · have := hwz (zs.getD j 0) (by simp [List.getD, hj])
        have := bounds_u8 this
        omega
      · simp [List.getD, List.getElem?_eq_none hj]
    refine ⟨some x, len, c, zs.take len, rfl, ⟨by rw [List.length_take]; omega, hbs.take len, fun hp => ?_⟩, hl, fun e => by cases e⟩
    obtain ⟨b, o, rfl, hb⟩ := addr_of (hcell 0 (by omega))
    refine ⟨b, o, rfl, hb, fun j hj => ?_⟩
    have := hcell j (by omega)
    rw [add_at] at this
    rw [this]
    simp [List.getD, hj]

set_option maxRecDepth 100000 in
theorem open_entry {fuel : Nat} {cs : List Value} {x : DataW H × List MemPlace} (h : DataW.trod enc Try.prog W 0 (fun _ => true) true fuel 54 cs = some x) :
    ∃ e : Ec, cs = e.cs ∧ e.raw W W.heap.size := by
  obtain ⟨y0, y1, y2, n, _, hlen, h0, h1, h2⟩ := trod_struct3 Try.underlying54 h
  rw [Try.cells54] at hlen
  match cs, hlen with
  | [c0, c1, c2], _ =>
    simp only [Try.cells22, Try.cells3, Try.cells52, List.drop_succ_cons, List.drop_zero, List.take_succ_cons, List.take_zero] at h0 h1 h2
    obtain ⟨t, e0, _, w0⟩ := DataW.trod_int Try.underlying22 h0
    obtain ⟨k, e1, _⟩ := DataW.trod_int Try.underlying3 h1
    obtain ⟨A, m, c, zs, rfl, hby, hmc, hnil⟩ := open_bytes h2
    injection e0 with e0
    injection e1 with e1
    subst e0 e1
    have hb := bounds_u64' w0
    exact ⟨⟨t, k, A, m, c, zs⟩, rfl, hby, hmc, hnil, hb.1, hb.2⟩

set_option maxRecDepth 100000 in
theorem open_entries {fuel : Nat} {v : Value} {x : DataW H × List MemPlace} (h : DataW.trod enc Try.prog W 0 (fun _ => true) true fuel 25 [v] = some x) :
    ∃ a len cap xs, v = .slice a len cap ∧ Ein W W.heap.size a len xs ∧ len ≤ cap ∧ (a = none → cap = 0) := by
  rcases open_slice Try.underlying25 h with ⟨hcs, _⟩ | ⟨x, len, c, m, n, D, Pl, hcs, _, hl, hm, hmm, _, hc⟩
  · injection hcs with hcs
    subst hcs
    exact ⟨none, 0, 0, [], rfl, ⟨rfl, fun x hx => (by cases hx), fun hn => absurd hn (by omega)⟩, Nat.le_refl _, fun _ => rfl⟩
  · injection hcs with hcs
    subst hcs
    have hlm : len ≤ m := by rw [hmm]; split <;> omega
    have hex : ∀ i, i < len → ∃ e : Ec, e.raw W W.heap.size ∧ ∀ r, r < 3 → W.cell? ((x.add (i * 3)).add r) = e.cs[r]? := fun i hi => by
      obtain ⟨cs', hc', ht'⟩ := hc i (by omega)
      obtain ⟨e, rfl, he⟩ := open_entry ht'
      obtain ⟨_, _, hat⟩ := World.cells?_some hc'
      rw [Try.cells54] at hat
      exact ⟨e, he, fun r hr => hat r hr⟩
    have : Inhabited Ec := ⟨⟨0, 0, none, 0, 0, []⟩⟩
    obtain ⟨f, hf⟩ := choose_lt hex
    have hget : ∀ i, i < len → ((List.range len).map f)[i]? = some (f i) := fun i hi => by simp [hi]
    refine ⟨some x, len, c, (List.range len).map f, rfl, ⟨by simp, fun e he => ?_, fun hp => ?_⟩, hl, fun e => by cases e⟩
    · obtain ⟨i, hi, rfl⟩ := List.mem_map.1 he
      exact (hf i (by simpa using hi)).1
    · have h00 := (hf 0 hp).2 0 (by omega)
      rw [Nat.zero_mul, show x.add 0 = x from rfl] at h00
      obtain ⟨b, o, rfl, hb⟩ := addr_of (h00.trans (show (f 0).cs[0]? = some (.int .u64 (f 0).t) from rfl))
      refine ⟨b, o, rfl, hb, fun j v hj => ?_⟩
      obtain ⟨e, he1, he2⟩ := rowE_get hj
      have hlj : j / 3 < len := by have := (List.getElem?_eq_some_iff.1 he1).1; simpa using this
      rw [hget _ hlj] at he1
      injection he1 with he1
      subst he1
      have := (hf (j / 3) hlj).2 (j % 3) (by omega)
      rw [add_at, add_at, he2, show o + j / 3 * 3 + j % 3 = o + j by omega] at this
      exact this

set_option maxRecDepth 100000 in
theorem open_log {fuel : Nat} {cs : List Value} {x : DataW H × List MemPlace} (h : DataW.trod enc Try.prog W 0 (fun _ => true) true fuel 27 cs = some x) :
    ∃ g : Gc, cs = g.cs ∧ g.raw W W.heap.size ∧ g.n ≤ g.c ∧ (g.A = none → g.c = 0) := by
  obtain ⟨y0, y1, n, _, hlen, h0, h1⟩ := trod_struct2 Try.underlying27 h
  rw [Try.cells27] at hlen
  match cs, hlen with
  | [c0, c1, c2], _ =>
    simp only [Try.cells24, Try.cells25, List.drop_succ_cons, List.drop_zero, List.take_succ_cons, List.take_zero] at h0 h1
    obtain ⟨z0, z1, n2, _, hlen2, g0, g1⟩ := trod_struct2 Try.underlying24 h0
    simp only [Try.cells22, List.drop_succ_cons, List.drop_zero, List.take_succ_cons, List.take_zero] at g0 g1
    obtain ⟨bi, e0, _, w0⟩ := DataW.trod_int Try.underlying22 g0
    obtain ⟨bt, e1, _, w1⟩ := DataW.trod_int Try.underlying22 g1
    obtain ⟨A, m, c, xs, rfl, hes, hmc, hnil⟩ := open_entries h1
    injection e0 with e0
    injection e1 with e1
    subst e0 e1
    have hb := bounds_u64' w0
    have hb' := bounds_u64' w1
    exact ⟨⟨bi, bt, A, m, c, xs⟩, rfl, ⟨hes, hb.1, hb.2, hb'.1, hb'.2⟩, hmc, hnil⟩

set_option maxRecDepth 100000 in
theorem open_logs {a : Option Addr} {len cap : Nat} {d : DataW H} {p : List MemPlace} (h : DataW.Trod enc Try.prog W 0 (fun _ => true) true 67 (.slice a len cap) d p) : ∃ gs, Gin W W.heap.size a len gs := by
  obtain ⟨fuel, hf⟩ := h
  rcases open_slice Try.underlying67 hf with ⟨hcs, _⟩ | ⟨x, l, c, m, n, D, Pl, hcs, _, hl, hm, hmm, _, hc⟩
  · simp [Value.cells] at hcs
    obtain ⟨rfl, rfl, rfl⟩ := hcs
    exact ⟨[], rfl, fun x hx => (by cases hx), fun hn => absurd hn (by omega)⟩
  · simp [Value.cells] at hcs
    obtain ⟨rfl, rfl, rfl⟩ := hcs
    have hlm : len ≤ m := by rw [hmm]; split <;> omega
    have hex : ∀ i, i < len → ∃ e : Gc, e.raw W W.heap.size ∧ ∀ r, r < 3 → W.cell? ((x.add (i * 3)).add r) = e.cs[r]? := fun i hi => by
      obtain ⟨cs', hc', ht'⟩ := hc i (by omega)
      obtain ⟨e, rfl, he, _⟩ := open_log ht'
      obtain ⟨_, _, hat⟩ := World.cells?_some hc'
      rw [Try.cells27] at hat
      exact ⟨e, he, fun r hr => hat r hr⟩
    have : Inhabited Gc := ⟨⟨0, 0, none, 0, 0, []⟩⟩
    obtain ⟨f, hf⟩ := choose_lt hex
    have hget : ∀ i, i < len → ((List.range len).map f)[i]? = some (f i) := fun i hi => by simp [hi]
    refine ⟨(List.range len).map f, by simp, fun e he => ?_, fun hp => ?_⟩
    · obtain ⟨i, hi, rfl⟩ := List.mem_map.1 he
      exact (hf i (by simpa using hi)).1
    · have h00 := (hf 0 hp).2 0 (by omega)
      rw [Nat.zero_mul, show x.add 0 = x from rfl] at h00
      obtain ⟨b, o, rfl, hb⟩ := addr_of (h00.trans (show (f 0).cs[0]? = some (.int .u64 (f 0).bi) from rfl))
      refine ⟨b, o, rfl, hb, fun j v hj => ?_⟩
      obtain ⟨e, he1, he2⟩ := rowG_get hj
      have hlj : j / 3 < len := by have := (List.getElem?_eq_some_iff.1 he1).1; simpa using this
      rw [hget _ hlj] at he1
      injection he1 with he1
      subst he1
      have := (hf (j / 3) hlj).2 (j % 3) (by omega)
      rw [add_at, add_at, he2, show o + j / 3 * 3 + j % 3 = o + j by omega] at this
      exact this
end

theorem may_law (A : Option Addr) (n c : Nat) (gs : List Gc) (top : Int) (w : World) (h : Gin w w.heap.size A n gs) :
    Calls Try.prog 6 #[.slice A n c, .int .u64 top] w fun e w' => e = .returned (.bool true) ∧ Below w.heap.size w w' := may_walk A n c w.heap.size gs top w h (Nat.le_refl _)

end Go.Proofs.Ytmgaihdepglahaa
