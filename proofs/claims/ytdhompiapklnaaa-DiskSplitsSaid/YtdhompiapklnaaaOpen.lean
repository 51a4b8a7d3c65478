/-
  How the laws' arguments are opened: rows of answers, an Ask, rows of Asks.
-/
import Derived.Test.YtdhompiapklnaaaRows
import Derived.WalkKit
import Derived.ProofKit
import Derived.OpenShut
import Derived.ChangeOld
import Derived.Below
import Derived.Deep.Slices
import Derived.Deep.Grids
import Derived.Lib.SmallJoins
import Derived.Test.YtdhompiapklnaaaLa
namespace Go.Proofs.Ytdhompiapklnaaa
open Go.ChangeShapes Go.WideShapes Go.ChangeAt Go.RowKit Go.Deep Go.Joins

theorem ownOk : ownKnob Try.prog.godebug = none := by kernel_rfl
theorem laidOk : laidOutB Try.prog = true := by kernel_rfl
theorem Try.cells3 : Try.prog.cellsOf 3 = 1 := by kernel_rfl
theorem Try.cells4 : Try.prog.cellsOf 4 = 1 := by kernel_rfl
theorem Try.cells35 : Try.prog.cellsOf 35 = 1 := by kernel_rfl
theorem Try.cells37 : Try.prog.cellsOf 37 = 4 := by kernel_rfl

/-- What an Ask's value is good for. -/
def AskV (w : World) (B : Nat) (n : Int) (A : Option Addr) (nk : Nat) : Prop := n ≤ 9223372036854775807 ∧ ∃ ks : List Bool, nk = ks.length ∧ ks.length ≤ 9223372036854775807 ∧ Bs w B A ks
/-- A slice of n Asks. -/
def Asks (w : World) (B : Nat) (A : Option Addr) (n : Nat) : Prop := 0 < n → ∃ b o, A = some ⟨b, o, none⟩ ∧ b < B ∧ ∀ i, i < n → ∃ kd at_ nn Ak nk c, w.rangeAt b (o + i * 4) [.int .i64 kd, .int .i64 at_, .int .i64 nn, .slice Ak nk c] ∧ AskV w B nn Ak nk
theorem AskV.below {w w' : World} {B : Nat} {n : Int} {A : Option Addr} {nk : Nat} (h : AskV w B n A nk) (hb : Below B w w') : AskV w' B n A nk := by
  obtain ⟨h1, ks, h2, h3, h4⟩ := h
  exact ⟨h1, ks, h2, h3, h4.below hb⟩
theorem Asks.below {w w' : World} {B : Nat} {A : Option Addr} {n : Nat} (h : Asks w B A n) (hb : Below B w w') : Asks w' B A n := fun hn => by
  obtain ⟨b, o, hA, hB, hc⟩ := h hn
  refine ⟨b, o, hA, hB, fun i hi => ?_⟩
  obtain ⟨kd, at_, nn, Ak, nk, c, hr, hv⟩ := hc i hi
  exact ⟨kd, at_, nn, Ak, nk, c, fun j v hj => (hb.cell (p := ⟨b, o + i * 4 + j, none⟩) hB).trans (hr j v hj), hv.below hb⟩

theorem addr_of {w : World} {a : Addr} {v : Value} (h : w.cell? (a.add 0) = some v) : ∃ b o, a = ⟨b, o, none⟩ ∧ b < w.heap.size := by
  rw [show a.add 0 = a from rfl] at h
  obtain ⟨b, o, s⟩ := a
  have hs : s = none := World.cell?_spot h
  subst hs
  exact ⟨b, o, rfl, World.block_lt_of_cell? w _ h⟩
theorem add_at (b o i : Nat) : (⟨b, o, none⟩ : Addr).add i = ⟨b, o + i, none⟩ := by by_cases h0 : i = 0 <;> simp [Addr.add, h0]

section
variable {H : Type} {enc : TypeId × Value → H} {W : World}

theorem open_row {fuel : Nat} {v : Value} {x : DataW H × List MemPlace} (h : DataW.trod enc Try.prog W 0 (fun _ => true) true fuel 35 [v] = some x) : ∃ a ks c, v = .slice a ks.length c ∧ ks.length ≤ c ∧ c ≤ 9223372036854775807 ∧ Bs W W.heap.size a ks := by
  rcases open_bools Try.underlying35 Try.underlying4 Try.cells4 h with ⟨hcs, _⟩ | ⟨a, len, cap, B, hcs, _, hl, hm, _, hc⟩
  · injection hcs with hcs
    subst hcs
    exact ⟨none, [], 0, rfl, Nat.le_refl _, by omega, fun hn => absurd hn (by simp)⟩
  · injection hcs with hcs
    subst hcs
    refine ⟨some a, (List.range len).map B, cap, by simp, by simpa using hl, by unfold maxLen at hm; omega, fun hn => ?_⟩
    have hn' : 0 < len := by simpa using hn
    obtain ⟨b, o, rfl, hb⟩ := addr_of (hc 0 (by omega))
    refine ⟨b, o, rfl, hb, fun j hj => ?_⟩
    have hj' : j < len := by simpa using hj
    have := hc j (by omega)
    rw [add_at] at this
    rw [this]
    simp [List.getD, hj']

set_option maxRecDepth 100000 in
theorem open_ask {fuel : Nat} {cs : List Value} {x : DataW H × List MemPlace} (h : DataW.trod enc Try.prog W 0 (fun _ => true) true fuel 37 cs = some x) : ∃ kd at_ nn Ak nk c, cs = [.int .i64 kd, .int .i64 at_, .int .i64 nn, .slice Ak nk c] ∧ AskV W W.heap.size nn Ak nk := by
  obtain ⟨y0, y1, y2, y3, n, _, hlen, h0, h1, h2, h3⟩ := trod_struct4 Try.underlying37 h
  rw [Try.cells37] at hlen
  match cs, hlen with
  | [c0, c1, c2, c3], _ =>
    simp only [Try.cells3, Try.cells35, List.drop_succ_cons, List.drop_zero, List.take_succ_cons, List.take_zero] at h0 h1 h2 h3
    obtain ⟨kd, e0, _⟩ := DataW.trod_int Try.underlying3 h0
    obtain ⟨at_, e1, _⟩ := DataW.trod_int Try.underlying3 h1
    obtain ⟨nn, e2, _, w2⟩ := DataW.trod_int Try.underlying3 h2
    obtain ⟨Ak, ks, c, e3, _, hc, hbs⟩ := open_row h3
    injection e0 with e0
    injection e1 with e1
    injection e2 with e2
    subst e0 e1 e2 e3
    have hb := bounds_i64 w2
    exact ⟨kd, at_, nn, Ak, ks.length, c, rfl, hb.2, ks, rfl, by omega, hbs⟩

set_option maxRecDepth 100000 in
theorem open_asks {a : Option Addr} {len cap : Nat} {d : DataW H} {p : List MemPlace} (h : DataW.Trod enc Try.prog W 0 (fun _ => true) true 22 (.slice a len cap) d p) : Asks W W.heap.size a len ∧ len ≤ 9223372036854775807 := by
  obtain ⟨fuel, hf⟩ := h
  rcases open_slice Try.underlying22 hf with ⟨hcs, _⟩ | ⟨x, l, c, m, n, D, Pl, hcs, _, hl, hm, hmm, _, hc⟩
  · simp [Value.cells] at hcs
    obtain ⟨rfl, rfl, rfl⟩ := hcs
    exact ⟨fun h => absurd h (by omega), by omega⟩
  · simp [Value.cells] at hcs
    obtain ⟨rfl, rfl, rfl⟩ := hcs
    have hlm : len ≤ m := by rw [hmm]; split <;> omega
    refine ⟨fun hp => ?_, by unfold maxLen at hm; omega⟩
    obtain ⟨cs0, h0, _⟩ := hc 0 (by omega)
    obtain ⟨_, hl0, hat0⟩ := World.cells?_some h0
    rw [Try.cells37] at hl0 hat0
    have h00 := hat0 0 (by omega)
    rw [List.getElem?_eq_getElem (show 0 < cs0.length by omega)] at h00
    rw [Nat.zero_mul, show x.add 0 = x from rfl] at h00
    obtain ⟨b, o, rfl, hb⟩ := addr_of h00
    refine ⟨b, o, rfl, hb, fun i hi => ?_⟩
    obtain ⟨cs', hc', ht'⟩ := hc i (by omega)
    obtain ⟨kd, at_, nn, Ak, nk, ck, rfl, hv⟩ := open_ask ht'
    obtain ⟨_, _, hat⟩ := World.cells?_some hc'
    rw [Try.cells37] at hat
    refine ⟨kd, at_, nn, Ak, nk, ck, fun j v hj => ?_, hv⟩
    have hj4 : j < 4 := by
      have := (List.getElem?_eq_some_iff.1 hj).1
      simpa using this
    have := hat j hj4
    rw [add_at, add_at, hj] at this
    exact this
end

end Go.Proofs.Ytdhompiapklnaaa
