/-
  What the program tells of spots is what the document tells, of a log that may be; places as a law's argument.
-/
import Derived.Test.YtmgaihdepglahaaQD
import Derived.Test.YtmgaihdepglahaaN14
import Derived.Test.YtmgaihdepglahaaN6
import Derived.Test.YtmgaihdepglahaaOpen
namespace Go.Proofs.Ytmgaihdepglahaa
open Go.ChangeShapes Go.WideShapes Go.ChangeAt Go.RowKit Go.Deep

theorem ahead_num {l : Lg} (hr : right l = true) (h0 : 0 ≤ l.bi) {i : Int} (hi : 0 ≤ i) (hi' : i < 18446744073709551616) : l.ahead i = l.num (subw i) := by
  by_cases hz : i = 0
  · subst hz
    have : subw 0 = 18446744073709551615 := by decide
    rw [this, num_top hr h0]
    rfl
  · rw [subw_pos (by omega) hi']
    exact if_neg hz
theorem term_doc {l : Lg} (hr : right l = true) (i : Int) : (rTerm l i).1 = spotT l i ∧ (rTerm l i).2 = (spotE l i == 0) := by
  unfold rTerm spotT
  rw [spotE_right hr]
  cases l.num i with
  | none => exact ⟨rfl, rfl⟩
  | some k => exact ⟨rfl, rfl⟩
theorem from_doc {l : Lg} (hr : right l = true) (h0 : 0 ≤ l.bi) {i : Int} (hi : 0 ≤ i) (hi' : i < 18446744073709551616) (q : Int) :
    rFromE l i q = fromE l i q ∧ rFromI l i q = fromI l i q ∧ rFromT l i q = fromT l i q ∧ rFromL l i q = fromL l i q := by
  have ha := ahead_num hr h0 hi hi'
  have hE : spotE l (subw i) = if (l.num (subw i)).isSome then 0 else 4 := spotE_right hr _
  cases hq : l.num (subw i) with
  | none =>
    rw [hq] at ha hE
    have e1 : fromE l i q = 4 := by unfold fromE; rw [hE]; rfl
    obtain ⟨a, b, c⟩ := from_bad (l := l) (i := i) (n := q) (by rw [e1]; decide)
    have e2 : rFromE l i q = 4 := by unfold rFromE; rw [ha]; rfl
    unfold rFromI rFromT rFromL
    rw [e2, e1, a, b, c]
    exact ⟨rfl, rfl, rfl, rfl⟩
  | some k =>
    rw [hq] at ha hE
    have hE0 : spotE l (subw i) = 0 := hE
    have hi0 : i ≠ 0 := fun e => by
      subst e
      have : subw 0 = 18446744073709551615 := by decide
      rw [this, num_top hr h0] at hq
      cases hq
    by_cases hn : q < 0
    · have e1 : fromE l i q = 2 := by unfold fromE; rw [hE0, if_neg (by simp), if_pos hn]
      obtain ⟨a, b, c⟩ := from_bad (l := l) (i := i) (n := q) (by rw [e1]; decide)
      have e2 : rFromE l i q = 2 := by unfold rFromE; rw [ha, if_neg (by simp), if_pos hn]
      unfold rFromI rFromT rFromL
      rw [e2, e1, a, b, c]
      exact ⟨rfl, rfl, rfl, rfl⟩
    · have e1 : fromE l i q = 0 := by unfold fromE; rw [hE0, if_neg (by simp), if_neg hn]
      obtain ⟨a, b, c⟩ := from_ok (l := l) (i := i) (n := q) e1
      have e2 : rFromE l i q = 0 := by unfold rFromE; rw [ha, if_neg (by simp), if_neg hn]
      unfold rFromI rFromT rFromL
      rw [e2, e1, a, b, c, ha]
      refine ⟨rfl, (subw_pos (by omega) hi').symm, ?_, ?_⟩
      · unfold spotT
        rw [hE0, hq]
      · unfold spotN
        rw [hE0, hq]
        rfl
theorem conf_doc {l : Lg} (hr : right l = true) (i : Int) : rConfI l i = pConfI l i ∧ rConfD l i = pConfD l i ∧ rConfB l i = pConfB l i := by
  unfold pConfI pConfD pConfB
  rw [if_pos hr, if_pos hr, if_pos hr]
  exact ⟨rfl, rfl, rfl⟩
theorem has_doc {l : Lg} (hr : right l = true) (i t : Int) : rHas l i t = hasB l i t := by unfold hasB; rw [hr]; rfl
theorem last_doc {l : Lg} (hr : right l = true) : pLastI l = l.lastI ∧ pLastT l = l.lastT := ⟨if_pos hr, if_pos hr⟩
theorem tells_not {l : Lg} (hr : right l = false) (i t q : Int) : spotT l i = 0 ∧ (spotE l i == 0) = false ∧ fromE l i q = 160 ∧ fromI l i q = 0 ∧ fromT l i q = 0 ∧ fromL l i q = [] ∧ pConfI l i = 0 ∧ pConfD l i = [] ∧ pConfB l i = false ∧ hasB l i t = false ∧ pLastI l = 0 ∧ pLastT l = 0 := by
  have e1 : fromE l i q = 160 := by unfold fromE; rw [spotE_not hr]; rfl
  obtain ⟨a, b, c⟩ := from_bad (l := l) (i := i) (n := q) (by rw [e1]; decide)
  have hn : ¬ right l = true := by rw [hr]; decide
  refine ⟨by unfold spotT; rw [spotE_not hr]; rfl, by rw [spotE_not hr]; rfl, e1, a, b, c, if_neg hn, if_neg hn, if_neg hn, by unfold hasB; rw [hr]; rfl, if_neg hn, if_neg hn⟩

/-- Places that are told of. -/
def Pts (w : World) (B : Nat) (A : Option Addr) (n : Nat) : Prop :=
  0 < n → ∃ b o, A = some ⟨b, o, none⟩ ∧ b < B ∧ ∀ j, j < n → ∃ i t : Int, (0 ≤ i ∧ i < 18446744073709551616) ∧ (0 ≤ t ∧ t < 18446744073709551616) ∧ w.cell? ⟨b, o + j * 2, none⟩ = some (.int .u64 i) ∧ w.cell? ⟨b, o + j * 2 + 1, none⟩ = some (.int .u64 t)
theorem Pts.at_ {w w' : World} {B n j : Nat} {A : Option Addr} (h : Pts w B A n) (hj : j < n) (hb : Below B w w') :
    ∃ b o i t, A = some ⟨b, o, none⟩ ∧ b < B ∧ (0 ≤ i ∧ i < 18446744073709551616) ∧ (0 ≤ t ∧ t < 18446744073709551616) ∧ w'.cell? ⟨b, o + j * 2, none⟩ = some (.int .u64 i) ∧ w'.cell? ⟨b, o + j * 2 + 1, none⟩ = some (.int .u64 t) := by
  obtain ⟨b, o, rfl, hbB, hc⟩ := h (by omega)
  obtain ⟨i, t, hi, ht, c0, c1⟩ := hc j hj
  exact ⟨b, o, i, t, rfl, hbB, hi, ht, (hb.cell (p := ⟨b, o + j * 2, none⟩) hbB).trans c0, (hb.cell (p := ⟨b, o + j * 2 + 1, none⟩) hbB).trans c1⟩

section
variable {H : Type} {enc : TypeId × Value → H} {W : World}
set_option maxRecDepth 100000 in
theorem open_spot {fuel : Nat} {cs : List Value} {x : DataW H × List MemPlace} (h : DataW.trod enc Try.prog W 0 (fun _ => true) true fuel 24 cs = some x) :
    ∃ i t : Int, cs = [.int .u64 i, .int .u64 t] ∧ (0 ≤ i ∧ i < 18446744073709551616) ∧ (0 ≤ t ∧ t < 18446744073709551616) := by
  obtain ⟨z0, z1, n2, _, hlen2, g0, g1⟩ := trod_struct2 Try.underlying24 h
  rw [Try.cells24] at hlen2
  match cs, hlen2 with
  | [c0, c1], _ =>
    simp only [Try.cells22, List.drop_succ_cons, List.drop_zero, List.take_succ_cons, List.take_zero] at g0 g1
    obtain ⟨bi, e0, _, w0⟩ := DataW.trod_int Try.underlying22 g0
    obtain ⟨bt, e1, _, w1⟩ := DataW.trod_int Try.underlying22 g1
    injection e0 with e0
    injection e1 with e1
    subst e0 e1
    exact ⟨bi, bt, rfl, bounds_u64' w0, bounds_u64' w1⟩
set_option maxRecDepth 100000 in
theorem open_pts {a : Option Addr} {len cap : Nat} {d : DataW H} {p : List MemPlace} (h : DataW.Trod enc Try.prog W 0 (fun _ => true) true 56 (.slice a len cap) d p) : ∃ _u : Unit, Pts W W.heap.size a len := by
  obtain ⟨fuel, hf⟩ := h
  refine ⟨(), fun hp => ?_⟩
  rcases open_slice Try.underlying56 hf with ⟨hcs, _⟩ | ⟨x, l, c, m, n, D, Pl, hcs, _, hl, hm, hmm, _, hc⟩
  · simp [Value.cells] at hcs
    obtain ⟨rfl, rfl, rfl⟩ := hcs
    omega
  · simp [Value.cells] at hcs
    obtain ⟨rfl, rfl, rfl⟩ := hcs
    have hlm : len ≤ m := by rw [hmm]; split <;> omega
    have hex : ∀ j, j < len → ∃ i t : Int, (0 ≤ i ∧ i < 18446744073709551616) ∧ (0 ≤ t ∧ t < 18446744073709551616) ∧ W.cell? ((x.add (j * 2)).add 0) = some (.int .u64 i) ∧ W.cell? ((x.add (j * 2)).add 1) = some (.int .u64 t) := fun j hj => by
      obtain ⟨cs', hc', ht'⟩ := hc j (by omega)
      obtain ⟨i, t, rfl, hi, ht⟩ := open_spot ht'
      obtain ⟨_, _, hat⟩ := World.cells?_some hc'
      rw [Try.cells24] at hat
      exact ⟨i, t, hi, ht, hat 0 (by omega), hat 1 (by omega)⟩
    obtain ⟨i0, t0, _, _, h00, _⟩ := hex 0 hp
    rw [Nat.zero_mul, show x.add 0 = x from rfl] at h00
    obtain ⟨b, o, rfl, hb⟩ := addr_of h00
    refine ⟨b, o, rfl, hb, fun j hj => ?_⟩
    obtain ⟨i, t, hi, ht, c0, c1⟩ := hex j hj
    rw [add_at, add_at] at c0 c1
    exact ⟨i, t, hi, ht, c0, c1⟩
end

end Go.Proofs.Ytmgaihdepglahaa
