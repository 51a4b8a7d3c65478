/-
  append of bytes onto bytes of one's own; counts of parts.
-/
import Derived.Test.YtndkoefchlclkaaWakes
import Derived.Laws.AppendOwnNone
namespace Go.Proofs.Ytndkoefchlclkaa
open Go.RowKit

theorem By.zero {w : World} {B n : Nat} {zs : List Int} (h : By w B none n zs) : n = 0 ∧ zs = [] := by
  have : n = 0 := by
    rcases Nat.eq_zero_or_pos n with h0 | h0
    · exact h0
    · obtain ⟨b, o, hA, _⟩ := h.2.2 h0
      cases hA
  subst this
  exact ⟨rfl, List.eq_nil_of_length_eq_zero h.1⟩

theorem By.news {w : World} {B n : Nat} {a : Addr} {zs : List Int} (h : By w B (some a) n zs) : ∀ j u, (zs.map (Value.int .u8))[j]? = some u → w.cell? (a.add j) = some u := by
  intro j u hj
  have hjn : j < n := by
    have := (List.getElem?_eq_some_iff.1 hj).1
    rw [List.length_map, h.1] at this
    exact this
  obtain ⟨b, o, hA, _, hc⟩ := h.2.2 (by omega)
  injection hA with hA
  subst hA
  have e : (⟨b, o, none⟩ : Addr).add j = ⟨b, o + j, none⟩ := by by_cases h0 : j = 0 <;> simp [Addr.add, h0]
  rw [e, hc j hjn, ← hj]
  have := h.1
  simp [List.getD, List.getElem?_eq_getElem (show j < zs.length by omega)]

/-- append of bytes, wherever they lie, onto bytes of one's own. -/
theorem append_by {w : World} {ops : Array Oper} {rest : List Oper} {o : Oper} {a : Act} {Q : Exit → Act → World → Prop} (hgd : o.guard = none) (s x : Operand)
    (ho : o.op = .call { callee := .builtin .append, args := #[s, x], argTypes := #[44, 44] }) (base : Nat) (A : Option Addr) (n c : Nat) (zs : List Int) (hs : a.eval s = .slice A n c) (hown : Own w base A n c zs)
    (B : Nat) (A' : Option Addr) (m d : Nat) (ys : List Int) (hx : a.eval x = .slice A' m d) (hr : By w B A' m ys) (hd : A' = none → d = 0) (hsum : n + m ≤ 140737488355328) (hbase : base ≤ w.heap.size)
    (h : ∀ A2 c2 w', Own w' base A2 (n + m) c2 (zs ++ ys) → w.grownBy w' (Value.slice A n c).ownBlock → wpList Try.prog ops Q rest (a.put o.dst (.slice A2 (n + m) c2)) w') : wpList Try.prog ops Q (o :: rest) a w := by
  obtain ⟨i0, hi, hz0, hz1, hz2⟩ := info_parts Try.info5
  cases A' with
  | none =>
    obtain ⟨rfl, rfl⟩ := hr.zero
    rw [hd rfl] at hx
    refine wpList_append_own_none hgd s x 44 ho base 5 i0 1 Try.underlying44 hi _ n _ hs hown.1 hx ?_
    have := h A c w (by rw [List.append_nil]; exact hown) (World.grownBy.refl _ _)
    exact this
  | some ad =>
    refine wpList_append_own _ hgd s x 44 ho base 5 i0 (.int .u8 0) 1 1 Try.underlying44 hi hz0 hz1 hz2 rfl (by decide) _ n _ hs hown.1 ad m d (ys.map (Value.int .u8)) hx (by rw [List.length_map, hr.1, Nat.mul_one]) hr.news (ints_oneCell _ _) (by unfold maxLen; omega) (by omega) hbase ?_
    intro v' w' hown' hg _
    rw [← List.map_append] at hown'
    obtain ⟨A2, c2, rfl, ho2⟩ := Own.of_row hown' (hown.2.append hr.bs)
    exact h A2 c2 w' ho2 hg

theorem cnt_append (c : Int) (xs ys : List Int) : cnt c (xs ++ ys) = cnt c xs + cnt c ys := by simp [cnt]
def sumTo (zs : List Int) : Nat → Nat
  | 0 => 0
  | k + 1 => sumTo zs k + cnt k zs
theorem filter_step (k : Nat) : ∀ zs : List Int, (zs.filter fun z => decide (z < ((k + 1 : Nat) : Int))).length = (zs.filter fun z => decide (z < (k : Int))).length + cnt k zs
  | [] => rfl
  | z :: zs => by
    have ih := filter_step k zs
    unfold cnt at ih ⊢
    simp only [List.filter_cons]
    rcases Int.lt_trichotomy z k with h | h | h
    · rw [if_pos (by simp; omega), if_pos (by simp; omega), if_neg (by simp; omega)]
      simp only [List.length_cons]
      omega
    · rw [if_pos (by simp; omega), if_neg (by simp; omega), if_pos (by simp; omega)]
      simp only [List.length_cons]
      omega
    · rw [if_neg (by simp; omega), if_neg (by simp; omega), if_neg (by simp; omega)]
      exact ih
theorem sumTo_eq (zs : List Int) (h : ∀ z ∈ zs, 0 ≤ z) : ∀ k, sumTo zs k = (zs.filter fun z => decide (z < (k : Int))).length
  | 0 => by
    rw [List.filter_eq_nil_iff.2 (fun z hz => by have := h z hz; simp; omega)]
    rfl
  | k + 1 => by rw [filter_step, ← sumTo_eq zs h k]; rfl
theorem Bs.mem {zs : List Int} (h : Bs zs) : ∀ z ∈ zs, 0 ≤ z ∧ z ≤ 255 := fun z hz => by
  obtain ⟨j, hj, rfl⟩ := List.mem_iff_getElem.1 hz
  have := h j
  simpa [List.getD, hj] using this
theorem sumTo_all {zs : List Int} (h : Bs zs) : sumTo zs 256 = zs.length := by
  rw [sumTo_eq zs (fun z hz => (h.mem z hz).1), List.filter_eq_self.2 (fun z hz => by have := (h.mem z hz).2; simp; omega)]
theorem sumTo_le {zs : List Int} (h : Bs zs) (k : Nat) : sumTo zs k ≤ zs.length := by
  rw [sumTo_eq zs (fun z hz => (h.mem z hz).1)]
  exact List.length_filter_le _ _


end Go.Proofs.Ytndkoefchlclkaa
