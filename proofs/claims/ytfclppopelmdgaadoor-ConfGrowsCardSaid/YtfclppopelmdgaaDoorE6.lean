/-
  Lists of how far, in memory of their own.
-/
import Derived.Test.YtfclppopelmdgaaDoorE5
namespace Go.Proofs.YtfclppopelmdgaaDoor
open Go.RowKit

def mrow : List (Int × Int) → List Value
  | [] => []
  | x :: r => .int .i64 x.1 :: .int .u64 x.2 :: mrow r
theorem mrow_len : ∀ l : List (Int × Int), (mrow l).length = l.length * 2
  | [] => rfl
  | x :: r => by simp only [mrow, List.length_cons, mrow_len r]; omega
theorem mrow_append : ∀ l k : List (Int × Int), mrow (l ++ k) = mrow l ++ mrow k
  | [], _ => rfl
  | x :: r, k => by simp only [List.cons_append, mrow, mrow_append r k]
theorem mrow_one : ∀ l : List (Int × Int), ∀ v ∈ mrow l, v.oneCell' = true
  | [], v, h => by cases h
  | x :: r, v, h => by
    simp only [mrow, List.mem_cons] at h
    rcases h with rfl | rfl | h
    · rfl
    · rfl
    · exact mrow_one r v h
theorem mrow_get : ∀ (l : List (Int × Int)) (k : Nat), k < l.length → (mrow l)[k * 2]? = some (.int .i64 (l.getD k (0, 0)).1) ∧ (mrow l)[k * 2 + 1]? = some (.int .u64 (l.getD k (0, 0)).2)
  | [], k, h => absurd h (by simp)
  | x :: r, 0, _ => ⟨rfl, rfl⟩
  | x :: r, k + 1, h => by
    have := mrow_get r k (by simpa using h)
    rw [show (k + 1) * 2 = k * 2 + 1 + 1 by omega]
    simpa [mrow] using this

theorem Mt.zero {w : World} {B n : Nat} {l : List (Int × Int)} (h : Mt w B none n l) : n = 0 ∧ l = [] := by
  rcases Nat.eq_zero_or_pos n with h0 | h0
  · exact ⟨h0, List.eq_nil_of_length_eq_zero (h.1.trans h0)⟩
  · obtain ⟨b, o, hA, _⟩ := h.2.2 h0
    cases hA
theorem Mt.news {w : World} {B n : Nat} {a : Addr} {l : List (Int × Int)} (h : Mt w B (some a) n l) : ∀ j u, (mrow l)[j]? = some u → w.cell? (a.add j) = some u := fun j u hj => by
  have hjn : j < n * 2 := by
    have := (List.getElem?_eq_some_iff.1 hj).1
    rw [mrow_len, h.1] at this
    exact this
  obtain ⟨b, o, hA, _, hc⟩ := h.2.2 (by omega)
  injection hA with hA
  subst hA
  have e : (⟨b, o, none⟩ : Addr).add j = ⟨b, o + j, none⟩ := by by_cases h0 : j = 0 <;> simp [Addr.add, h0]
  rw [e, ← hj]
  have hg := mrow_get l (j / 2) (by have := h.1; omega)
  rcases (show j = j / 2 * 2 ∨ j = j / 2 * 2 + 1 by omega) with he | he
  · rw [he]
    have := (hc (j / 2) (by omega)).1
    rw [this]
    exact hg.1.symm
  · rw [he, ← Nat.add_assoc]
    have := (hc (j / 2) (by omega)).2
    rw [this]
    exact hg.2.symm
theorem Mt.take {w : World} {B n : Nat} {A : Option Addr} {l : List (Int × Int)} (h : Mt w B A n l) {m : Nat} (hm : m ≤ n) : Mt w B A m (l.take m) := by
  have hg : ∀ j, j < m → (l.take m).getD j (0, 0) = l.getD j (0, 0) := fun j hj => by simp [List.getD, List.getElem?_take, hj]
  refine ⟨by rw [List.length_take, h.1]; omega, fun j => ?_, fun hp => ?_⟩
  · by_cases hj : j < m
    · rw [hg j hj]; exact h.2.1 j
    · simp [List.getD, List.getElem?_eq_none (show (l.take m).length ≤ j by rw [List.length_take]; omega)]
  · obtain ⟨b, o, hA, hb, hc⟩ := h.2.2 (by omega)
    exact ⟨b, o, hA, hb, fun j hj => by rw [hg j hj]; exact hc j (by omega)⟩
/-- Bounds of such a list. -/
def Mbd (l : List (Int × Int)) : Prop := ∀ j, 0 ≤ (l.getD j (0, 0)).2 ∧ (l.getD j (0, 0)).2 ≤ 18446744073709551615
theorem Mbd.app {l k : List (Int × Int)} (h : Mbd l) (h' : Mbd k) : Mbd (l ++ k) := fun j => by
  by_cases hj : j < l.length
  · rw [List.getD_eq_getElem?_getD, List.getElem?_append_left hj, ← List.getD_eq_getElem?_getD]; exact h j
  · rw [List.getD_eq_getElem?_getD, List.getElem?_append_right (by omega), ← List.getD_eq_getElem?_getD]; exact h' _
theorem Mbd.nil : Mbd [] := fun j => by simp
/-- The slice owns its pairs. -/
def Mos (w : World) (base : Nat) (A : Option Addr) (n c : Nat) (l : List (Int × Int)) : Prop := w.ownsRow base 59 2 (.slice A n c) n (mrow l) ∧ Mbd l
section
variable {w w' : World} {base base' n c : Nat} {A : Option Addr} {l : List (Int × Int)}
theorem Mos.below (h : Mos w base A n c l) (hb : Below w.heap.size w w') : Mos w' base A n c l := ⟨World.ownsRow.below h.1 hb, h.2⟩
theorem Mos.down (h : Mos w base A n c l) (hb : base' ≤ base) : Mos w base' A n c l := ⟨World.ownsRow.down h.1 hb, h.2⟩
theorem Mos.mt (h : Mos w base A n c l) : Mt w w.heap.size A n l ∧ n ≤ c ∧ (A = none → c = 0) := by
  have hl : l.length = n := by have := h.1.1; rw [mrow_len] at this; omega
  rcases h.1.2 with ⟨hv, hn⟩ | ⟨g, cap, cur, hv, hb, hh, hnc, _, _, ht⟩
  · injection hv with h1 h2 h3
    exact ⟨⟨hl, h.2, fun hp => by omega⟩, by omega, fun _ => h3⟩
  · injection hv with h1 h2 h3
    refine ⟨⟨hl, h.2, fun hp => ⟨g, 0, h1, Blk.lt (t := 59) hh, fun j hj => ?_⟩⟩, by omega, fun e => by rw [h1] at e; cases e⟩
    have hr := h.1
    subst h1
    have hg := mrow_get l j (by omega)
    rw [Nat.zero_add, World.ownsRow.cellAt hr (j * 2) (by omega), World.ownsRow.cellAt hr (j * 2 + 1) (by omega)]
    exact hg
theorem Mos.setFar (h : Mos w base A n c l) {p : Addr} (hp : p.block < base) (u : Value) : Mos (w.setCell p u) base A n c l := by
  refine ⟨⟨h.1.1, ?_⟩, h.2⟩
  rcases h.1.2 with hv | ⟨g, cap, cur, hv, hbs, hh, r⟩
  · exact .inl hv
  · exact .inr ⟨g, cap, cur, hv, hbs, (Below.heap_setCell _ _ _ _ (by omega)).trans hh, r⟩
theorem Mos.made (w : World) : Mos (w.alloc (.cells #[] 59)) w.heap.size (some ⟨w.heap.size, 0, none⟩) 0 0 [] := ⟨World.ownsRow_made w #[] 0 (Nat.le_refl _) (Nat.zero_le _) rfl, Mbd.nil⟩
theorem Mos.none_ (w : World) (base : Nat) : Mos w base none 0 0 [] := ⟨World.ownsRow_nil _ _ _ _, Mbd.nil⟩
end
theorem mos_of_row {w : World} {base n : Nat} {v : Value} {l : List (Int × Int)} (h : w.ownsRow base 59 2 v n (mrow l)) (hb : Mbd l) : ∃ A c, v = .slice A n c ∧ Mos w base A n c l := by
  rcases h.2 with ⟨rfl, rfl⟩ | ⟨g, cap, cur, rfl, r⟩
  · exact ⟨_, _, rfl, h, hb⟩
  · exact ⟨_, _, rfl, h, hb⟩
theorem Tryd.info59 : (Tryd.prog.info? 59).map (fun i => (i.zero, i.size, i.bytes)) = some (some (.agg #[.int .i64 0, .int .u64 0]), 2, 16) := by kernel_rfl
/-- append of pairs, wherever they lie, onto pairs of one's own. -/
theorem append_mt {w : World} {ops : Array Oper} {rest : List Oper} {o : Oper} {a : Act} {Q : Exit → Act → World → Prop} (hgd : o.guard = none) (s x : Operand)
    (ho : o.op = .call { callee := .builtin .append, args := #[s, x], argTypes := #[37, 37] }) (base : Nat) (A : Option Addr) (n c : Nat) (zs : List (Int × Int)) (hs : a.eval s = .slice A n c) (hown : Mos w base A n c zs)
    (B : Nat) (A' : Option Addr) (m d : Nat) (ys : List (Int × Int)) (hx : a.eval x = .slice A' m d) (hr : Mt w B A' m ys) (hd : A' = none → d = 0) (hsum : n + m ≤ 1000000) (hbase : base ≤ w.heap.size)
    (h : ∀ A2 c2 w', Mos w' base A2 (n + m) c2 (zs ++ ys) → w.grownBy w' (Value.slice A n c).ownBlock → wpList Tryd.prog ops Q rest (a.put o.dst (.slice A2 (n + m) c2)) w') : wpList Tryd.prog ops Q (o :: rest) a w := by
  obtain ⟨i0, hi, hz0, hz1, hz2⟩ := info_parts Tryd.info59
  cases A' with
  | none =>
    obtain ⟨rfl, rfl⟩ := hr.zero
    rw [hd rfl] at hx
    refine wpList_append_own_none hgd s x 37 ho base 59 i0 2 Tryd.underlying37 hi _ n _ hs hown.1 hx ?_
    have := h A c w (by rw [List.append_nil]; exact hown) (World.grownBy.refl _ _)
    exact this
  | some ad =>
    refine wpList_append_own _ hgd s x 37 ho base 59 i0 _ 2 16 Tryd.underlying37 hi hz0 hz1 hz2 rfl (by decide) _ n _ hs hown.1 ad m d (mrow ys) hx (by rw [mrow_len, hr.1]) hr.news (mrow_one _) (by unfold maxLen; omega) (by omega) hbase ?_
    intro v' w' hown' hg _
    rw [← mrow_append] at hown'
    obtain ⟨A2, c2, rfl, ho2⟩ := mos_of_row hown' (hown.2.app hr.2.1)
    exact h A2 c2 w' ho2 hg
end Go.Proofs.YtfclppopelmdgaaDoor
