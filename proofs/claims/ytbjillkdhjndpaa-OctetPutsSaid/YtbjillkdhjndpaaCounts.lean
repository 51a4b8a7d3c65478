/-
  append of bytes onto bytes of one's own; counts of parts.
-/
import Derived.Test.YtbjillkdhjndpaaWakes
import Derived.Laws.AppendOwnNone
namespace Go.Proofs.Ytbjillkdhjndpaa
open Go.RowKit

theorem By.zero {w : World} {B n : Nat} {zs : List Int} (h : By w B none n zs) : n = 0 ∧ zs = [] := by
  have : n = 0 := by
    rcases Nat.eq_zero_or_pos n with h0 | h0
    · exact h0
    · obtain ⟨b, o, hA, _⟩ := h.2.2 h0
      cases hA
  subst this
  exact ⟨rfl, List.eq_nil_of_length_eq_zero h.1⟩

theorem By.news {w : World} {B n : Nat} {a : Addr} {zs : List Int} (h : By w B (some a) n zs) : ∀ j u, (zs.map (Value.int .u8))[j]? = some u → w.cell? (a.add j) = some u := by
  intro j u hj
  have hjn : j < n := by
    have := (List.getElem?_eq_some_iff.1 hj).1
    rw [List.length_map, h.1] at this
    exact this
  obtain ⟨b, o, hA, _, hc⟩ := h.2.2 (by omega)
  injection hA with hA
  subst hA
  have e : (⟨b, o, none⟩ : Addr).add j = ⟨b, o + j, none⟩ := by by_cases h0 : j = 0 <;> simp [Addr.add, h0]
  rw [e, hc j hjn, ← hj]
  have := h.1
  simp [List.getD, List.getElem?_eq_getElem (show j < zs.length by omega)]

/-- append of bytes, wherever they lie, onto bytes of one's own. -/
theorem append_by {w : World} {ops : Array Oper} {rest : List Oper} {o : Oper} {a : Act} {Q : Exit → Act → World → Prop} (hgd : o.guard = none) (s x : Operand)
    (ho : o.op = .call { callee := .builtin .append, args := #[s, x], argTypes := #[22, 22] }) (base : Nat) (A : Option Addr) (n c : Nat) (zs : List Int) (hs : a.eval s = .slice A n c) (hown : Own w base A n c zs)
    (B : Nat) (A' : Option Addr) (m d : Nat) (ys : List Int) (hx : a.eval x = .slice A' m d) (hr : By w B A' m ys) (hd : A' = none → d = 0) (hsum : n + m ≤ 140737488355328) (hbase : base ≤ w.heap.size)
    (h : ∀ A2 c2 w', Own w' base A2 (n + m) c2 (zs ++ ys) → w.grownBy w' (Value.slice A n c).ownBlock → wpList Try.prog ops Q rest (a.put o.dst (.slice A2 (n + m) c2)) w') : wpList Try.prog ops Q (o :: rest) a w := by
  obtain ⟨i0, hi, hz0, hz1, hz2⟩ := info_parts Try.info5
  cases A' with
  | none =>
    obtain ⟨rfl, rfl⟩ := hr.zero
    rw [hd rfl] at hx
    refine wpList_append_own_none hgd s x 22 ho base 5 i0 1 Try.underlying22 hi _ n _ hs hown.1 hx ?_
    have := h A c w (by rw [List.append_nil]; exact hown) (World.grownBy.refl _ _)
    exact this
  | some ad =>
    refine wpList_append_own _ hgd s x 22 ho base 5 i0 (.int .u8 0) 1 1 Try.underlying22 hi hz0 hz1 hz2 rfl (by decide) _ n _ hs hown.1 ad m d (ys.map (Value.int .u8)) hx (by rw [List.length_map, hr.1, Nat.mul_one]) hr.news (ints_oneCell _ _) (by unfold maxLen; omega) (by omega) hbase ?_
    intro v' w' hown' hg _
    rw [← List.map_append] at hown'
    obtain ⟨A2, c2, rfl, ho2⟩ := Own.of_row hown' (hown.2.append hr.bs)
    exact h A2 c2 w' ho2 hg

theorem cnt_append (c : Int) (xs ys : List Int) : cnt c (xs ++ ys) = cnt c xs + cnt c ys := by simp [cnt]
def sumTo (zs : List Int) : Nat → Nat
  | 0 => 0
  | k + 1 => sumTo zs k + cnt k zs
theorem filter_step (k : Nat) : ∀ zs : List Int, (zs.filter fun z => decide (z < ((k + 1 : Nat) : Int))).length = (zs.filter fun z => decide (z < (k : Int))).length + cnt k zs
  | [] => rfl
  | z :: zs => by
    have ih := filter_step k zs
    unfold cnt at ih ⊢
    simp only [List.filter_cons]
    rcases Int.lt_trichotomy z k with h | h | h
    · rw [if_pos (by simp; omega), if_pos (by simp; omega), if_neg (by simp; omega)]
      simp only [List.length_cons]
      omega
    · rw [if_pos (by simp; omega), if_neg (by simp; omega), if_pos (by simp; omega)]
      simp only [List.length_cons]
      omega
    · rw [if_neg (by simp; omega), if_neg (by simp; omega), if_neg (by simp; omega)]
      exact ih
theorem sumTo_eq (zs : List Int) (h : ∀ z ∈ zs, 0 ≤ z) : ∀ k, sumTo zs k = (zs.filter fun z => decide (z < (k : Int))).length
  | 0 => by
    rw [List.filter_eq_nil_iff.2 (fun z hz => by have := h z hz; simp; omega)]
    rfl
  | k + 1 => by rw [filter_step, ← sumTo_eq zs h k]; rfl
theorem Bs.mem {zs : List Int} (h : Bs zs) : ∀ z ∈ zs, 0 ≤ z ∧ z ≤ 255 := fun z hz => by
  obtain ⟨j, hj, rfl⟩ := List.mem_iff_getElem.1 hz
  have := h j
  simpa [List.getD, hj] using this
theorem sumTo_all {zs : List Int} (h : Bs zs) : sumTo zs 256 = zs.length := by
  rw [sumTo_eq zs (fun z hz => (h.mem z hz).1), List.filter_eq_self.2 (fun z hz => by have := (h.mem z hz).2; simp; omega)]
theorem sumTo_le {zs : List Int} (h : Bs zs) (k : Nat) : sumTo zs k ≤ zs.length := by
  rw [sumTo_eq zs (fun z hz => (h.mem z hz).1)]
  exact List.length_filter_le _ _

set_option maxRecDepth 100000 in
set_option maxHeartbeats 2000000 in
theorem counts_walk (A : Option Addr) (n c : Nat) (xs : List Int) (A' : Option Addr) (m d : Nat) (ys : List Int) (w : World) (hx : By w w.heap.size A n xs) (hnc : n ≤ c) (hy : By w w.heap.size A' m ys) (hmd : m ≤ d) :
    Calls Try.prog 9 #[.slice A n c, .slice A' m d] w fun e w' => e = .returned (.bool true) ∧ Below w.heap.size w w' := by
  go_enter Try.func9, Try.ntmps9
  go_wp2_with (go_at_call 11; refine (wakes_any _).mono ?_; rintro e w1 ⟨rfl, hB1⟩)
  refine (few_any A n c xs w1 w.heap.size (hx.below hB1) hnc).mono ?_
  rintro e w2 ⟨A2, c2, rfl, ho2, hb2⟩
  have hB2 := hB1.trans (hb2.mono hB1.size)
  have hy2 := hy.below hB2
  clear hx hy hB1
  go_wp2_with fail
  refine (few_any A' m d ys w2 w.heap.size hy2 hmd).mono ?_
  rintro e w3 ⟨A3, c3, rfl, ho3, hb3⟩
  have hB3 := hB2.trans (hb3.mono hB2.size)
  have ho23 := ho2.below hb3
  have bX := ho23.by
  clear hy2 hB2 hb3 hb2 ho2
  generalize xs.take 300 = X at *
  generalize ys.take 300 = Y at *
  have hX3 : min n 300 ≤ 300 := by omega
  have hY3 : min m 300 ≤ 300 := by omega
  generalize min n 300 = N at *
  generalize min m 300 = M at *
  go_wp2_with fail
  refine (few_any A2 N c2 X w3 w3.heap.size bX ho23.cap).mono ?_
  rintro e w4 ⟨A4, c4, rfl, ho4, hb4⟩
  rw [Nat.min_eq_left hX3] at ho4 ⊢
  rw [List.take_of_length_le (by rw [ho23.len]; exact hX3)] at ho4
  have bX4 := bX.below hb4
  have bY4 := ho3.by.below hb4
  have hY0 : A3 = none → c3 = 0 := ho3.nil
  have hB4 := hB3.trans (hb4.mono hB3.size)
  have hs4 := hb4.size
  have hs3 := hB3.size
  clear hB3 hb4 ho3 bX ho23
  go_wp2_with (at_builtin; refine append_by rfl (.tmp 16) (.tmp 17) rfl w3.heap.size A4 N c4 X rfl ho4 w3.heap.size A3 M c3 Y rfl bY4 hY0 (by omega) hs4 ?_; intro A5 c5 w5 ho5 hg5)
  have hlo := ho4.1.lt
  have hB5 : Below w3.heap.size w4 w5 := (Below.refl _ _).grown hg5 hs4 (fun k hk => (hlo k hk).1)
  have bX5 := bX4.below hB5
  have bY5 := bY4.below hB5
  have bZ5 := ho5.by
  have hB5' : Below w.heap.size w w5 := hB4.trans (hB5.mono hs3)
  have hbs := bZ5.bs
  have hlen := Lib.hid bZ5.1
  clear hlo hg5 ho5 ho4 hB5 hB4 bX4 bY4 hY0 hs4 hs3
  have hbs' := Lib.hid hbs
  clear hbs
  go_loop [6, 19] (fun t i => ∃ k : Nat, k ≤ 256 ∧ i = .int .i64 k ∧ t = .int .i64 (sumTo (X ++ Y) k)) (fun _ i => 256 - (intOf i).toNat)
  case atStart => exact ⟨0, Nat.zero_le _, rfl, rfl⟩
  case round =>
    obtain ⟨k, hk, rfl, rfl⟩ := hrel
    have hle := sumTo_le hbs'.out k
    rw [hlen.out] at hle
    by_cases hlt : k < 256
    · have hst := Lib.hid (show sumTo (X ++ Y) (k + 1) = sumTo (X ++ Y) k + cnt k (X ++ Y) from rfl)
      have hap := Lib.hid (cnt_append k X Y)
      have l1 : cnt k X ≤ 300 := Nat.le_trans (cnt_le _ _) (by rw [bX5.1]; exact hX3)
      have l2 : cnt k Y ≤ 300 := Nat.le_trans (cnt_le _ _) (by rw [bY5.1]; exact hY3)
      go_wp2_with fail
      refine (count_any A5 (N + M) c5 (X ++ Y) k w5 _ bZ5 (by omega)).mono ?_
      rintro e w' ⟨rfl, rfl⟩
      rw [hap.out]
      go_wp2_with fail
      refine (count_any A2 N c2 X k w5 _ bX5 (by omega)).mono ?_
      rintro e w' ⟨rfl, rfl⟩
      go_wp2_with fail
      refine (count_any A3 M c3 Y k w5 _ bY5 (by omega)).mono ?_
      rintro e w' ⟨rfl, rfl⟩
      have HS : Hid (sumTo (X ++ Y) (k + 1) = sumTo (X ++ Y) k + (cnt k X + cnt k Y)) := by rw [hst.out, hap.out]; exact rfl
      clear hst hap
      generalize cnt k X = a at *
      generalize cnt k Y = b at *
      go_wp2
      go_round
      case rel => exact ⟨k + 1, by omega, by go_num, by rw [HS.out]; go_num⟩
      case measure => simp [intOf]; omega
    · obtain rfl : k = 256 := by omega
      have HS := Lib.hid (sumTo_all hbs'.out)
      rw [HS.out, hlen.out]
      have e1 : ((N + M : Nat) : Int) = (N : Int) + M := by omega
      rw [e1]
      go_wp2
      go_ret
      exact ⟨rfl, hB5'⟩

end Go.Proofs.Ytbjillkdhjndpaa
