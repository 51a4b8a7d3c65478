/-
  What the laws go through: part, few; slices.Index, Contains.
-/
import Derived.Test.YtfclppopelmdgaaDoorC8
namespace Go.Proofs.YtfclppopelmdgaaDoor
open Go.RowKit
attribute [local go_sem ↓] field27

theorem Is.news {w : World} {B n : Nat} {a : Addr} {xs : List Int} (h : Is w B (some a) n xs) : ∀ j u, (xs.map (Value.int .i64))[j]? = some u → w.cell? (a.add j) = some u := fun j u hj => by
  have hjn : j < n := by
    have := (List.getElem?_eq_some_iff.1 hj).1
    rw [List.length_map, h.1] at this
    exact this
  obtain ⟨b, o, hA, _, hc⟩ := h.2 (by omega)
  injection hA with hA
  subst hA
  have e : (⟨b, o, none⟩ : Addr).add j = ⟨b, o + j, none⟩ := by by_cases h0 : j = 0 <;> simp [Addr.add, h0]
  rw [e, hc j hjn, ← hj]
  have := h.1
  simp [List.getD, List.getElem?_eq_getElem (show j < xs.length by omega)]
theorem Is.zero {w : World} {B n : Nat} {xs : List Int} (h : Is w B none n xs) : n = 0 ∧ xs = [] := by
  rcases Nat.eq_zero_or_pos n with h0 | h0
  · exact ⟨h0, List.eq_nil_of_length_eq_zero (h.1.trans h0)⟩
  · obtain ⟨b, o, hA, _⟩ := h.2 h0
    cases hA
theorem Ios.of_row {w : World} {base n : Nat} {v : Value} {xs : List Int} (h : w.ownsRow base 3 1 v n (xs.map (Value.int .i64))) : ∃ A c, v = .slice A n c ∧ Ios w base A n c xs := by
  rcases h.2 with ⟨rfl, rfl⟩ | ⟨g, cap, cur, rfl, r⟩
  · exact ⟨_, _, rfl, h⟩
  · exact ⟨_, _, rfl, h⟩
theorem int_cells (l : List Int) : ∀ v ∈ l.map (Value.int .i64), v.oneCell' = true := fun v hv => by
  obtain ⟨x, _, rfl⟩ := List.mem_map.1 hv
  rfl
/-- append of ints, wherever they lie, onto ints of one's own. -/
theorem append_is {w : World} {ops : Array Oper} {rest : List Oper} {o : Oper} {a : Act} {Q : Exit → Act → World → Prop} (hgd : o.guard = none) (s x : Operand)
    (ho : o.op = .call { callee := .builtin .append, args := #[s, x], argTypes := #[23, 23] }) (base : Nat) (A : Option Addr) (n c : Nat) (zs : List Int) (hs : a.eval s = .slice A n c) (hown : Ios w base A n c zs)
    (B : Nat) (A' : Option Addr) (m d : Nat) (ys : List Int) (hx : a.eval x = .slice A' m d) (hr : Is w B A' m ys) (hd : A' = none → d = 0) (hsum : n + m ≤ 1000000) (hbase : base ≤ w.heap.size)
    (h : ∀ A2 c2 w', Ios w' base A2 (n + m) c2 (zs ++ ys) → w.grownBy w' (Value.slice A n c).ownBlock → wpList Tryd.prog ops Q rest (a.put o.dst (.slice A2 (n + m) c2)) w') : wpList Tryd.prog ops Q (o :: rest) a w := by
  obtain ⟨i0, hi, hz0, hz1, hz2⟩ := info_parts Tryd.info3
  cases A' with
  | none =>
    obtain ⟨rfl, rfl⟩ := hr.zero
    rw [hd rfl] at hx
    refine wpList_append_own_none hgd s x 23 ho base 3 i0 1 Tryd.underlying23 hi _ n _ hs hown hx ?_
    have := h A c w (by rw [List.append_nil]; exact hown) (World.grownBy.refl _ _)
    exact this
  | some ad =>
    refine wpList_append_own _ hgd s x 23 ho base 3 i0 (.int .i64 0) 1 8 Tryd.underlying23 hi hz0 hz1 hz2 rfl (by decide) _ n _ hs hown ad m d (ys.map (Value.int .i64)) hx (by rw [List.length_map, hr.1, Nat.mul_one]) hr.news (int_cells _) (by unfold maxLen; omega) (by omega) hbase ?_
    intro v' w' hown' hg _
    rw [← List.map_append] at hown'
    obtain ⟨A2, c2, rfl, ho2⟩ := Ios.of_row hown'
    exact h A2 c2 w' ho2 hg

/-- What the laws go through of a row of numbers: in memory of its own. -/
def Prt (w : World) (xs : List Int) (e : Ending) (w' : World) : Prop := ∃ A n c, e = .returned (.slice A n c) ∧ Ios w' w.heap.size A n c (xs.take 30) ∧ n ≤ 30 ∧ Below w.heap.size w w'

set_option maxHeartbeats 1000000 in
theorem part_any (A : Option Addr) (n c B : Nat) (xs : List Int) (w : World) (h : Is w B A n xs) (hnc : n ≤ c) (hnil : A = none → c = 0) (hcm : c ≤ 9223372036854775807) (hB : B ≤ w.heap.size) :
    Calls Tryd.prog 11 #[.slice A n c] w (Prt w xs) := by
  have hn63 : (n : Int) ≤ 9223372036854775807 := by omega
  have OE : Hid (Ios (w.alloc (.cells #[] 3)) w.heap.size (some ⟨w.heap.size, 0, none⟩) 0 0 []) := Lib.hid (World.ownsRow_made w #[] 0 (Nat.le_refl _) (Nat.zero_le _) rfl)
  cases A with
  | none =>
    obtain ⟨rfl, rfl⟩ := h.zero
    obtain rfl := hnil rfl
    clear h hnil
    go_enter Tryd.func11, Tryd.ntmps11
    go_wp2
    go_ret
    exact ⟨_, 0, 0, rfl, OE.out, by omega, (Below.refl _ w).alloc (Nat.le_refl _) _⟩
  | some a =>
    obtain ⟨m, hm⟩ : ∃ m : Nat, (min (n : Int) 30).toNat = m := ⟨_, rfl⟩
    have hm1 : m ≤ n := by omega
    have hm2 : m ≤ 30 := by omega
    have hr := Lib.hid ((h.take hm1).below (w' := w.alloc (.cells #[] 3)) ((Below.refl _ _).alloc hB _))
    have ht : Hid (xs.take m = xs.take 30) := Lib.hid (by
      by_cases hk : n ≤ 30
      · have : m = n := by omega
        rw [this, List.take_of_length_le (by rw [h.1]; omega), List.take_of_length_le (by rw [h.1]; omega)]
      · have : m = 30 := by omega
        rw [this])
    clear h hnil
    go_enter Tryd.func11, Tryd.ntmps11
    go_wp2_with (at_builtin; refine append_is rfl (.tmp 3) (.tmp 8) rfl w.heap.size (some ⟨w.heap.size, 0, none⟩) 0 0 [] rfl OE.out B (some a) m c (xs.take m) rfl hr.out (fun e => by cases e) (by omega) (by simp) ?_; intro A2 c2 w2 ho2 hg2)
    go_ret
    rw [Nat.zero_add] at ho2
    rw [List.nil_append, ht.out] at ho2
    exact ⟨A2, m, c2, rfl, ho2, hm2, ((Below.refl _ w).alloc (Nat.le_refl _) _).grown hg2 (by simp) (by intro k hk; simp [Value.ownBlock] at hk; omega)⟩

def Few (w : World) (xs : List Int) (e : Ending) (w' : World) : Prop := ∃ A n c, e = .returned (.agg #[.slice A n c]) ∧ Ios w' w.heap.size A n c (xs.take 30) ∧ n ≤ 30 ∧ Below w.heap.size w w'
theorem Ios.setFar {w : World} {base n c : Nat} {A : Option Addr} {xs : List Int} (h : Ios w base A n c xs) {p : Addr} (hp : p.block < base) (u : Value) : Ios (w.setCell p u) base A n c xs := by
  refine ⟨h.1, ?_⟩
  rcases h.2 with hv | ⟨g, cap, cur, hv, hbs, hh, r⟩
  · exact .inl hv
  · exact .inr ⟨g, cap, cur, hv, hbs, (Below.heap_setCell _ _ _ _ (by omega)).trans hh, r⟩
theorem Ios.onlyFar {w w' : World} {base n c g : Nat} {A : Option Addr} {xs : List Int} (h : Ios w base A n c xs) (ho : Only g w w') (hg : g < base) : Ios w' base A n c xs := by
  refine ⟨h.1, ?_⟩
  rcases h.2 with hv | ⟨g', cap, cur, hv, hbs, hh, r⟩
  · exact .inl hv
  · exact .inr ⟨g', cap, cur, hv, hbs, (ho.block g' (by omega)).trans hh, r⟩
set_option maxHeartbeats 1000000 in
theorem few_any (A : Option Addr) (n c B : Nat) (xs : List Int) (w : World) (h : Is w B A n xs) (hnc : n ≤ c) (hnil : A = none → c = 0) (hcm : c ≤ 9223372036854775807) (hB : B ≤ w.heap.size) :
    Calls Tryd.prog 12 #[.agg #[.slice A n c]] w (Few w xs) := by
  have HB1 : Hid (Below w.heap.size w ((w.alloc (.cells #[.slice A n c] 27)).alloc (.cells #[.slice none 0 0] 27))) := Lib.hid (((Below.refl _ _).alloc (Nat.le_refl _) _).alloc (by simp) _)
  have B1 : Hid (Blk ((w.alloc (.cells #[.slice A n c] 27)).alloc (.cells #[.slice none 0 0] 27)) (w.heap.size + 1) 27 #[.slice none 0 0]) := Lib.hid (Blk.fresh (by simp))
  have PA := Lib.hid (fun W (hW : Below w.heap.size w W) => part_any A n c B xs W (h.below (hW.mono hB)) hnc hnil hcm (Nat.le_trans hB hW.size))
  clear h hnil
  go_enter Tryd.func12, Tryd.ntmps12
  go_wp2_with (go_at_call 11; refine (PA.out _ HB1.out).mono ?_; rintro e w2 ⟨A2, n2, c2, rfl, ho2, hn2, hb2⟩; have B2 := Lib.hid (B1.out.below hb2 B1.out.lt); have HB2 := Lib.hid (HB1.out.trans (hb2.mono HB1.out.size)); have d0 : w2.cell? ⟨w.heap.size + 1, 0, none⟩ = some (.slice none 0 0) := B2.out.cell 0; have f0 : w2.frozen? ⟨w.heap.size + 1, 0, none⟩ = false := B2.out.frozen 0; have O2 := Lib.hid ho2; have N2 := Lib.hid hn2; clear hb2 ho2 hn2)
  exact bodyPost_ret (ret27 rfl _ _ (w.heap.size + 1) _ rfl (B2.out.set_ 0 _)) rfl ⟨A2, n2, c2, rfl, (O2.out.setFar (p := ⟨w.heap.size + 1, 0, none⟩) B1.out.lt _).down HB1.out.size, N2.out, HB2.out.setCell (p := ⟨w.heap.size + 1, 0, none⟩) (by simp) _⟩

theorem contains_take {xs : List Int} {k : Nat} (h : k < xs.length) (m : Int) (hn : (xs.take k).contains m = false) (hm : xs.getD k 0 ≠ m) : (xs.take (k + 1)).contains m = false := by
  rw [List.take_succ_eq_append_getElem h]
  have e : xs.getD k 0 = xs[k] := by simp [List.getD, h]
  rw [e] at hm
  rw [Bool.eq_false_iff] at hn ⊢
  intro hc
  rw [List.contains_iff_mem, List.mem_append, List.mem_singleton] at hc
  rcases hc with hc | hc
  · exact hn (List.contains_iff_mem.2 hc)
  · exact hm hc.symm
set_option maxHeartbeats 1000000 in
theorem index_any (A : Option Addr) (n c B : Nat) (xs : List Int) (m : Int) (w : World) (h : Is w B A n xs) (hn : n ≤ 1000000) :
    Calls Tryd.prog 51 #[.slice A n c, .int .i64 m] w fun e w' => (∃ z : Int, e = .returned (.int .i64 z) ∧ decide (0 ≤ z) = xs.contains m) ∧ w = w' := by
  have HL := Lib.hid h.1
  have H := Lib.hid h.2
  clear h
  go_enter Tryd.func51, Tryd.ntmps51
  go_wp2
  go_loopw [8] (fun i wr => ∃ k : Nat, k ≤ n ∧ i = .int .i64 k ∧ Hid ((xs.take k).contains m = false) ∧ wr = w) (fun i _ => n - (intOf i).toNat)
  case atStart => exact ⟨0, Nat.zero_le _, rfl, rfl, rfl⟩
  case round =>
    obtain ⟨k, hk, rfl, hz, rfl⟩ := hrel
    by_cases hlt : k < n
    · obtain ⟨b, o, rfl, hb, hc⟩ := H.out (by omega)
      have c1 := hc k hlt
      have k0 : (0 : Int) ≤ (k : Int) := by omega
      clear hc
      by_cases he : xs.getD k 0 = m
      · have HC : Hid (xs.contains m = true) := Lib.hid (by
          rw [List.contains_iff_mem, ← he]
          have hl := HL.out
          have e : xs.getD k 0 = xs[k]'(by omega) := by simp [List.getD, show k < xs.length by omega]
          rw [e]
          exact List.getElem_mem _)
        have hq : (m == m) = true := by simp
        rw [he] at c1
        clear he
        go_wp2
        go_ret
        exact ⟨⟨_, rfl, by rw [HC.out]; simp⟩, rfl⟩
      · have HT := Lib.hid (contains_take (by rw [HL.out]; exact hlt) m hz.out he)
        have hq : (m == xs.getD k 0) = false := by simpa using fun e => he (Eq.symm e)
        generalize xs.getD k 0 = z at *
        clear he
        go_wp2
        go_roundw
        case rel => exact ⟨k + 1, by omega, by go_num, HT, by first | rfl | trivial⟩
        case measure => simp [intOf]; omega
    · obtain rfl : k = n := by omega
      have hn0 : Hid (xs.contains m = false) := Lib.hid (by have := hz.out; rwa [List.take_of_length_le (by rw [HL.out]; omega)] at this)
      clear hz
      go_wp2
      go_ret
      exact ⟨⟨_, rfl, by rw [hn0.out]; rfl⟩, rfl⟩
theorem contains_any (A : Option Addr) (n c B : Nat) (xs : List Int) (m : Int) (w : World) (h : Is w B A n xs) (hn : n ≤ 1000000) :
    Calls Tryd.prog 35 #[.slice A n c, .int .i64 m] w fun e w' => e = .returned (.bool (xs.contains m)) ∧ w = w' := by
  have IF := Lib.hid (index_any A n c B xs m w h hn)
  clear h
  go_enter Tryd.func35, Tryd.ntmps35
  go_wp2_with (go_at_call 51; refine IF.out.mono ?_; rintro e w1 ⟨⟨z, rfl, hz⟩, rfl⟩; have HZ := Lib.hid hz; clear hz IF)
  go_ret
  exact ⟨ret_bool HZ.out, rfl⟩
end Go.Proofs.YtfclppopelmdgaaDoor
