/-
  Tokens of one's own: the law's toks, walked.
-/
import Derived.Test.YtblcfjliabeaiaaDoorL34
import Derived.Laws.AppendOwnNone
namespace Go.Proofs.YtblcfjliabeaiaaDoor
open Go.RowKit Go.Shelf
attribute [local go_sem] Oper.semAt_some

theorem addq (b o i : Nat) : (⟨b, o, none⟩ : Addr).add i = ⟨b, o + i, none⟩ := by by_cases h0 : i = 0 <;> simp [Addr.add, h0]
/-- append of tokens, wherever they lie, onto tokens of one's own. -/
theorem append_q {w : World} {ops : Array Oper} {rest : List Oper} {o : Oper} {a : Act} {Q : Exit → Act → World → Prop} (hgd : o.guard = none) (s x : Operand)
    (ho : o.op = .call { callee := .builtin .append, args := #[s, x], argTypes := #[24, 24] }) (base : Nat) (A : Option Addr) (n c : Nat) (zs : List Tq) (hs : a.eval s = .slice A n c) (hown : Tqs w base A n c zs)
    (B : Nat) (A' : Option Addr) (m d : Nat) (ys : List Tq) (hx : a.eval x = .slice A' m d) (hr : Trd w B A' m ys) (hd : A' = none → d = 0 ∧ m = 0) (hsum : n + m ≤ 1000000) (hbase : base ≤ w.heap.size)
    (h : ∀ A2 c2 w', Tqs w' base A2 (n + m) c2 (zs ++ ys) → Below base w w' → wpList Tryd.prog ops Q rest (a.put o.dst (.slice A2 (n + m) c2)) w') : wpList Tryd.prog ops Q (o :: rest) a w := by
  obtain ⟨i0, hi, hz0, hz1, hz2⟩ := tok_parts
  cases A' with
  | none =>
    obtain ⟨rfl, rfl⟩ := hd rfl
    have hy : ys = [] := List.eq_nil_of_length_eq_zero hr.len
    subst hy
    refine wpList_append_own_none hgd s x 24 ho base 47 i0 5 Tryd.underlying24 hi _ n _ hs hown hx ?_
    exact h A c w (by rw [List.append_nil]; exact hown) (Below.refl _ _)
  | some ad =>
    refine wpList_append_own _ hgd s x 24 ho base 47 i0 _ 5 48 Tryd.underlying24 hi hz0 hz1 hz2 rfl (by decide) _ n _ hs hown ad m d (qRow ys) hx (by rw [qRow_len, hr.len]) ?_ (qRow_one ys) (by unfold maxLen; omega) (by omega) hbase ?_
    · intro j u hj
      have hl : j < m * 5 := by
        have := (List.getElem?_eq_some_iff.1 hj).1
        rw [qRow_len, hr.len] at this
        exact this
      obtain ⟨b, o', hA, _, hc⟩ := hr.cel (by omega)
      have hA' := Option.some.inj hA
      subst hA'
      obtain ⟨q, r, h5, rfl⟩ : ∃ q r, r < 5 ∧ j = q * 5 + r := ⟨j / 5, j % 5, by omega, by omega⟩
      have e1 := qRow_at ys q r (by rw [hr.len]; omega) h5
      have e2 := hc q (by omega) r h5
      have e3 : (⟨b, o', none⟩ : Addr).add (q * 5 + r) = ⟨b, o' + q * 5 + r, none⟩ := (addq b o' (q * 5 + r)).trans (by rw [Nat.add_assoc])
      exact (congrArg w.cell? e3).trans (e2.trans (e1.symm.trans hj))
    · intro v' w' hown' hg _
      rw [← qRow_append] at hown'
      obtain ⟨A2, c2, rfl⟩ : ∃ A2 c2, v' = .slice A2 (n + m) c2 := by
        rcases hown'.2 with ⟨hv, h0⟩ | ⟨g, cap, cur, hv, _⟩
        · exact ⟨none, 0, by rw [hv, h0]⟩
        · exact ⟨_, _, hv⟩
      exact h A2 c2 w' hown' (Below.grown (Below.refl _ _) hg hbase (fun k hk => (World.ownsRow.lt hown k hk).1))

set_option maxRecDepth 100000 in
set_option maxHeartbeats 4000000 in
theorem toks_any (A : Option Addr) (n c B : Nat) (ts : List Tq) (w : World) (h : Trd w B A n ts) (hc : n ≤ c) (hd : A = none → c = 0) (hn : n ≤ 9223372036854775807) (hB : B ≤ w.heap.size) :
    Calls Tryd.prog 9 #[.slice A n c] w fun e w' => ∃ A' c', e = .returned (.slice A' (min n 301) c') ∧ Tqs w' w.heap.size A' (min n 301) c' ((ts.take 301).map cutT) ∧ Below w.heap.size w w' := by
  obtain ⟨m, hm⟩ : ∃ m, min n 301 = m := ⟨_, rfl⟩
  have hmi : min (n : Int) 301 = (m : Int) := by omega
  have m0 : (0 : Int) ≤ (m : Int) := by omega
  have m1 : (m : Int) ≤ (c : Int) := by omega
  obtain ⟨zs, hzs⟩ : ∃ zs, ts.take 301 = zs := ⟨_, rfl⟩
  have hz : zs.length = m := by rw [← hzs, List.length_take, h.len]; omega
  have hr : Trd w B A m zs := ⟨hz, fun hp => by
    obtain ⟨b, o, hA, hb, hcl⟩ := h.cel (by omega)
    refine ⟨b, o, hA, hb, fun j hj i hi => ?_⟩
    rw [hcl j (by omega) i hi, ← hzs]
    have e : (ts.take 301).getD j errQ = ts.getD j errQ := by simp [List.getD, show j < 301 by omega]
    rw [e]⟩
  have TQ : Hid (Tqs (w.alloc (.cells #[] 47)) w.heap.size (some ⟨w.heap.size, 0, none⟩) 0 0 []) := Lib.hid (World.ownsRow_made w #[] 0 (Nat.le_refl _) (by decide) rfl)
  have AL : Below w.heap.size w (w.alloc (.cells #[] 47)) := (Below.refl _ _).alloc (Nat.le_refl _) _
  have HR := Lib.hid (hr.below (AL.mono hB))
  have HAL := Lib.hid AL
  have HD : Hid (A = none → c = 0 ∧ m = 0) := Lib.hid (fun e => ⟨hd e, by have := hd e; omega⟩)
  rw [hm, hzs]
  clear h hr AL hd hzs
  go_enter Tryd.func9, Tryd.ntmps9
  go_upto_region 2 with (at_builtin; refine append_q rfl (.tmp 5) (.tmp 10) rfl w.heap.size _ 0 0 [] rfl TQ.out B A m c zs rfl HR.out HD.out (by omega) (by simp) ?_; intro A2 c2 w2 ho2 hb2; have O2 := Lib.hid ho2; have H2 := Lib.hid (HAL.out.trans hb2); clear ho2 hb2)
  rw [Nat.zero_add] at *
  rw [List.nil_append] at O2
  clear TQ HR HAL HD
  go_upto_region 3 with fail
  have hm3 : m ≤ 301 := by omega
  go_loopw [14] (fun iv wr => ∃ i : Nat, i ≤ m ∧ iv = .int .i64 (i : Int) ∧ Hid (Tqs wr w.heap.size A2 m c2 (mid i zs)) ∧ Hid (Below w.heap.size w wr)) (fun iv _ => m - (intOf iv).toNat)
  case atStart => exact ⟨0, Nat.zero_le _, rfl, Lib.hid (by rw [mid_zero]; exact O2.out), H2⟩
  case round =>
    obtain ⟨i, hi, rfl, HT, HB⟩ := hrel
    by_cases hlt : i < m
    · have i0 : (0 : Int) ≤ (i : Int) := by omega
      have i1 : (i : Int) < (m : Int) := by omega
      obtain ⟨k, rfl, hk⟩ : ∃ k, A2 = some ⟨k, 0, none⟩ ∧ w.heap.size ≤ k := by
        rcases HT.out.form with ⟨_, h, _⟩ | ⟨k, h, hk, _⟩
        · omega
        · exact ⟨k, h, hk⟩
      have x1 : wr.cell? ⟨k, i * 5 + 1, none⟩ = some (tx (zs.getD i errQ).text) := by
        refine (World.ownsRow.cellAt (w := wr) (g := k) HT.out (i * 5 + 1) (by omega)).trans ?_
        rw [qRow_at (mid i zs) i 1 (by rw [mid_len]; omega) (by omega), mid_getD zs i (by omega)]
        rfl
      have y1 : wr.frozen? ⟨k, i * 5 + 1, none⟩ = false := World.ownsRow.frozenAt (w := wr) (g := k) HT.out _
      have MS := Lib.hid (mid_set zs i (by omega))
      generalize (zs.getD i errQ).text = text at *
      obtain ⟨q, hq⟩ : ∃ q : Nat, min (text.length : Int) 100 = (q : Int) := ⟨min text.length 100, by omega⟩
      have q0 : (0 : Int) ≤ (q : Int) := by omega
      have q1 : (q : Int) ≤ (text.length : Int) := by omega
      have CE : cutF text 0 q = text.take 100 := by
        unfold cutF
        rw [List.drop_zero]
        rcases Nat.lt_or_ge text.length 100 with hl | hl
        · rw [show q = text.length by omega, List.take_length, List.take_of_length_le (by omega)]
        · rw [show q = 100 by omega]
      have EX := ext_eq text 0 q
      rw [CE] at EX
      generalize text.take 100 = cut at *
      go_upto_region 5 with fail
      go_region
      go_wp2_with fail
      go_roundw
      case rel => exact ⟨i + 1, by omega, by go_num, Lib.hid (by unfold Tqs; rw [← MS.out]; exact (World.ownsRow.stored (w := wr) (g := k) HT.out (i * 5 + 1) _).1), Lib.hid ((HB.out.setCell (p := ⟨k, i * 5 + 1, none⟩) hk _).drew)⟩
      case measure => simp [intOf]; omega
    · obtain rfl : i = m := by omega
      go_wp2_with fail
      go_ret
      exact ⟨_, _, rfl, by have := HT.out; rw [← hz, mid_all] at this; rw [← hz]; exact this, HB.out⟩
end Go.Proofs.YtblcfjliabeaiaaDoor
