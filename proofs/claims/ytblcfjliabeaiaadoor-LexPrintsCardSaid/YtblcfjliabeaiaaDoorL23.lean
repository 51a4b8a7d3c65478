/-
  The document's texts quoted.
-/
import Derived.Test.YtblcfjliabeaiaaDoorL22
import Derived.Maps.AppendAt
namespace Go.Proofs.YtblcfjliabeaiaaDoor
open Go.RowKit Go.Shelf
attribute [local go_sem] Oper.semAt_some

/-- One more byte; what lies elsewhere stays. -/
theorem append_bk {w : World} {ops : Array Oper} {rest : List Oper} {o : Oper} {a : Act} {Q : Exit → Act → World → Prop} (hgd : o.guard = none) (s x : Operand)
    (ho : o.op = .call { callee := .builtin .append, args := #[s, x], argTypes := #[54, 54] }) (base : Nat) (A : Option Addr) (n c : Nat) (L : List UInt8) (hs : a.eval s = .slice A n c) (hown : Ob w base A n c L)
    (b : UInt8) (z : Int) (hz : z = (b.toNat : Int)) (hx : a.eval x = .slice (some ⟨w.heap.size, 0, none⟩) 1 1) (hsum : n + 1 ≤ 10000000) (hbase : base ≤ w.heap.size)
    (h : ∀ A2 c2 w', Ob w' base A2 (n + 1) c2 (L ++ [b]) → Below base w w' → (∀ k, k < w.heap.size → (∀ g, A = some ⟨g, 0, none⟩ → g ≠ k) → w'.heap[k]? = w.heap[k]?) → (∀ g, A2 = some ⟨g, 0, none⟩ → A = some ⟨g, 0, none⟩ ∨ w.heap.size ≤ g) → w.heap.size ≤ w'.heap.size → wpList Tryd.prog ops Q rest (a.put o.dst (.slice A2 (n + 1) c2)) w') :
    wpList Tryd.prog ops Q (o :: rest) a (w.alloc (.cells #[.int .u8 z] 5)) := by
  subst hz
  obtain ⟨i0, hi, hz0, hz1, hz2⟩ := byte_parts
  have ho' : Ob (w.alloc (.cells #[.int .u8 (b.toNat : Int)] 5)) base A n c L := hown.below ((Below.refl _ _).alloc (Nat.le_refl _) _)
  have own : ∀ g, (Value.slice A n c).ownBlock = some g → A = some ⟨g, 0, none⟩ := fun g hg => by
    rcases ho'.form with ⟨rfl, _, _⟩ | ⟨g', rfl, _, _⟩
    · cases hg
    · have e : some g' = some g := hg
      exact congrArg (fun x => some (⟨x, 0, none⟩ : Addr)) (Option.some.inj e)
  refine wpList_append_own_at _ hgd s x 54 ho base 5 i0 (.int .u8 0) 1 1 Tryd.underlying54 hi hz0 hz1 hz2 rfl (by decide) _ n _ hs ho' ⟨w.heap.size, 0, none⟩ 1 1 [.int .u8 (b.toNat : Int)] hx rfl ?_ (by simp [Value.oneCell']) (by unfold maxLen; omega) (by omega) (by simp; omega) ?_
  · intro j u hj
    rw [Addr.add_lit, Nat.zero_add, ← hj]
    rw [(Blk.new w 5 #[.int .u8 (b.toNat : Int)]).cell j]
    simp
  · intro v' w' hown' hg _ hat
    have e : Lib.byteCells L ++ [.int .u8 (b.toNat : Int)] = Lib.byteCells (L ++ [b]) := by rw [Lib.byteCells_append]; rfl
    rw [e] at hown'
    obtain ⟨A2, c2, rfl⟩ : ∃ A2 c2, v' = .slice A2 (n + 1) c2 := by
      rcases hown'.2 with ⟨_, h0⟩ | ⟨g, cap, cur, hv, _⟩
      · omega
      · exact ⟨_, _, hv⟩
    refine h A2 c2 w' hown' (Below.grown ((Below.refl _ _).alloc hbase _) hg (by simp; omega) (fun k hk => (World.ownsRow.lt ho' k hk).1)) (fun k hk hn => ?_) (fun g hA => ?_) (Nat.le_trans (by simp) hg.size)
    · exact (hg.block k (by simp; omega) (fun e => hn k (own k e.symm) rfl)).trans (Below.heap_alloc _ _ _ hk)
    · subst hA
      rcases hat with e | e
      · exact .inl (own g e.symm)
      · refine .inr ?_
        have : some g = some (w.alloc (.cells #[.int .u8 (b.toNat : Int)] 5)).heap.size := e
        injection this with this
        simp at this
        omega

theorem dbl_take {l : List UInt8} {i : Nat} (h : i < l.length) : dbl (l.take (i + 1)) = dbl (l.take i) ++ if ((l[i].toNat : Int) == 39) = true then [l[i], l[i]] else [l[i]] := by
  rw [List.take_succ_eq_append_getElem h, dbl_append]
  rfl

set_option maxRecDepth 100000 in
set_option maxHeartbeats 4000000 in
theorem rquote_any (l : List UInt8) (hl : l.length ≤ 400000) (w : World) : Calls Tryd.prog 24 #[tx l] w fun e w' => e = .returned (tx (quoteF l)) ∧ Below w.heap.size w w' := by
  have DL := Lib.hid (fun i => Nat.le_trans (dbl_len (l.take i)) (Nat.mul_le_mul_left 2 (List.length_take_le i l)))
  have O0 : Hid (Ob (w.alloc (.cells #[.int .u8 39] 5)) w.heap.size (some ⟨w.heap.size, 0, none⟩) 1 1 (39 :: dbl (l.take 0))) := Lib.hid (World.ownsRow_lit w #[.int .u8 39] 1 (Nat.le_refl _) (by decide) rfl)
  have H0 : Hid (Below w.heap.size w (w.alloc (.cells #[.int .u8 39] 5))) := Lib.hid ((Below.refl _ _).alloc (Nat.le_refl _) _)
  have S0 : (w.alloc (.cells #[.int .u8 39] 5)).heap.size = w.heap.size + 1 := by simp
  obtain ⟨g, hg⟩ : ∃ g, w.heap.size = g := ⟨_, rfl⟩
  rw [hg] at O0 H0 S0 ⊢
  have kc := conv_tx l (w.alloc (.cells #[.int .u8 39] 5))
  have HB0 := Lib.hid (bworld_below (w.alloc (.cells #[.int .u8 39] 5)) l)
  have HS0 := bworld_size (w.alloc (.cells #[.int .u8 39] 5)) l
  have HC0 := Lib.hid (fun i hi => bworld_cell (w.alloc (.cells #[.int .u8 39] 5)) l (i := i) hi)
  have O1 := Lib.hid (O0.out.below HB0.out)
  rw [S0] at kc HB0 HS0 HC0
  have H1 := Lib.hid (H0.out.trans (HB0.out.mono (by omega)))
  generalize bworld (w.alloc (.cells #[.int .u8 39] 5)) l = w1 at *
  generalize bcap (w.alloc (.cells #[.int .u8 39] 5)) l = bc at *
  clear O0 H0 HB0
  go_enter Tryd.func24, Tryd.ntmps24
  go_upto_region 3 with fail
  go_loopw [3, 10] (fun ov iv wr => ∃ (i : Nat) (A : Option Addr) (n c : Nat), i ≤ l.length ∧ iv = .int .i64 (i : Int) ∧ ov = .slice A n c ∧ Hid (Ob wr g A n c (39 :: dbl (l.take i))) ∧ Hid (∀ k, A = some ⟨k, 0, none⟩ → k ≠ g + 1) ∧ Hid (wr.heap[g + 1]? = w1.heap[g + 1]?) ∧ Hid (Below g w wr) ∧ g + 2 ≤ wr.heap.size) (fun _ iv _ => l.length - (intOf iv).toNat)
  case atStart => exact ⟨0, _, _, _, Nat.zero_le _, rfl, rfl, O1, Lib.hid (fun k e => by injection e with e; injection e with e; omega), Lib.hid rfl, H1, by omega⟩
  case round =>
    obtain ⟨i, A, n, c, hi, rfl, rfl, HO, HN, HK, HB, hsz⟩ := hrel
    have hn : n ≤ 800001 := by have h1 := HO.out.len; rw [List.length_cons] at h1; have h2 := DL.out i; omega
    by_cases hlt : i < l.length
    · have i0 : (0 : Int) ≤ (i : Int) := by omega
      have i1 : (i : Int) < (l.length : Int) := by omega
      have x0 : wr.cell? ⟨g + 1, i, none⟩ = some (.int .u8 ((l[i].toNat : Nat) : Int)) := by
        have h2 : ((l[i].toNat : Nat) : Int) = bt l i := by simp [bt, List.getD, hlt]
        rw [h2, ← HC0.out i hlt]
        simp only [World.cell?, HK.out]
      have E1 := Lib.hid (dbl_take hlt)
      generalize l[i] = u at *
      cases hq : (((u.toNat : Nat) : Int) == 39) with
      | true =>
        have E2 : Hid (dbl (l.take (i + 1)) = dbl (l.take i) ++ [u, u]) := Lib.hid (by rw [E1.out, hq]; rfl)
        clear E1
        go_wp2_with (at_builtin; first
          | (refine append_bk rfl (.tmp 16) (.tmp 18) rfl g A n c _ rfl HO.out u _ rfl rfl (by omega) (by omega) ?_; intro A2 c2 w2 ho2 hb2 hk2 hn2 hs2; have O2 := Lib.hid ho2; have B2 := Lib.hid hb2; have K2 := Lib.hid hk2; have N2 := Lib.hid hn2; clear ho2 hb2 hk2 hn2)
          | (refine append_bk rfl (.tmp 20) (.tmp 22) rfl g A2 (n + 1) c2 _ rfl O2.out u _ rfl rfl (by omega) (by omega) ?_; intro A3 c3 w3 ho3 hb3 hk3 hn3 hs3))
        go_roundw
        case rel =>
          have nk2 : ∀ k, A2 = some ⟨k, 0, none⟩ → k ≠ g + 1 := fun k hk => by
            rcases N2.out k hk with h | h
            · exact HN.out k h
            · omega
          have nk3 : ∀ k, A3 = some ⟨k, 0, none⟩ → k ≠ g + 1 := fun k hk => by
            rcases hn3 k hk with h | h
            · exact nk2 k h
            · omega
          refine ⟨i + 1, A3, n + 1 + 1, c3, by omega, by go_num, rfl, Lib.hid ?_, Lib.hid nk3, Lib.hid ?_, Lib.hid (HB.out.trans (B2.out.trans hb3)), by omega⟩
          · rw [E2.out]
            simpa using ho3
          · exact (hk3 _ (by omega) nk2).trans ((K2.out _ (by omega) HN.out).trans HK.out)
        case measure => simp [intOf]; omega
      | false =>
        have E2 : Hid (dbl (l.take (i + 1)) = dbl (l.take i) ++ [u]) := Lib.hid (by rw [E1.out, hq]; rfl)
        clear E1
        go_wp2_with (at_builtin; refine append_bk rfl (.tmp 20) (.tmp 22) rfl g A n c _ rfl HO.out u _ rfl rfl (by omega) (by omega) ?_; intro A3 c3 w3 ho3 hb3 hk3 hn3 hs3)
        go_roundw
        case rel =>
          have nk3 : ∀ k, A3 = some ⟨k, 0, none⟩ → k ≠ g + 1 := fun k hk => by
            rcases hn3 k hk with h | h
            · exact HN.out k h
            · omega
          refine ⟨i + 1, A3, n + 1, c3, by omega, by go_num, rfl, Lib.hid ?_, Lib.hid nk3, Lib.hid ?_, Lib.hid (HB.out.trans hb3), by omega⟩
          · rw [E2.out]
            simpa using ho3
          · exact (hk3 _ (by omega) HN.out).trans HK.out
        case measure => simp [intOf]; omega
    · obtain rfl : i = l.length := by omega
      have QF : Hid (39 :: dbl (l.take l.length) ++ [39] = quoteF l) := Lib.hid (by rw [List.take_length]; rfl)
      go_wp2_with (at_builtin; refine append_bk rfl (.tmp 25) (.tmp 26) rfl g A n c _ rfl HO.out 39 _ (by rfl) rfl (by omega) (by omega) ?_; intro A3 c3 w3 ho3 hb3 hk3 hn3 hs3; have kc3 := conv_ob ho3; rw [QF.out] at kc3)
      go_ret
      exact ⟨rfl, HB.out.trans hb3⟩
end Go.Proofs.YtblcfjliabeaiaaDoor
