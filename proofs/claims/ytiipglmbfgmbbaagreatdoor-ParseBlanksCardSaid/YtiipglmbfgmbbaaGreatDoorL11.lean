/-
  The tokens of a text, one behind the other: the program's tokens, and what its iterator comes to.
-/
import Derived.Test.YtiipglmbfgmbbaaGreatDoorL10
import Derived.Test.YtiipglmbfgmbbaaGreatDoorPkA
namespace Go.Proofs.YtiipglmbfgmbbaaGreatDoor
open Go.RowKit Go.Shelf
attribute [local go_sem] Oper.semAt_some

theorem quoN_to : ∀ (r : List UInt8) (al : Bool) (sd : List UInt8) (i to_ : Nat) (sd' : List UInt8) (t : Nat), quoN al sd i to_ r = some (sd', t) → (t = to_ ∧ al = true) ∨ (i < t ∧ t ≤ i + r.length)
  | [], al, sd, i, to_, sd', t, h => by
    simp only [quoN] at h
    by_cases ha : al = true
    · rw [if_pos ha] at h
      simp only [Option.some.injEq, Prod.mk.injEq] at h
      exact .inl ⟨h.2.symm, ha⟩
    · rw [if_neg ha] at h
      cases h
  | b :: r, al, sd, i, to_, sd', t, h => by
    simp only [quoN] at h
    by_cases hb : ((b.toNat : Int) == 39) = true
    · rw [if_pos hb] at h
      by_cases ha : al = true
      · rw [if_pos ha] at h
        rcases quoN_to r _ _ _ _ _ _ h with h1 | h1
        · cases h1.2
        · exact .inr ⟨by omega, by simp only [List.length_cons]; omega⟩
      · rw [if_neg ha] at h
        rcases quoN_to r _ _ _ _ _ _ h with h1 | h1
        · exact .inr ⟨by omega, by simp only [List.length_cons]; omega⟩
        · exact .inr ⟨by omega, by simp only [List.length_cons]; omega⟩
    · rw [if_neg hb] at h
      by_cases ha : al = true
      · rw [if_pos ha] at h
        simp only [Option.some.injEq, Prod.mk.injEq] at h
        exact .inl ⟨h.2.symm, ha⟩
      · rw [if_neg ha] at h
        by_cases hp : plnB (b.toNat : Int) = true
        · rw [if_pos hp] at h
          rcases quoN_to r _ _ _ _ _ _ h with h1 | h1
          · cases h1.2
          · exact .inr ⟨by omega, by simp only [List.length_cons]; omega⟩
        · rw [if_neg hp] at h
          cases h
/-- A token ends behind its place. -/
theorem begF_to {l : List UInt8} {p : Nat} (hp : p < l.length) (h : (begF l p).2 = 0) : p < (begF l p).1.to_ ∧ (begF l p).1.to_ ≤ l.length := by
  unfold begF at h ⊢
  by_cases c1 : letB (bt l p) = true
  · rw [if_pos c1] at h ⊢
    have g1 := runE_gt (q := innB) hp (by unfold innB; rw [c1]; rfl)
    have g2 := (runE_le (q := innB) (Nat.le_of_lt hp)).2
    unfold wordF at h ⊢
    cases hk : keyF (cutF l p (runE innB l p)) with
    | some k => exact ⟨g1, g2⟩
    | none =>
      rw [hk] at h
      simp only at h ⊢
      by_cases h24 : 24 < (cutF l p (runE innB l p)).length
      · rw [if_pos h24] at h; cases h
      · rw [if_neg h24]; exact ⟨g1, g2⟩
  · rw [if_neg c1] at h ⊢
    by_cases c2 : digB (bt l p) = true
    · rw [if_pos c2] at h ⊢
      have g1 := runE_gt (q := digB) hp c2
      have g2 := (runE_le (q := digB) (Nat.le_of_lt hp)).2
      unfold numF at h ⊢
      split at h
      · rename_i hc
        rw [if_pos hc]
        exact ⟨g1, g2⟩
      · cases h
    · rw [if_neg c2] at h ⊢
      by_cases c3 : (bt l p == 39) = true
      · rw [if_pos c3] at h ⊢
        unfold quotedF at h ⊢
        cases hq : quoN false [] (p + 1) p (l.drop (p + 1)) with
        | none => rw [hq] at h; cases h
        | some x =>
          obtain ⟨sd, t⟩ := x
          rw [hq] at h
          simp only at h ⊢
          by_cases h64 : 64 < sd.length
          · rw [if_pos h64] at h; cases h
          · rw [if_neg h64]
            rcases quoN_to _ _ _ _ _ _ _ hq with h1 | h1
            · cases h1.2
            · rw [List.length_drop] at h1
              exact ⟨by show p < t; omega, by show t ≤ l.length; omega⟩
      · rw [if_neg c3] at h ⊢
        have sl := sgnN_le (l.drop p)
        rw [List.length_drop] at sl
        by_cases c4 : sgnN (l.drop p) = 0
        · rw [if_pos c4] at h; cases h
        · rw [if_neg c4]
          exact ⟨by show p < p + _; omega, by show p + _ ≤ l.length; omega⟩

/-- The tokens from a place on, each with what is wrong; the last one alone has something wrong. -/
def toksF : Nat → List UInt8 → Nat → List (Tk × Int)
  | 0, _, _ => []
  | n + 1, l, p => if p < l.length then (if (begF l p).2 = 0 then begF l p :: toksF n l (blkE l (begF l p).1.to_) else [begF l p]) else []
def toksL (l : List UInt8) : List (Tk × Int) := toksF (l.length + 1) l (blkE l 0)
theorem toksF_end (n : Nat) (l : List UInt8) (p : Nat) (h : ¬ p < l.length) : toksF n l p = [] := by
  cases n with
  | zero => rfl
  | succ n => unfold toksF; rw [if_neg h]
/-- What is handed on in the round k. -/
def tkE (S : List (Tk × Int)) (k : Nat) : Array Value := #[tkV (S.getD k (errT 0, 0)).1, .int .i64 (S.getD k (errT 0, 0)).2]

theorem tokens_any (l : List UInt8) (w : World) : Calls Tryz.prog 31 #[tx l] w fun e w' => e = .returned (.func (.func 59) #[] #[.pointer (some ⟨w.heap.size, 0, none⟩)]) ∧ w' = w.alloc (.cells #[tx l] 9) := by
  go_enter Tryz.func31, Tryz.ntmps31
  go_wp2
  go_ret
  exact ⟨rfl, rfl⟩

set_option maxRecDepth 100000 in
set_option maxHeartbeats 4000000 in
theorem tokens1_keep (d : Nat) (hd : 1 ≤ d) (l : List UInt8) (hl : l.length ≤ 1000000) (m : Nat) (w : World) :
    SeqKeep Fence.wide d Tryz.prog 59 #[.pointer (some ⟨m, 0, none⟩)] (tkE (toksL l)) (toksL l).length (fun W => Blk W m 9 #[tx l] ∧ Gl W) w := fun lb J Jx W hW hN hJ hJx hY h0 => by
  have S0 : Hid (toksL l = toksF (l.length + 1) l (blkE l 0)) := Lib.hid rfl
  obtain ⟨b0, b1⟩ := blkE_le (l := l) (p := 0) (Nat.zero_le _)
  have BK := Lib.hid (fun p (hp : p ≤ l.length) W => blanks_any l p hl hp W)
  have BG := Lib.hid (fun p (hp : p < l.length) W hg => begin_any l p hl hp W hg)
  generalize toksL l = S at *
  have hm := (hN _ _ h0).1
  have c0 : W.cell? ⟨m, 0, none⟩ = some (.string ⟨l.toArray⟩) := hm.cell 0
  have BK0 := Lib.hid (BK.out 0 (Nat.zero_le _) W)
  generalize hz : blkE l 0 = z at *
  have HJ := Lib.hid hJ
  have HN := Lib.hid hN
  have HY := Lib.hid hY
  have HJX := Lib.hid hJx
  have H0 := Lib.hid h0
  have HB1 := Lib.hid b1
  clear hJ hN hY hJx h0 hm hz b0 b1
  refine callsIn_of_wp Tryz.func59 rfl trivial ?_ rfl
  simp only [Tryz.ntmps59, List.size_toArray, List.length_cons, List.length_nil, Nat.reduceAdd, Nat.reduceSub, Array.replicate_succ, Array.replicate_zero, List.push_toArray, List.append_toArray, List.nil_append, List.cons_append]
  gi_wp2_with (refine ⟨trivial, ?_⟩; gi_at_call 60; refine (callsIn_wide.2 BK0.out).mono ?_; rintro e w1 ⟨rfl, hb⟩; have J1 := Lib.hid (HJ.out 0 _ _ H0.out hb); clear hb)
  clear c0
  gi_loopw [3] (fun v wr => ∃ k n p : Nat, k ≤ S.length ∧ v = .int .i64 (p : Int) ∧ Hid (p ≤ l.length) ∧ Hid (toksF n l p = S.drop k) ∧ Hid (l.length + 1 ≤ p + n) ∧ Hid (J k wr)) (fun v _ => l.length - (intOf v).toNat)
  case atStart => exact ⟨0, l.length + 1, z, Nat.zero_le _, rfl, HB1, Lib.hid (by rw [S0.out]; rfl), Lib.hid (by omega), J1⟩
  case round =>
    obtain ⟨k, n, p, hk, rfl, HP, HT, HL, JK⟩ := hrel
    have N1 := Lib.hid (HN.out _ _ JK.out)
    have c1 : wr.cell? ⟨m, 0, none⟩ = some (.string ⟨l.toArray⟩) := N1.out.1.cell 0
    by_cases hlt : p < l.length
    · have d1 : (p : Int) < (l.length : Int) := by omega
      obtain ⟨n, rfl⟩ : ∃ n', n = n' + 1 := ⟨n - 1, by have := HL.out; have := HP.out; omega⟩
      have BG1 := Lib.hid (BG.out p hlt wr N1.out.2)
      have BT := Lib.hid (begF_to hlt)
      have HT2 := HT.out
      unfold toksF at HT2
      rw [if_pos hlt] at HT2
      obtain ⟨⟨t, er⟩, hte⟩ : ∃ r, begF l p = r := ⟨_, rfl⟩
      rw [hte] at HT2 BG1 BT
      have hkl : k < S.length := by
        rcases Nat.lt_or_ge k S.length with h | h
        · exact h
        · rw [List.drop_eq_nil_iff.2 h] at HT2
          split at HT2 <;> cases HT2
      have hget : S.getD k (errT 0, 0) = (t, er) := by
        have e : S.drop k = S[k] :: S.drop (k + 1) := List.drop_eq_getElem_cons hkl
        rw [e] at HT2
        have : S[k] = (t, er) := by split at HT2 <;> (injection HT2 with h1 _; exact h1.symm)
        simp [List.getD, hkl, this]
      have hrest : er = 0 → toksF n l (blkE l t.to_) = S.drop (k + 1) := fun h => by
        have e : S.drop k = S[k] :: S.drop (k + 1) := List.drop_eq_getElem_cons hkl
        rw [e, if_pos h] at HT2
        injection HT2
      have hlast : er ≠ 0 → k + 1 = S.length := fun h => by
        have e : S.drop k = S[k] :: S.drop (k + 1) := List.drop_eq_getElem_cons hkl
        rw [e, if_neg h] at HT2
        injection HT2 with _ h2
        have := List.drop_eq_nil_iff.1 h2.symm
        omega
      have HG := Lib.hid hget
      have HR := Lib.hid hrest
      have HLA := Lib.hid hlast
      clear HT HT2 hget hrest hlast hte
      obtain ⟨k0, tt, nn, aa, to_⟩ := t
      have BG2 : Hid (Calls Tryz.prog 61 #[tx l, .int .i64 (p : Int)] wr fun e w' => e = .returned (.tuple #[.agg #[.int .i64 k0, tx tt, .int .i64 nn, .int .i64 (aa : Int), .int .i64 (to_ : Int)], .int .i64 er]) ∧ Below wr.heap.size wr w') := BG1
      clear BG1
      gi_wp2_with (refine ⟨trivial, ?_⟩; gi_at_call 61; refine (callsIn_wide.2 BG2.out).mono ?_; rintro e w2 ⟨rfl, hb⟩; have c2 : w2.cell? ⟨m, 0, none⟩ = some (.string ⟨l.toArray⟩) := (Blk.below N1.out.1 hb N1.out.1.lt).cell 0; have hb2 : Below wr.heap.size wr (w2.alloc (.cells #[.int .i64 k0, tx tt, .int .i64 nn, .int .i64 (aa : Int), .int .i64 (to_ : Int)] 50)) := hb.alloc hb.size _; obtain ⟨fn, tmps, assign, body, hy, hR⟩ := HY.out k wr _ JK.out hb2 hkl; unfold tkE at hy; rw [HG.out] at hy; simp only [tkV, Tk.cells] at hy; have hq2 := hb.size; clear hb)
      have XQ : Hid (Blk (w2.alloc (.cells #[.int .i64 k0, tx tt, .int .i64 nn, .int .i64 (aa : Int), .int .i64 (to_ : Int)] 50)) w2.heap.size 50 #[.int .i64 k0, tx tt, .int .i64 nn, .int .i64 (aa : Int), .int .i64 (to_ : Int)]) := Lib.hid (Blk.new _ _ _)
      generalize w2.heap.size = q at *
      generalize w2.alloc (.cells #[.int .i64 k0, tx tt, .int .i64 nn, .int .i64 (aa : Int), .int .i64 (to_ : Int)] 50) = W1 at *
      refine hR.mono ?_
      rintro e W3 (⟨rfl, hJ3, hKp⟩ | ⟨rfl, hJx3⟩)
      · have J3 := Lib.hid hJ3
        have N3 := Lib.hid (HN.out _ _ hJ3)
        have XQ3 : Hid (Blk W3 q 50 #[.int .i64 k0, tx tt, .int .i64 nn, .int .i64 (aa : Int), .int .i64 (to_ : Int)]) := Lib.hid ((hKp q hq2 XQ.out.lt).trans XQ.out)
        have c3 : W3.cell? ⟨m, 0, none⟩ = some (.string ⟨l.toArray⟩) := N3.out.1.cell 0
        have c4 : W3.cell? ⟨q, 4, none⟩ = some (.int .i64 (to_ : Int)) := XQ3.out.cell 4
        clear hJ3 hKp hR hy c1 c2
        by_cases he : er = 0
        · subst he
          obtain ⟨t1, t2⟩ := BT.out rfl
          have BK3 := Lib.hid (BK.out to_ t2 W3)
          have LE := blkE_le t2
          have HR3 := Lib.hid (HR.out rfl)
          try simp only at HR3 t1 t2 LE
          generalize blkE l to_ = p3 at *
          gi_wp2_with (refine ⟨trivial, ?_⟩; gi_at_call 60; refine (callsIn_wide.2 BK3.out).mono ?_; rintro e w5 ⟨rfl, hb5⟩; have J5 := Lib.hid (HJ.out _ _ _ J3.out hb5); clear hb5)
          go_roundw
          case rel => exact ⟨k + 1, n, p3, hkl, rfl, Lib.hid LE.2, HR3, Lib.hid (by have := HL.out; omega), J5⟩
          case measure => simp [intOf]; omega
        · have hne : (er != 0) = true := by simpa using he
          have hke := HLA.out he
          gi_wp2
          refine bodyPost_ret (results_none rfl _ _ _) rfl ?_
          exact ⟨⟨_, rfl⟩, .inl (hke ▸ J3.out)⟩
      · gi_wp2
        refine bodyPost_ret (results_none rfl _ _ _) rfl ?_
        exact ⟨⟨_, rfl⟩, .inr ⟨k, hkl, hJx3⟩⟩
    · have d1 : ¬ (p : Int) < (l.length : Int) := by omega
      gi_wp2
      go_end0
      have hkS : k = S.length := by
        have h1 := HT.out
        rw [toksF_end _ _ _ hlt] at h1
        have := List.drop_eq_nil_iff.1 h1.symm
        omega
      subst hkS
      exact ⟨⟨_, rfl⟩, .inl JK.out⟩
end Go.Proofs.YtiipglmbfgmbbaaGreatDoor
