/-
  The first tokens of a text hang on nothing behind them.
-/
import Derived.Test.YtiipglmbfgmbbaaGreatDoorPkQ
namespace Go.Proofs.YtiipglmbfgmbbaaGreatDoor
open Go.RowKit Go.Shelf

theorem take_cons {a : UInt8} {m m' : List UInt8} {k : Nat} (h : (a :: m).take (k + 1) = m'.take (k + 1)) : ∃ m1, m' = a :: m1 ∧ m.take k = m1.take k := by
  cases m' with
  | nil => simp at h
  | cons b m1 =>
    rw [List.take_succ_cons, List.take_succ_cons] at h
    injection h with h1 h2
    subst h1
    exact ⟨m1, rfl, h2⟩
theorem take_nil' {m' : List UInt8} {k : Nat} (hk : 0 < k) (h : ([] : List UInt8).take k = m'.take k) : m' = [] := by
  cases m' with
  | nil => rfl
  | cons b m1 =>
    obtain ⟨j, rfl⟩ : ∃ j, k = j + 1 := ⟨k - 1, by omega⟩
    simp at h
theorem take_less {m m' : List UInt8} {j k : Nat} (h : m.take k = m'.take k) (hj : j ≤ k) : m.take j = m'.take j := by
  have := congrArg (List.take j) h
  rwa [List.take_take, List.take_take, Nat.min_eq_left hj] at this
theorem take_drop' {m m' : List UInt8} {j k : Nat} (h : m.take (j + k) = m'.take (j + k)) : (m.drop j).take k = (m'.drop j).take k := by
  have := congrArg (List.drop j) h
  rwa [List.drop_take, List.drop_take, show j + k - j = k by omega] at this
theorem run_pre {q : Int → Bool} : ∀ {m m' : List UInt8} {k : Nat}, m.take k = m'.take k → runN q m < k → runN q m' = runN q m
  | [], m', k, h, hk => by rw [take_nil' (by omega) h]
  | a :: m, m', 0, h, hk => by omega
  | a :: m, m', k + 1, h, hk => by
    obtain ⟨m1, rfl, h1⟩ := take_cons h
    unfold runN at hk ⊢
    by_cases c : q (a.toNat : Int) = true
    · rw [if_pos c] at hk ⊢
      rw [if_pos c, run_pre h1 (by omega)]
    · rw [if_neg c, if_neg c]
theorem letH_pre {m m' : List UInt8} {k : Nat} (h : m.take k = m'.take k) (hk : 0 < k) : letH m' = letH m := by
  obtain ⟨j, rfl⟩ : ∃ j, k = j + 1 := ⟨k - 1, by omega⟩
  cases m with
  | nil => rw [take_nil' hk h]
  | cons a m =>
    obtain ⟨m1, rfl, h1⟩ := take_cons h
    rfl
theorem hdB_pre {m m' : List UInt8} {k : Nat} (h : m.take k = m'.take k) (hk : 0 < k) : hdB m' = hdB m := by
  obtain ⟨j, rfl⟩ : ∃ j, k = j + 1 := ⟨k - 1, by omega⟩
  cases m with
  | nil => rw [take_nil' hk h]
  | cons a m =>
    obtain ⟨m1, rfl, h1⟩ := take_cons h
    rfl
theorem quo_pre : ∀ (m m' : List UInt8) (k : Nat) (al : Bool) (sd : List UInt8) (i t : Nat) (sd' : List UInt8) (t' : Nat), m.take k = m'.take k → (al = true → t = i) → quoN al sd i t m = some (sd', t') → t' < i + k → quoN al sd i t m' = some (sd', t')
  | [], m', k, al, sd, i, t, sd', t', h, ha, hq, hk => by
    by_cases k0 : k = 0
    · have := (quoN_loc [] (.inl rfl) [] al sd i t sd' t' ha hq).1
      omega
    · rw [take_nil' (by omega) h]
      exact hq
  | a :: m, m', 0, al, sd, i, t, sd', t', h, ha, hq, hk => by
    have := (quoN_loc [] (.inl rfl) (a :: m) al sd i t sd' t' ha hq).1
    omega
  | a :: m, m', k + 1, al, sd, i, t, sd', t', h, ha, hq, hk => by
    obtain ⟨m1, rfl, h1⟩ := take_cons h
    unfold quoN at hq ⊢
    by_cases c1 : ((a.toNat : Int) == 39) = true
    · rw [if_pos c1] at hq ⊢
      by_cases c : al = true
      · rw [if_pos c] at hq ⊢
        exact quo_pre m m1 k _ _ _ _ _ _ h1 (fun x => by cases x) hq (by omega)
      · rw [if_neg c] at hq ⊢
        exact quo_pre m m1 k _ _ _ _ _ _ h1 (fun x => rfl) hq (by omega)
    · rw [if_neg c1] at hq ⊢
      by_cases c : al = true
      · rw [if_pos c] at hq ⊢
        exact hq
      · rw [if_neg c] at hq ⊢
        by_cases c2 : plnB (a.toNat : Int) = true
        · rw [if_pos c2] at hq ⊢
          exact quo_pre m m1 k _ _ _ _ _ _ h1 (fun x => by cases x) hq (by omega)
        · rw [if_neg c2] at hq; cases hq
theorem sgn_pre {m m' : List UInt8} (h : m.take 2 = m'.take 2) : sgnN m' = sgnN m := by
  match m, h with
  | [], h => rw [take_nil' (by omega) h]
  | [a], h =>
    obtain ⟨m1, rfl, h1⟩ := take_cons h
    rw [take_nil' (by omega) h1]
  | a :: b :: m, h =>
    obtain ⟨m1, rfl, h1⟩ := take_cons h
    obtain ⟨m2, rfl, h2⟩ := take_cons h1
    rw [sgn_two, sgn_two]
/-- A token is what it is by its own bytes and one more. -/
theorem beg_pre {m m' : List UInt8} {k : Nat} (h : m.take k = m'.take k) (hm : m ≠ []) (hb : (begS m).2.2 = 0) (hk : (begS m).2.1 < k) : begS m' = begS m := by
  have hs := begS_size hm hb
  have hd : hdB m' = hdB m := hdB_pre h (by omega)
  have e0 : begS m' = if letB (hdB m) = true then wordS m' else if digB (hdB m) = true then numS m' else if (hdB m == 39) = true then quotedS m' else if sgnN m' = 0 then bad 200 else ((5, m'.take (sgnN m'), 0), sgnN m', 0) := by
    rw [← hd]
    rfl
  rw [e0]
  clear e0 hd
  obtain ⟨R, hR⟩ : ∃ R, R = begS m := ⟨_, rfl⟩
  rw [← hR] at hb hs hk ⊢
  unfold begS at hR
  by_cases c1 : letB (hdB m) = true
  · rw [if_pos c1] at hR ⊢
    unfold wordS at hR ⊢
    cases hkf : keyF (m.take (runN innB m)) with
    | some kk =>
      rw [hkf] at hR
      simp only at hR
      subst hR
      have hr : runN innB m' = runN innB m := run_pre h hk
      rw [hr, ← take_less h (Nat.le_of_lt hk), hkf]
    | none =>
      rw [hkf] at hR
      simp only at hR
      by_cases c24 : 24 < (m.take (runN innB m)).length
      · rw [if_pos c24] at hR
        subst hR
        cases hb
      · rw [if_neg c24] at hR
        subst hR
        have hr : runN innB m' = runN innB m := run_pre h hk
        rw [hr, ← take_less h (Nat.le_of_lt hk), hkf]
        simp only
        rw [if_neg c24]
  · rw [if_neg c1] at hR ⊢
    by_cases c2 : digB (hdB m) = true
    · rw [if_pos c2] at hR ⊢
      unfold numS at hR ⊢
      by_cases cc : dgA 0 (m.take (runN digB m)) < 9223372036854775808 ∧ ¬ letH (m.drop (runN digB m)) = true
      · rw [if_pos cc] at hR
        subst hR
        have hk' : runN digB m < k := hk
        have hr : runN digB m' = runN digB m := run_pre h hk'
        have hl : letH (m'.drop (runN digB m)) = letH (m.drop (runN digB m)) := letH_pre (k := k - runN digB m) (take_drop' (by rw [show runN digB m + (k - runN digB m) = k by omega]; exact h)) (by omega)
        rw [hr, ← take_less h (Nat.le_of_lt hk'), hl, if_pos cc]
      · rw [if_neg cc] at hR
        subst hR
        cases hb
    · rw [if_neg c2] at hR ⊢
      by_cases c3 : (hdB m == 39) = true
      · rw [if_pos c3] at hR ⊢
        unfold quotedS at hR ⊢
        cases hq : quoN false [] 1 0 (m.drop 1) with
        | none =>
          rw [hq] at hR
          subst hR
          cases hb
        | some x =>
          obtain ⟨sd, t⟩ := x
          rw [hq] at hR
          simp only at hR
          by_cases c64 : 64 < sd.length
          · rw [if_pos c64] at hR
            subst hR
            cases hb
          · rw [if_neg c64] at hR
            subst hR
            have hk' : t < k := hk
            rw [quo_pre (m.drop 1) (m'.drop 1) (k - 1) false [] 1 0 sd t (take_drop' (by rw [show 1 + (k - 1) = k by omega]; exact h)) (fun x => by cases x) hq (by omega)]
            simp only
            rw [if_neg c64]
      · rw [if_neg c3] at hR ⊢
        by_cases c4 : sgnN m = 0
        · rw [if_pos c4] at hR
          subst hR
          cases hb
        · rw [if_neg c4] at hR
          subst hR
          have hk' : sgnN m < k := hk
          have e : sgnN m' = sgnN m := sgn_pre (take_less h (by omega))
          rw [e, if_neg c4, ← take_less h (Nat.le_of_lt hk')]
/-- Blanks and remarks ahead of a byte that is kept. -/
theorem blk_pre {r : List UInt8} (hr : Sep r) : ∀ (rm : Bool) (m : List UInt8) (k : Nat), blkN rm m < k → k ≤ m.length → blkN rm (m.take k ++ r) = blkN rm m
  | _, [], k, h1, h2 => by simp at h2; omega
  | _, _ :: _, 0, h1, h2 => by omega
  | true, b :: m, k + 1, h1, h2 => by
    have e : ∀ x, blkN true (b :: x) = blkN ((b.toNat : Int) != 10) x + 1 := fun _ => rfl
    rw [e] at h1
    rw [List.take_succ_cons, List.cons_append, e, e, blk_pre hr _ m k (by omega) (by simpa using h2)]
  | false, b :: m, k + 1, h1, h2 => by
    have e : ∀ x, blkN false (b :: x) = if Lib.hasPrefix (b :: x) [45, 45] = true then blkN true x + 1 else if blkB (b.toNat : Int) = true then blkN false x + 1 else 0 := fun _ => rfl
    by_cases c0 : blkN false (b :: m) = 0
    · rw [c0]
      exact blk_loc hr (by simp) (by omega) c0
    · have h3 : k ≤ m.length := by simpa using h2
      rw [List.take_succ_cons, List.cons_append, e, e]
      rw [e] at h1 c0
      by_cases c1 : Lib.hasPrefix (b :: m) [45, 45] = true
      · rw [if_pos c1] at h1
        cases m with
        | nil => rw [hp1] at c1; cases c1
        | cons c m =>
          have hb1 : 0 < blkN true (c :: m) := by
            show 0 < blkN ((c.toNat : Int) != 10) m + 1
            omega
          obtain ⟨k', rfl⟩ : ∃ k', k = k' + 1 := ⟨k - 1, by omega⟩
          rw [hp2] at c1
          rw [List.take_succ_cons, List.cons_append, hp2, hp2, if_pos c1, if_pos c1, ← List.cons_append, ← List.take_succ_cons, blk_pre hr true (c :: m) (k' + 1) (by omega) h3]
      · rw [if_neg c1] at h1 c0
        by_cases c2 : blkB (b.toNat : Int) = true
        · rw [if_pos c2] at h1
          have hb : b ≠ 45 := by
            intro hb
            subst hb
            exact absurd c2 (by decide)
          have hp : ∀ x : List UInt8, ¬ Lib.hasPrefix (b :: x) [45, 45] = true := by
            intro x hx
            cases x with
            | nil => rw [hp1] at hx; cases hx
            | cons y x =>
              rw [hp2] at hx
              simp only [Bool.and_eq_true, beq_iff_eq] at hx
              exact hb hx.1.symm
          rw [if_neg (hp _), if_neg (hp _), if_pos c2, if_pos c2, blk_pre hr false m k (by omega) h3]
        · rw [if_neg c2] at c0
          exact absurd rfl c0
theorem drop_take_app {l r : List UInt8} {e K : Nat} (he : e ≤ K) (hK : K ≤ l.length) : (l.take K ++ r).drop e = (l.drop e).take (K - e) ++ r := by
  rw [List.drop_append_of_le_length (by rw [List.length_take]; omega), List.drop_take]
theorem plc_low {l : List UInt8} : ∀ (ts : List Tk) (e i : Nat), Plc l e ts → i < ts.length → e < (ts.getD i (errT 0)).to_ ∧ (ts.getD i (errT 0)).to_ ≤ l.length
  | [], e, i, h, hi => by simp at hi
  | t :: ts, e, 0, h, hi => by
    obtain ⟨h1, h2, h3, -⟩ := h
    show e < t.to_ ∧ t.to_ ≤ l.length
    omega
  | t :: ts, e, i + 1, h, hi => by
    obtain ⟨h1, h2, h3, h4, h5, h6⟩ := h
    have := plc_low ts t.to_ i h6 (by simpa using hi)
    show e < (ts.getD i (errT 0)).to_ ∧ (ts.getD i (errT 0)).to_ ≤ l.length
    omega
/-- The tokens up to one that is kept. -/
theorem toks_pre {l r : List UInt8} (hr : Sep r) : ∀ (i : Nat) (ts : List Tk) (e n : Nat), Plc l e ts → i < ts.length → (l.take (ts.getD i (errT 0)).to_ ++ r).length < e + n →
    ∃ rest, toksS n (e + blkN false ((l.take (ts.getD i (errT 0)).to_ ++ r).drop e)) ((l.take (ts.getD i (errT 0)).to_ ++ r).drop (e + blkN false ((l.take (ts.getD i (errT 0)).to_ ++ r).drop e))) = (ts.take (i + 1)).map (fun t => (t, 0)) ++ rest
  | _, [], e, n, h, hi, hn => by simp at hi
  | i, t :: ts, e, 0, h, hi, hn => by
    have := plc_low (t :: ts) e i h hi
    rw [List.length_append, List.length_take] at hn
    omega
  | i, t :: ts, e, n + 1, h, hi, hn => by
    have hlow := plc_low (t :: ts) e i h hi
    obtain ⟨h1, h2, h3, h4, h5, h6⟩ := h
    obtain ⟨K, hK⟩ : ∃ K, ((t :: ts).getD i (errT 0)).to_ = K := ⟨_, rfl⟩
    rw [hK] at hlow hn ⊢
    have htK : t.to_ ≤ K ∧ (0 < i → t.to_ < K) := by
      cases i with
      | zero => have : t.to_ = K := hK; omega
      | succ i =>
        have hK' : (ts.getD i (errT 0)).to_ = K := hK
        have := plc_low ts t.to_ i h6 (by simpa using hi)
        rw [hK'] at this
        omega
    have hb : blkN false ((l.take K ++ r).drop e) = blkN false (l.drop e) := by
      rw [drop_take_app (by omega) hlow.2]
      exact blk_pre hr false (l.drop e) (K - e) (by omega) (by rw [List.length_drop]; omega)
    rw [hb, ← h1]
    have hd : (l.take K ++ r).drop t.at_ = (l.drop t.at_).take (K - t.at_) ++ r := drop_take_app (by omega) hlow.2
    have hbg : begS ((l.take K ++ r).drop t.at_) = ((t.kind, t.text, t.num), t.to_ - t.at_, 0) := by
      rw [hd]
      by_cases hi0 : i = 0
      · subst hi0
        have hKt : K = t.to_ := hK.symm
        have := beg_loc (r := r) hr h4 (by rw [h5])
        rw [h5] at this
        rw [hKt]
        exact this
      · have hlt := htK.2 (by omega)
        have := beg_pre (m := l.drop t.at_) (m' := (l.drop t.at_).take (K - t.at_) ++ r) (k := K - t.at_) (by rw [List.take_append_of_le_length (by rw [List.length_take, List.length_drop]; omega), List.take_take, Nat.min_self]) h4 (by rw [h5]) (by rw [h5]; show t.to_ - t.at_ < K - t.at_; omega)
        rw [this, h5]
    have hne : (l.take K ++ r).drop t.at_ ≠ [] := by
      rw [hd]
      intro hx
      have := congrArg List.length hx
      rw [List.length_append, List.length_take, List.length_drop] at this
      simp only [List.length_nil] at this
      omega
    unfold toksS
    rw [if_neg hne, hbg, if_pos rfl]
    have em : mkT t.at_ ((t.kind, t.text, t.num), t.to_ - t.at_, 0) = (t, 0) := by
      unfold mkT
      rw [if_pos rfl]
      show ((⟨t.kind, t.text, t.num, t.at_, t.at_ + (t.to_ - t.at_)⟩ : Tk), (0 : Int)) = (t, 0)
      rw [show t.at_ + (t.to_ - t.at_) = t.to_ by omega]
    rw [em]
    simp only
    rw [List.drop_drop, List.drop_drop, show t.at_ + (t.to_ - t.at_) = t.to_ by omega, show t.at_ + (t.to_ - t.at_ + blkN false ((l.take K ++ r).drop t.to_)) = t.to_ + blkN false ((l.take K ++ r).drop t.to_) by omega]
    cases i with
    | zero => exact ⟨_, rfl⟩
    | succ i =>
      have hK' : (ts.getD i (errT 0)).to_ = K := hK
      have ih := toks_pre hr i ts t.to_ n h6 (by simpa using hi) (by rw [hK']; omega)
      rw [hK'] at ih
      obtain ⟨rest, hrest⟩ := ih
      refine ⟨rest, ?_⟩
      rw [hrest]
      rfl
/-- Behind a token that is kept the rest may be another one. -/
theorem lex_pre {l b : List UInt8} {ts ts' : List Tk} {a a' i : Nat} (h : lexF l = (ts, 0, a)) (hi : i < ts.length) (h' : lexF (l.take (ts.getD i (errT 0)).to_ ++ 32 :: b) = (ts', 0, a')) : ∀ j, j ≤ i → ts'.getD j (errT 0) = ts.getD j (errT 0) ∧ j < ts'.length := by
  obtain ⟨hp, -, -, -⟩ := lexF_plc h
  have hr : Sep (32 :: b) := .inr ⟨b, rfl⟩
  obtain ⟨l', hl'⟩ : ∃ l', l.take (ts.getD i (errT 0)).to_ ++ 32 :: b = l' := ⟨_, rfl⟩
  obtain ⟨rest, hrest⟩ := toks_pre hr i ts 0 (l'.length + 1) hp hi (by rw [hl']; omega)
  rw [hl'] at hrest h'
  rw [List.drop_zero, Nat.zero_add] at hrest
  have ht : tkS l' = (ts.take (i + 1)).map (fun t => (t, 0)) ++ rest := hrest
  have hs : ts' = (tkS l').map (·.1) := by
    unfold lexF at h'
    by_cases c : 1024 < l'.length
    · rw [if_pos c] at h'; cases h'
    · rw [if_neg c, tokL_S] at h'
      cases hg : lexG 0 (tkS l') with
      | some x =>
        obtain ⟨e, p⟩ := x
        rw [hg] at h'
        simp only [Prod.mk.injEq] at h'
        exact absurd h'.2.1 (lexG_ne _ _ _ _ hg)
      | none =>
        rw [hg] at h'
        simp only [Prod.mk.injEq] at h'
        exact h'.1.symm
  have e2 : ts' = ts.take (i + 1) ++ rest.map (·.1) := by
    rw [hs, ht, List.map_append, List.map_map]
    congr 1
    exact List.map_id' _
  intro j hj
  have hlen : (ts.take (i + 1)).length = i + 1 := by rw [List.length_take]; omega
  refine ⟨?_, by rw [e2, List.length_append, hlen]; omega⟩
  rw [e2]
  simp only [List.getD]
  rw [List.getElem?_append_left (by omega), List.getElem?_take_of_lt (by omega)]
end Go.Proofs.YtiipglmbfgmbbaaGreatDoor
