/-
  Tokens stand one behind the other, nothing but blanks and remarks between them; where a text has none, why.
-/
import Derived.Test.YtblcfjliabeaiaaDoorL41
namespace Go.Proofs.YtblcfjliabeaiaaDoor
open Go.RowKit Go.Shelf

theorem lex_blank {m : List UInt8} (h : blkN false m = m.length) (hl : m.length ≤ 1024) : lexF m = ([], 0, 0) := by
  unfold lexF
  rw [if_neg (by omega), tokL_S]
  have e : tkS m = [] := by
    unfold tkS
    rw [h, List.drop_length]
    unfold toksS
    rw [if_pos rfl]
  rw [e]
  rfl
/-- The token with which a text begins, by itself. -/
theorem lex_alone {m : List UInt8} (hm : m ≠ []) (hb : blkN false m = 0) (h : (begS m).2.2 = 0) (hl : (begS m).2.1 ≤ 1024) :
    lexF (m.take (begS m).2.1) = ([⟨(begS m).1.1, (begS m).1.2.1, (begS m).1.2.2, 0, (begS m).2.1⟩], 0, 0) := by
  have hs := begS_size hm h
  have L := beg_loc (r := []) (.inl rfl) hm h
  have B := blk_loc (r := []) (.inl rfl) hm hs.1 hb
  rw [List.append_nil] at L B
  have ln := take_len hs.2
  obtain ⟨k, hk⟩ : ∃ k, (begS m).2.1 = k := ⟨_, rfl⟩
  rw [hk] at hs L B ln hl ⊢
  have hp : m.take k ≠ [] := fun e => by rw [e] at ln; simp at ln; omega
  unfold lexF
  rw [if_neg (by omega), tokL_S]
  have e : tkS (m.take k) = [(⟨(begS m).1.1, (begS m).1.2.1, (begS m).1.2.2, 0, k⟩, 0)] := by
    unfold tkS
    rw [B, List.drop_zero, ln]
    unfold toksS
    rw [if_neg hp, L, if_pos h, hk, show (m.take k).drop k = [] from List.drop_eq_nil_of_le (by omega)]
    have e2 : blkN false [] = 0 := rfl
    rw [e2, Nat.add_zero, Nat.add_zero, show (m.take k).drop k = [] from List.drop_eq_nil_of_le (by omega)]
    have e3 : ∀ n p, toksS n p [] = [] := fun n p => by cases n <;> simp [toksS]
    rw [e3]
    unfold mkT
    rw [if_pos h, hk, Nat.zero_add]
  rw [e]
  rfl
/-- Tokens stand one behind the other, and blanks and remarks between them. -/
def Plc (l : List UInt8) : Nat → List Tk → Prop
  | e, [] => e ≤ l.length ∧ blkN false (l.drop e) = (l.drop e).length
  | e, t :: r => t.at_ = e + blkN false (l.drop e) ∧ t.at_ < t.to_ ∧ t.to_ ≤ l.length ∧ l.drop t.at_ ≠ [] ∧ begS (l.drop t.at_) = ((t.kind, t.text, t.num), t.to_ - t.at_, 0) ∧ Plc l t.to_ r
theorem plc_toks (l : List UInt8) : ∀ (n e : Nat), e ≤ l.length → l.length < e + n → (∀ x ∈ toksS n (e + blkN false (l.drop e)) (l.drop (e + blkN false (l.drop e))), x.2 = 0) → Plc l e ((toksS n (e + blkN false (l.drop e)) (l.drop (e + blkN false (l.drop e)))).map (·.1))
  | 0, e, h1, h2, _ => by omega
  | n + 1, e, h1, h2, h => by
    have hle := blkN_le false (l.drop e)
    rw [List.length_drop] at hle
    obtain ⟨p, hp⟩ : ∃ p, e + blkN false (l.drop e) = p := ⟨_, rfl⟩
    rw [hp] at h ⊢
    unfold toksS at h ⊢
    by_cases c : l.drop p = []
    · rw [if_pos c]
      have := congrArg List.length c
      rw [List.length_drop] at this
      simp only [List.length_nil] at this
      refine ⟨h1, ?_⟩
      rw [List.length_drop]
      omega
    · rw [if_neg c] at h ⊢
      by_cases he : (begS (l.drop p)).2.2 = 0
      · rw [if_pos he] at h ⊢
        have hs := begS_size c he
        rw [List.length_drop] at hs
        have e1 : mkT p (begS (l.drop p)) = (⟨(begS (l.drop p)).1.1, (begS (l.drop p)).1.2.1, (begS (l.drop p)).1.2.2, p, p + (begS (l.drop p)).2.1⟩, 0) := by unfold mkT; rw [if_pos he]
        rw [e1, List.drop_drop, List.drop_drop] at h ⊢
        obtain ⟨k, hk⟩ : ∃ k, (begS (l.drop p)).2.1 = k := ⟨_, rfl⟩
        rw [hk] at h hs ⊢
        rw [List.map_cons]
        refine ⟨hp.symm, by show p < p + k; omega, by show p + k ≤ l.length; omega, c, ?_, ?_⟩
        · show begS (l.drop p) = (((begS (l.drop p)).1.1, (begS (l.drop p)).1.2.1, (begS (l.drop p)).1.2.2), p + k - p, 0)
          rw [show p + k - p = k by omega]
          rw [← hk, ← he]
        · show Plc l (p + k) _
          have := plc_toks l n (p + k) (by omega) (by omega)
          rw [Nat.add_assoc p k] at this ⊢
          rw [Nat.add_assoc p k] at h
          exact this fun x hx => h x (List.mem_cons_of_mem _ hx)
      · rw [if_neg he] at h
        have := h _ (List.mem_cons_self ..)
        unfold mkT at this
        rw [if_neg he] at this
        exact absurd this he
theorem lexF_plc {l : List UInt8} {ts : List Tk} {a : Nat} (h : lexF l = (ts, 0, a)) : Plc l 0 ts ∧ ts.length ≤ 300 ∧ a = 0 ∧ l.length ≤ 1024 := by
  unfold lexF at h
  by_cases c : 1024 < l.length
  · rw [if_pos c] at h; cases h
  · rw [if_neg c, tokL_S] at h
    cases hg : lexG 0 (tkS l) with
    | some x =>
      obtain ⟨e, p⟩ := x
      rw [hg] at h
      simp only [Prod.mk.injEq] at h
      exact absurd h.2.1 (lexG_ne _ _ _ _ hg)
    | none =>
      rw [hg] at h
      simp only [Prod.mk.injEq] at h
      obtain ⟨h1, h2⟩ := lexG_none _ _ (by omega) hg
      have P := plc_toks l (l.length + 1) 0 (by omega) (by omega)
      rw [List.drop_zero, Nat.zero_add] at P
      refine ⟨by rw [← h.1]; exact P h1, by rw [← h.1, List.length_map]; omega, h.2.2.symm, by omega⟩
/-- Where the token ahead of number i ends. -/
def endF (ts : List Tk) : Nat → Nat
  | 0 => 0
  | i + 1 => (ts.getD i (errT 0)).to_
theorem plc_at {l : List UInt8} {ts : List Tk} (h : Plc l 0 ts) : ∀ i, i ≤ ts.length → Plc l (endF ts i) (ts.drop i)
  | 0, _ => h
  | i + 1, hi => by
    have hi' : i < ts.length := by omega
    have := plc_at h i (by omega)
    rw [List.drop_eq_getElem_cons hi'] at this
    have e : endF ts (i + 1) = ts[i].to_ := by simp [endF, List.getD, hi']
    rw [e]
    exact this.2.2.2.2.2
/-- What LexPlaces asks of one token. -/
structure Pl1 (l : List UInt8) (e : Nat) (t : Tk) : Prop where
  a : e ≤ t.at_
  b : t.at_ < t.to_
  c : t.to_ ≤ l.length
  gap : lexF (cutF l e t.at_) = ([], 0, 0)
  own : lexF (cutF l t.at_ t.to_) = ([⟨t.kind, t.text, t.num, 0, t.to_ - t.at_⟩], 0, 0)
  core : begS (l.drop t.at_) = ((t.kind, t.text, t.num), t.to_ - t.at_, 0)
theorem cut_take (l : List UInt8) (p k : Nat) : cutF l p (p + k) = (l.drop p).take k := by
  unfold cutF
  rw [List.drop_take]
  congr 1
  omega
theorem plc_one {l : List UInt8} {ts : List Tk} (hl : l.length ≤ 1024) (h : Plc l 0 ts) {i : Nat} (hi : i < ts.length) : Pl1 l (endF ts i) (ts.getD i (errT 0)) := by
  have := plc_at h i (by omega)
  rw [List.drop_eq_getElem_cons hi] at this
  have e : ts.getD i (errT 0) = ts[i] := by simp [List.getD, hi]
  rw [e]
  obtain ⟨t, ht⟩ : ∃ t, ts[i] = t := ⟨_, rfl⟩
  rw [ht] at this ⊢
  obtain ⟨h1, h2, h3, h4, h5, -⟩ := this
  have hb : blkN false (l.drop t.at_) = 0 := by
    rw [h1, ← List.drop_drop]
    exact blk_done false _
  refine ⟨by omega, h2, h3, ?_, ?_, h5⟩
  · rw [h1, cut_take]
    have s := blk_self false (l.drop (endF ts i))
    have ln := take_len (blkN_le false (l.drop (endF ts i)))
    exact lex_blank (by rw [s, ln]) (by rw [ln]; have := blkN_le false (l.drop (endF ts i)); rw [List.length_drop] at this; omega)
  · have e2 : cutF l t.at_ t.to_ = (l.drop t.at_).take (t.to_ - t.at_) := by
      rw [← cut_take]
      congr 1
      omega
    have := lex_alone h4 hb (by rw [h5]) (by rw [h5]; show t.to_ - t.at_ ≤ 1024; omega)
    rw [h5] at this
    rw [e2]
    exact this
theorem plc_end {l : List UInt8} {ts : List Tk} (hl : l.length ≤ 1024) (h : Plc l 0 ts) : endF ts ts.length ≤ l.length ∧ lexF (l.drop (endF ts ts.length)) = ([], 0, 0) := by
  have := plc_at h ts.length (Nat.le_refl _)
  rw [List.drop_length] at this
  exact ⟨this.1, lex_blank this.2 (by rw [List.length_drop]; omega)⟩
/-- Where a text has no tokens, it is told within it. -/
theorem toksS_at : ∀ (n p : Nat) (m : List UInt8), ∀ x ∈ toksS n p m, x.1.at_ < p + m.length
  | 0, _, _, x, hx => by cases hx
  | n + 1, p, m, x, hx => by
    unfold toksS at hx
    by_cases c : m = []
    · rw [if_pos c] at hx; cases hx
    · have hl : 0 < m.length := List.length_pos_iff.2 c
      have ea : (mkT p (begS m)).1.at_ = p := by unfold mkT; split <;> rfl
      rw [if_neg c] at hx
      by_cases he : (begS m).2.2 = 0
      · have hs := begS_size c he
        rw [if_pos he] at hx
        rcases List.mem_cons.1 hx with rfl | hx
        · omega
        · have h1 := toksS_at n _ _ x hx
          have h2 := blkN_le false (m.drop (begS m).2.1)
          rw [List.length_drop] at h1 h2
          omega
      · rw [if_neg he] at hx
        rcases List.mem_cons.1 hx with rfl | hx
        · omega
        · cases hx
theorem lexG_at (N : Nat) : ∀ (S : List (Tk × Int)) (k : Nat) (e : Int) (a : Nat), (∀ x ∈ S, x.1.at_ < N) → lexG k S = some (e, a) → a < N
  | [], _, _, _, _, h => by cases h
  | (t, e') :: r, k, e, a, hN, h => by
    have h0 := hN _ (List.mem_cons_self ..)
    unfold lexG at h
    by_cases c : e' ≠ 0
    · rw [if_pos c] at h
      injection h with h
      injection h with h1 h2
      rw [← h2]
      exact h0
    · rw [if_neg c] at h
      by_cases c2 : k = 300
      · rw [if_pos c2] at h
        injection h with h
        injection h with h1 h2
        rw [← h2]
        exact h0
      · rw [if_neg c2] at h
        exact lexG_at N r _ _ _ (fun x hx => hN x (List.mem_cons_of_mem _ hx)) h
/-- What Lex answers: tokens, or nothing and why. -/
theorem lexF_cases (l : List UInt8) : (∃ ts, lexF l = (ts, 0, 0)) ∨ ∃ e a, lexF l = ([], e, a) ∧ e ≠ 0 ∧ a ≤ l.length := by
  unfold lexF
  by_cases c : 1024 < l.length
  · rw [if_pos c]
    exact .inr ⟨3, 0, rfl, by decide, Nat.zero_le _⟩
  · rw [if_neg c, tokL_S]
    cases hg : lexG 0 (tkS l) with
    | some x =>
      obtain ⟨e, p⟩ := x
      refine .inr ⟨e, p, rfl, lexG_ne _ _ _ _ hg, Nat.le_of_lt (lexG_at l.length _ _ _ _ (fun x hx => ?_) hg)⟩
      unfold tkS at hx
      have h1 := toksS_at _ _ _ x hx
      have h2 := blkN_le false l
      rw [List.length_drop] at h1
      omega
    | none => exact .inl ⟨_, rfl⟩
end Go.Proofs.YtblcfjliabeaiaaDoor
