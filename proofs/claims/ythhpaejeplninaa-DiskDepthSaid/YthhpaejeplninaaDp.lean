/-
  What the law DiskDepth asks of disks as values.
-/
import Derived.Test.YthhpaejeplninaaCn
namespace Go.Proofs.Ythhpaejeplninaa
open Go.RowKit

/-- Kept, or Depth places ahead of one that was kept. -/
def wider (ks : List Bool) (k : Nat) : Bool := kept ks k || decide ((k : Int) + 4 ≤ lastK ks ks.length)
def widen (ks : List Bool) (j : Nat) : List Bool := (List.range ks.length).map fun i => if i < j then wider ks i else kept ks i
theorem widen_len (ks : List Bool) (j : Nat) : (widen ks j).length = ks.length := by simp [widen]
theorem widen_get (ks : List Bool) (j i : Nat) (hi : i < ks.length) : (widen ks j).getD i false = if i < j then wider ks i else kept ks i := by simp [widen, List.getD, hi]
theorem widen_zero (ks : List Bool) : widen ks 0 = ks := by
  apply List.ext_getElem
  · exact widen_len ks 0
  · intro i h1 h2
    simp [widen, kept, List.getD, h2]
theorem kept_out {ks : List Bool} {k : Nat} (h : ks.length ≤ k) : kept ks k = false := by simp [kept, List.getD, h]
theorem wider_iff (ks : List Bool) (k : Nat) : wider ks k = true ↔ kept ks k = true ∨ ∃ p, p < ks.length ∧ kept ks p = true ∧ k + 4 ≤ p := by
  have h := dn_last ks ks.length k
  rw [decide_eq_decide] at h
  unfold wider
  rw [Bool.or_eq_true, decide_eq_true_eq, ← h]
  constructor
  · rintro (h1 | h1)
    · exact .inl h1
    · exact .inr (by omega)
  · rintro (h1 | h1)
    · exact .inl h1
    · exact .inr (by omega)
theorem kept_widen (ks : List Bool) (k : Nat) : kept (widen ks ks.length) k = wider ks k := by
  by_cases hk : k < ks.length
  · unfold kept
    rw [widen_get ks _ k hk, if_pos hk]
  · rw [kept_out (by rw [widen_len]; omega)]
    have : ¬ wider ks k = true := by
      rw [wider_iff]
      rintro (h | ⟨p, hp, _, h⟩)
      · rw [kept_out (by omega)] at h; cases h
      · omega
    simpa using this
theorem dn_iff (n : Nat) (ks : List Bool) (k : Nat) : dn n ks k = true ↔ kept ks k = true ∨ ∃ p, p < n ∧ kept ks p = true ∧ k + 4 ≤ p := by
  unfold dn
  rw [Bool.or_eq_true, decide_eq_true_eq]
theorem dn_wider {n : Nat} {ks : List Bool} (hn : ks.length ≤ n) (k : Nat) : dn n ks k = wider ks k := by
  rw [Bool.eq_iff_iff, dn_iff, wider_iff]
  constructor
  · rintro (h | ⟨p, h1, h2, h3⟩)
    · exact .inl h
    · refine .inr ⟨p, ?_, h2, h3⟩
      by_cases hp : p < ks.length
      · exact hp
      · rw [kept_out (by omega)] at h2; cases h2
  · rintro (h | ⟨p, h1, h2, h3⟩)
    · exact .inl h
    · exact .inr ⟨p, by omega, h2, h3⟩
theorem dn_widen {n : Nat} {ks : List Bool} (hn : ks.length ≤ n) (k : Nat) : dn n (widen ks ks.length) k = dn n ks k := by
  rw [Bool.eq_iff_iff, dn_iff, kept_widen, dn_wider hn]
  constructor
  · rintro (h | ⟨p, h1, h2, h3⟩)
    · exact h
    · rw [kept_widen, wider_iff] at h2
      rw [wider_iff]
      rcases h2 with h2 | ⟨p', h4, h5, h6⟩
      · refine .inr ⟨p, ?_, h2, h3⟩
        by_cases hp : p < ks.length
        · exact hp
        · rw [kept_out (by omega)] at h2; cases h2
      · exact .inr ⟨p', h4, h5, by omega⟩
  · exact .inl
theorem crashed_widen (S : DSt) {ks : List Bool} (hn : ks.length ≤ S.q.length) : (crashed S (widen ks ks.length)).has = (crashed S ks).has := by
  show doN _ _ _ _ = doN _ _ _ _
  exact doN_congr _ _ _ fun k _ => dn_widen hn k
theorem doN_miss {done : Nat → Bool} {q : List (Int × List Value)} {has : List (List Value)} {i : Nat} : ∀ n, (∀ k, k < n → done k = true → (q.getD k (0, [])).1.toNat ≠ i) → (doN done q has n).getD i [] = has.getD i []
  | 0, _ => rfl
  | n + 1, h => by
    rw [doN]
    split
    · rename_i hd
      have hne := h n (by omega) hd
      rw [← doN_miss (done := done) (q := q) (has := has) (i := i) n fun k hk => h k (by omega)]
      generalize q.getD n (0, []) = x at hne ⊢
      simp only [List.getD]
      rw [List.getElem?_set_ne hne]
    · exact doN_miss n fun k hk => h k (by omega)
theorem crashed_nothing (S : DSt) : (crashed S []).has = S.has := by
  show doN _ _ _ _ = _
  rw [doN_congr (d' := fun _ => false) S.q S.has S.q.length fun k _ => by
    have : ¬ dn S.q.length [] k = true := by
      rw [dn_iff]
      rintro (h | ⟨p, _, h, _⟩) <;> cases h
    simpa using this]
  have : ∀ n, doN (fun _ => false) S.q S.has n = S.has := fun n => by
    induction n with
    | zero => rfl
    | succ n ih => rw [doN, if_neg (by simp)]; exact ih
  exact this _

/-- One of the first j writes goes to sector i and lives on. -/
def Lives (q : List (Int × List Value)) (ks : List Bool) (j : Nat) (i : Int) : Prop := ∃ k, k < j ∧ (q.getD k (0, [])).1 = i ∧ k < ks.length ∧ kept ks k = true
instance (q : List (Int × List Value)) (ks : List Bool) (j : Nat) (i : Int) : Decidable (Lives q ks j i) := by unfold Lives; infer_instance
theorem Lives.zero (q : List (Int × List Value)) (ks : List Bool) (i : Int) : ¬ Lives q ks 0 i := fun ⟨k, h, _⟩ => by omega
theorem Lives.succ (q : List (Int × List Value)) (ks : List Bool) (j : Nat) (i : Int) : Lives q ks (j + 1) i ↔ Lives q ks j i ∨ ((q.getD j (0, [])).1 = i ∧ j < ks.length ∧ kept ks j = true) := by
  constructor
  · rintro ⟨k, h1, h2⟩
    by_cases hk : k = j
    · subst hk; exact .inr h2
    · exact .inl ⟨k, by omega, h2⟩
  · rintro (⟨k, h1, h2⟩ | h)
    · exact ⟨k, by omega, h2⟩
    · exact ⟨j, by omega, h⟩
theorem some_least {S : DSt} (h : S.ok) {ks : List Bool} (hn : ks.length ≤ S.q.length) {i : Nat} (hl : ¬ Lives S.q (widen ks ks.length) S.q.length i) : (crashed S ks).has.getD i [] = S.has.getD i [] := by
  refine doN_miss _ fun k hk hd e => hl ⟨k, hk, ?_, ?_, ?_⟩
  · have := (h.at_ hk).2.1
    omega
  · rw [widen_len]
    rw [dn_wider hn, wider_iff] at hd
    rcases hd with hd | ⟨p, h1, _, h2⟩
    · by_cases hp : k < ks.length
      · exact hp
      · rw [kept_out (by omega)] at hd; cases hd
    · omega
  · rw [kept_widen, ← dn_wider hn]; exact hd
theorem most_least {S : DSt} (h : S.ok) (ks : List Bool) {i : Nat} (hl : ¬ In S.q S.q.length i) : (crashed S ks).has.getD i [] = S.has.getD i [] := by
  refine doN_miss _ fun k hk _ e => hl ⟨k, hk, ?_⟩
  have := (h.at_ hk).2.1
  omega

end Go.Proofs.Ythhpaejeplninaa
