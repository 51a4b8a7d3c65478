/-
  The program's Test, whole.
-/
import Derived.Test.YtndkoefchlclkaaV6
namespace Go.Proofs.Ytndkoefchlclkaa
open Go.RowKit

/-- What op says by how the two stand. -/
def tcmp (op c : Int) : Bool := if op = 1 then c == 0 else if op = 2 then c != 0 else if op = 3 then c == (-1) else if op = 4 then c != 1 else if op = 5 then c == 1 else c != (-1)
/-- What Test answers: the truth. -/
def tstT (op k n : Int) (s : ByteArray) (k' n' : Int) (s' : ByteArray) : Int :=
  if askd op 7 k n s k' n' s' ≠ 0 then 0 else if k = 1 ∨ k' = 1 then 2 else if k ≠ k' ∨ (k = 2 ∧ op ≠ 1 ∧ op ≠ 2) then 0 else b2i (tcmp op (cmpV k n s k' n' s'))
/-- What Test answers: the error. -/
def tstE (op k n : Int) (s : ByteArray) (k' n' : Int) (s' : ByteArray) : Int :=
  if askd op 7 k n s k' n' s' ≠ 0 then askd op 7 k n s k' n' s' else if k = 1 ∨ k' = 1 then 0 else if k ≠ k' ∨ (k = 2 ∧ op ≠ 1 ∧ op ≠ 2) then 153 else 0

theorem askd_zero {op en k n : Int} {s : ByteArray} {k' n' : Int} {s' : ByteArray} (h : askd op en k n s k' n' s' = 0) : 1 ≤ op ∧ op < en ∧ Rt k n s = true ∧ Rt k' n' s' = true := by
  unfold askd chk at h
  by_cases h1 : op < 1 ∨ en ≤ op
  · rw [if_pos h1] at h; cases h
  · rw [if_neg h1] at h
    by_cases h2 : Rt k n s = true
    · rw [if_pos h2] at h
      by_cases h3 : Rt k' n' s' = true
      · exact ⟨by omega, by omega, h2, h3⟩
      · rw [if_neg h3] at h; cases h
    · rw [if_neg h2] at h; cases h
theorem null_eq {k n : Int} {s : ByteArray} (h : Rt k n s = true) : Eqv k n s 1 0 E0 = decide (k = 1) := by
  unfold Rt at h
  unfold Eqv
  rw [decide_eq_decide]
  have h := of_decide_eq_true h
  by_cases hk : k = 1
  · subst hk
    rcases h with ⟨_, h1, h2⟩ | ⟨h0, _⟩ | ⟨h0, _⟩ | ⟨h0, _⟩
    · exact ⟨fun _ => rfl, fun _ => ⟨rfl, h1, h2⟩⟩
    all_goals exact absurd h0 (by decide)
  · exact ⟨fun e => e.1, fun e => absurd e hk⟩

theorem test_any (op k n : Int) (s : ByteArray) (k' n' : Int) (s' : ByteArray) (w : World) : Calls Try.prog 21 #[.int .i64 op, .agg #[.int .i64 k, .int .i64 n, .string s], .agg #[.int .i64 k', .int .i64 n', .string s']] w (Told w (tstT op k n s k' n' s') (tstE op k n s k' n' s')) := by
  unfold tstT tstE
  by_cases hz : askd op 7 k n s k' n' s' = 0
  · obtain ⟨o1, o2, r1, r2⟩ := askd_zero hz
    have e1 := null_eq r1
    have e2 := null_eq r2
    have hz' : ¬ (askd op 7 k n s k' n' s' ≠ 0) := fun h => h hz
    rw [if_neg hz', if_neg hz']
    by_cases h1 : k = 1
    · have q : k = 1 ∨ k' = 1 := .inl h1
      rw [if_pos q, if_pos q]
      exact test_null1 op k n s k' n' s' w hz (by rw [e1]; exact decide_eq_true h1)
    · by_cases h2 : k' = 1
      · have q : k = 1 ∨ k' = 1 := .inr h2
        rw [if_pos q, if_pos q]
        exact test_null2 op k n s k' n' s' w hz (by rw [e1]; exact decide_eq_false h1) (by rw [e2]; exact decide_eq_true h2)
      · have q : ¬ (k = 1 ∨ k' = 1) := by omega
        rw [if_neg q, if_neg q]
        rw [decide_eq_false h1] at e1
        rw [decide_eq_false h2] at e2
        by_cases h3 : k = k'
        · subst h3
          by_cases h4 : k = 2
          · subst h4
            by_cases h5 : op = 1
            · subst h5
              have q : ¬ ((2 : Int) ≠ 2 ∨ ((2 : Int) = 2 ∧ (1 : Int) ≠ 1 ∧ (1 : Int) ≠ 2)) := by omega
              rw [if_neg q, if_neg q]
              exact test_op1b n s n' s' w hz e1 e2
            · by_cases h6 : op = 2
              · subst h6
                have q : ¬ ((2 : Int) ≠ 2 ∨ ((2 : Int) = 2 ∧ (2 : Int) ≠ 1 ∧ (2 : Int) ≠ 2)) := by omega
                rw [if_neg q, if_neg q]
                exact test_op2b n s n' s' w hz e1 e2
              · have q : ((2 : Int) ≠ 2 ∨ ((2 : Int) = 2 ∧ op ≠ 1 ∧ op ≠ 2)) := .inr ⟨rfl, h5, h6⟩
                rw [if_pos q, if_pos q]
                exact test_type2 op n s n' s' w hz e1 e2 (by simp [h5]) (by simp [h6])
          · have q : ¬ (k ≠ k ∨ (k = 2 ∧ op ≠ 1 ∧ op ≠ 2)) := by omega
            rw [if_neg q, if_neg q]
            have h4' : (k == 2) = false := by simp [h4]
            rcases (show op = 1 ∨ op = 2 ∨ op = 3 ∨ op = 4 ∨ op = 5 ∨ op = 6 by omega) with rfl | rfl | rfl | rfl | rfl | rfl
            · exact test_op1 k n s n' s' w hz e1 e2 h4'
            · exact test_op2 k n s n' s' w hz e1 e2 h4'
            · exact test_op3 k n s n' s' w hz e1 e2 h4'
            · exact test_op4 k n s n' s' w hz e1 e2 h4'
            · exact test_op5 k n s n' s' w hz e1 e2 h4'
            · exact test_op6 k n s n' s' w hz e1 e2 h4'
        · have q : (k ≠ k' ∨ (k = 2 ∧ op ≠ 1 ∧ op ≠ 2)) := .inl h3
          rw [if_pos q, if_pos q]
          exact test_type1 op k n s k' n' s' w hz e1 e2 (by simp [h3])
  · rw [if_pos hz, if_pos hz]
    exact test_err op k n s k' n' s' w hz


end Go.Proofs.Ytndkoefchlclkaa
