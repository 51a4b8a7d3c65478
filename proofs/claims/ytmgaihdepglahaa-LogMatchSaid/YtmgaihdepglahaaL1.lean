/-
  Which entries may be: the program's entryMayBe, the document's RightEntry.
-/
import Derived.Test.YtmgaihdepglahaaB0
namespace Go.Proofs.Ytmgaihdepglahaa
open Go.RowKit

theorem rightE_zero (k : Int) (d : List Int) : rightE ⟨0, k, d⟩ = false := rfl
theorem rightE_long (t k : Int) (d : List Int) (h : 1024 < d.length) : rightE ⟨t, k, d⟩ = false := by
  unfold rightE
  rw [decide_eq_false (show ¬ d.length ≤ 1024 by omega)]
  simp
theorem rightE_one (t : Int) (d : List Int) (h0 : t ≠ 0) (h : d.length ≤ 1024) : rightE ⟨t, 1, d⟩ = decide (d.length = 0) := by
  unfold rightE
  simp [h0, h]
theorem rightE_two (t : Int) (k : Int) (d : List Int) (h0 : t ≠ 0) (h : d.length ≤ 1024) (hk : k = 2 ∨ k = 3) : rightE ⟨t, k, d⟩ = true := by
  unfold rightE
  rcases hk with rfl | rfl <;> simp [h0, h]
theorem rightE_else (t : Int) (k : Int) (d : List Int) (hk : k ≠ 1) (hk2 : k ≠ 2) (hk3 : k ≠ 3) : rightE ⟨t, k, d⟩ = false := by
  unfold rightE
  simp [hk, hk2, hk3]

section
variable (t k : Int) (A : Option Addr) (n c : Nat) (d : List Int) (hd : d.length = n) (ht : 0 ≤ t) (w : World)
include hd ht
theorem rightentry_any : Calls Try.prog 69 #[.agg #[.int .u64 t, .int .i64 k, .slice A n c]] w fun e w' => e = .returned (.bool (rightE ⟨t, k, d⟩)) ∧ Below w.heap.size w w' := by
  have HB := Lib.hid (show Below w.heap.size w (w.alloc (.cells #[.int .u64 t, .int .i64 k, .slice A n c] 54)) from (Below.refl _ _).alloc (Nat.le_refl _) _)
  by_cases h0 : t = 0
  · subst h0
    rw [rightE_zero]
    clear hd
    go_enter Try.func69, Try.ntmps69
    go_wp2
    go_ret
    exact ⟨rfl, HB.out⟩
  · have h0' : (t == 0) = false := by simp [h0]
    by_cases hn : n ≤ 1024
    · have hn' : decide (1024 < (n : Int)) = false := decide_eq_false (by omega)
      by_cases h1 : k = 1
      · subst h1
        rw [rightE_one t d h0 (by omega), hd]
        clear hd h0 ht
        go_enter Try.func69, Try.ntmps69
        go_wp2
        go_ret
        exact ⟨ret_bool (by rw [Bool.eq_iff_iff]; simp), HB.out⟩
      · have h1' : (k == 1) = false := by simp [h1]
        by_cases h2 : k = 2
        · subst h2
          rw [rightE_two t 2 d h0 (by omega) (.inl rfl)]
          clear hd h0 ht h1
          go_enter Try.func69, Try.ntmps69
          go_wp2
          go_ret
          exact ⟨rfl, HB.out⟩
        · have h2' : (k == 2) = false := by simp [h2]
          by_cases h3 : k = 3
          · subst h3
            rw [rightE_two t 3 d h0 (by omega) (.inr rfl)]
            clear hd h0 ht h1 h2
            go_enter Try.func69, Try.ntmps69
            go_wp2
            go_ret
            exact ⟨rfl, HB.out⟩
          · have h3' : (k == 3) = false := by simp [h3]
            rw [rightE_else t k d h1 h2 h3]
            clear hd h0 ht h1 h2 h3
            go_enter Try.func69, Try.ntmps69
            go_wp2
            go_ret
            exact ⟨rfl, HB.out⟩
    · have hn' : decide (1024 < (n : Int)) = true := decide_eq_true (by omega)
      rw [rightE_long t k d (by omega)]
      clear hd h0 ht hn
      go_enter Try.func69, Try.ntmps69
      go_wp2
      go_ret
      exact ⟨rfl, HB.out⟩

theorem entrymaybe_any : Calls Try.prog 78 #[.agg #[.int .u64 t, .int .i64 k, .slice A n c]] w fun e w' => e = .returned (.bool (rightE ⟨t, k, d⟩)) ∧ Below w.heap.size w w' := by
  have HB := Lib.hid (show Below w.heap.size w (w.alloc (.cells #[.int .u64 t, .int .i64 k, .slice A n c] 54)) from (Below.refl _ _).alloc (Nat.le_refl _) _)
  by_cases h1 : k = 1
  · subst h1
    by_cases h0 : t = 0
    · subst h0
      rw [rightE_zero]
      clear hd
      go_enter Try.func78, Try.ntmps78
      go_wp2
      go_ret
      exact ⟨rfl, HB.out⟩
    · have h0' : decide (0 < t) = true := decide_eq_true (by omega)
      have hz : rightE ⟨t, 1, d⟩ = ((n : Int) == 0) := by
        by_cases hn : n ≤ 1024
        · rw [rightE_one t d h0 (by omega), hd, Bool.eq_iff_iff]; simp
        · rw [rightE_long t 1 d (by omega), Bool.eq_iff_iff]; simp; omega
      rw [hz]
      clear hd h0 ht hz
      go_enter Try.func78, Try.ntmps78
      go_wp2
      go_ret
      exact ⟨rfl, HB.out⟩
  · have h1' : (k == 1) = false := by simp [h1]
    by_cases h23 : k = 2 ∨ k = 3
    · have hz : rightE ⟨t, k, d⟩ = (decide (0 < t) && decide ((n : Int) ≤ 1024)) := by
        by_cases h0 : t = 0
        · subst h0
          rw [rightE_zero]; rfl
        · rw [decide_eq_true (show 0 < t by omega), Bool.true_and]
          by_cases hn : n ≤ 1024
          · rw [rightE_two t k d h0 (by omega) h23, decide_eq_true (show (n : Int) ≤ 1024 by omega)]
          · rw [rightE_long t k d (by omega), decide_eq_false (show ¬ (n : Int) ≤ 1024 by omega)]
      rw [hz]
      clear hz hd
      by_cases h0 : t = 0
      · subst h0
        rcases h23 with rfl | rfl
        all_goals
          go_enter Try.func78, Try.ntmps78
          go_wp2
          go_ret
          exact ⟨rfl, HB.out⟩
      · have h0' : decide (0 < t) = true := decide_eq_true (by omega)
        rw [h0', Bool.true_and]
        clear h0 ht
        rcases h23 with rfl | rfl
        all_goals
          clear h1
          go_enter Try.func78, Try.ntmps78
          go_wp2
          go_ret
          exact ⟨rfl, HB.out⟩
    · have h2' : (k == 2) = false := by simp; omega
      have h3' : (k == 3) = false := by simp; omega
      rw [rightE_else t k d h1 (by omega) (by omega)]
      clear hd ht h23 h1
      go_enter Try.func78, Try.ntmps78
      go_wp2
      go_ret
      exact ⟨rfl, HB.out⟩
end

end Go.Proofs.Ytmgaihdepglahaa
