/-
  The order of two texts is the order of the digests, in plain words.
-/
import Derived.Test.YtbemnolgolecaaaDoorL1
import Derived.Test.YtbemnolgolecaaaDoorT2
namespace Go.Proofs.YtbemnolgolecaaaDoor

theorem hx_lt (m n : Nat) (hm : m < 16) (hn : n < 16) : hx m < hx n ↔ m < n := by
  unfold hx
  split <;> split <;> omega
theorem hx_ne (m n : Nat) (hm : m < 16) (hn : n < 16) (h : m ≠ n) : hx m ≠ hx n := by
  unfold hx
  split <;> split <;> omega
theorem text_bs (a : List Int) (ba : Bs a) : Bs (textF a) := fun j => by
  have l : (textF a).length = 64 := txtL_len a 32
  by_cases hj : j < 64
  · obtain ⟨t0, t1⟩ := txtL_at a 32 (j / 2) (by omega)
    have hb := ba (j / 2)
    have r0 := hx_range ((a.getD (j / 2) 0).toNat / 16) (by omega)
    have r1 := hx_range ((a.getD (j / 2) 0).toNat % 16) (by omega)
    by_cases he : j = 2 * (j / 2)
    · rw [← he] at t0
      unfold textF
      rw [t0]
      exact r0
    · rw [← (show j = 2 * (j / 2) + 1 by omega)] at t1
      unfold textF
      rw [t1]
      exact r1
  · rw [List.getD_eq_getElem?_getD, List.getElem?_eq_none (by omega)]
    decide
/-- The first place at which two rows differ. -/
theorem first_ne (a b : List Int) : ∀ n, (∀ i, i < n → a.getD i 0 = b.getD i 0) ∨ ∃ k, k < n ∧ (∀ i, i < k → a.getD i 0 = b.getD i 0) ∧ a.getD k 0 ≠ b.getD k 0
  | 0 => .inl fun i hi => absurd hi (by omega)
  | n + 1 => by
    rcases first_ne a b n with h | ⟨k, hk, h1, h2⟩
    · by_cases he : a.getD n 0 = b.getD n 0
      · exact .inl fun i hi => by
          by_cases hin : i < n
          · exact h i hin
          · obtain rfl : i = n := by omega
            exact he
      · exact .inr ⟨n, by omega, h, he⟩
    · exact .inr ⟨k, by omega, h1, h2⟩
theorem text_order (a b : List Int) (ha : a.length = 32) (hb : b.length = 32) (ba : Bs a) (bb : Bs b) : cmpL (textF a) (textF b) < 0 ↔ cmpL a b < 0 := by
  have la : (textF a).length = 64 := txtL_len a 32
  have lb : (textF b).length = 64 := txtL_len b 32
  rcases first_ne a b 32 with h | ⟨k, hk, h1, h2⟩
  · have hab : a = b := by
      apply List.ext_getElem
      · rw [ha, hb]
      · intro i p q
        have := h i (by omega)
        simpa [List.getD, p, q] using this
    subst hab
    unfold cmpL
    rw [cmp_self, cmp_self]
  · have c := cmp_ne k a b ba bb (by omega) (by omega) h1 h2
    have hka := ba k
    have hkb := bb k
    obtain ⟨a0, a1⟩ := txtL_at a 32 k hk
    obtain ⟨b0, b1⟩ := txtL_at b 32 k hk
    have pre : ∀ i, i < 2 * k → (textF a).getD i 0 = (textF b).getD i 0 := fun i hi => by
      obtain ⟨s0, s1⟩ := txtL_at a 32 (i / 2) (by omega)
      obtain ⟨t0, t1⟩ := txtL_at b 32 (i / 2) (by omega)
      rw [h1 (i / 2) (by omega)] at s0 s1
      unfold textF
      by_cases he : i = 2 * (i / 2)
      · rw [← he] at s0 t0
        rw [s0, t0]
      · rw [← (show i = 2 * (i / 2) + 1 by omega)] at s1 t1
        rw [s1, t1]
    by_cases hd : (a.getD k 0).toNat / 16 = (b.getD k 0).toNat / 16
    · have pre2 : ∀ i, i < 2 * k + 1 → (textF a).getD i 0 = (textF b).getD i 0 := fun i hi => by
        by_cases h : i < 2 * k
        · exact pre i h
        · obtain rfl : i = 2 * k := by omega
          unfold textF
          rw [a0, b0, hd]
      have c2 := cmp_ne (2 * k + 1) (textF a) (textF b) (text_bs a ba) (text_bs b bb) (by omega) (by omega) pre2 (by
        unfold textF
        rw [a1, b1]
        exact hx_ne _ _ (by omega) (by omega) (by omega))
      rw [c2, c]
      unfold textF
      rw [a1, b1, hx_lt _ _ (by omega) (by omega)]
      omega
    · have c2 := cmp_ne (2 * k) (textF a) (textF b) (text_bs a ba) (text_bs b bb) (by omega) (by omega) pre (by
        unfold textF
        rw [a0, b0]
        exact hx_ne _ _ (by omega) (by omega) hd)
      rw [c2, c]
      unfold textF
      rw [a0, b0, hx_lt _ _ (by omega) (by omega)]
      omega

end Go.Proofs.YtbemnolgolecaaaDoor
