/-
  Three truths: the program's and the document's And, Or, Not.
-/
import Derived.Test.YtndkoefchlclkaaV1
namespace Go.Proofs.Ytndkoefchlclkaa
open Go.RowKit

def fr (t : Int) : Int := if t = 0 then 0 else if t = 1 then 1 else 2
def tnot (t : Int) : Int := if t = 0 then 1 else if t = 1 then 0 else 2
def tand (t u : Int) : Int := if t = 0 ∨ u = 0 then 0 else if t = 1 ∧ u = 1 then 1 else 2
def tor (t u : Int) : Int := if t = 1 ∨ u = 1 then 1 else if t = 0 ∧ u = 0 then 0 else 2

theorem fr_three (t : Int) : (t = 0 ∧ fr t = 0) ∨ (t = 1 ∧ fr t = 1) ∨ (fr t = 2 ∧ ¬ t = 0 ∧ ¬ t = 1) := by
  unfold fr
  by_cases h : t = 0
  · exact .inl ⟨h, if_pos h⟩
  · by_cases h1 : t = 1
    · exact .inr (.inl ⟨h1, by rw [if_neg h, if_pos h1]⟩)
    · exact .inr (.inr ⟨by rw [if_neg h, if_neg h1], h, h1⟩)

theorem fair_any (t : Int) (w : World) : Calls Try.prog 52 #[.int .i64 t] w fun e w' => e = .returned (.int .i64 (fr t)) ∧ w = w' := by
  rcases fr_three t with ⟨rfl, hf⟩ | ⟨rfl, hf⟩ | ⟨hf, n0, n1⟩
  · go_enter Try.func52, Try.ntmps52
    go_wp2
    go_ret
    exact ⟨rfl, rfl⟩
  · go_enter Try.func52, Try.ntmps52
    go_wp2
    go_ret
    exact ⟨rfl, rfl⟩
  · rw [hf]
    have h0 : (t == 0) = false := by simp [n0]
    have h1 : (t == 1) = false := by simp [n1]
    go_enter Try.func52, Try.ntmps52
    go_wp2
    go_ret
    exact ⟨rfl, rfl⟩

theorem not_any (t : Int) (w : World) : Calls Try.prog 54 #[.int .i64 t] w fun e w' => e = .returned (.int .i64 (tnot t)) ∧ w = w' := by
  rcases fr_three t with ⟨rfl, hf⟩ | ⟨rfl, hf⟩ | ⟨hf, n0, n1⟩
  · go_enter Try.func54, Try.ntmps54
    go_wp2
    go_ret
    exact ⟨rfl, rfl⟩
  · go_enter Try.func54, Try.ntmps54
    go_wp2
    go_ret
    exact ⟨rfl, rfl⟩
  · rw [show tnot t = 2 by unfold tnot; rw [if_neg n0, if_neg n1]]
    have h0 : (t == 0) = false := by simp [n0]
    have h1 : (t == 1) = false := by simp [n1]
    go_enter Try.func54, Try.ntmps54
    go_wp2
    go_ret
    exact ⟨rfl, rfl⟩

theorem and_any (t u : Int) (w : World) : Calls Try.prog 51 #[.int .i64 t, .int .i64 u] w fun e w' => e = .returned (.int .i64 (tand t u)) ∧ w = w' := by
  rcases fr_three t with ⟨rfl, _⟩ | ⟨rfl, _⟩ | ⟨_, n0, n1⟩ <;> rcases fr_three u with ⟨rfl, _⟩ | ⟨rfl, _⟩ | ⟨_, m0, m1⟩
  all_goals
    try have h0 : (t == 0) = false := by simp [n0]
    try have h1 : (t == 1) = false := by simp [n1]
    try have g0 : (u == 0) = false := by simp [m0]
    try have g1 : (u == 1) = false := by simp [m1]
    first | rw [show tand _ _ = 0 from if_pos (by first | exact .inl rfl | exact .inr rfl)] | rw [show tand _ _ = 1 from rfl] | rw [show tand _ _ = 2 from (if_neg (by omega)).trans (if_neg (by omega))]
    go_enter Try.func51, Try.ntmps51
    go_wp2
    go_ret
    exact ⟨rfl, rfl⟩

/-- Or is And, seen from the other side. -/
theorem tor_eq (t u : Int) : tnot (tand (tnot t) (tnot u)) = tor t u := by
  unfold tor tand tnot
  (repeat' split) <;> omega

theorem or_any (t u : Int) (w : World) : Calls Try.prog 53 #[.int .i64 t, .int .i64 u] w fun e w' => e = .returned (.int .i64 (tor t u)) ∧ w = w' := by
  rw [← tor_eq]
  go_enter Try.func53, Try.ntmps53
  go_wp2_with (first | (go_at_call 54; refine (not_any _ _).mono ?_; rintro e w' ⟨rfl, rfl⟩) | (go_at_call 51; refine (and_any _ _ _).mono ?_; rintro e w' ⟨rfl, rfl⟩))
  go_ret
  exact ⟨rfl, rfl⟩

theorem And_any (t u : Int) (w : World) : Calls Try.prog 25 #[.int .i64 t, .int .i64 u] w fun e w' => e = .returned (.int .i64 (tand t u)) ∧ w = w' := by
  go_enter Try.func25, Try.ntmps25
  go_wp2_with (go_at_call 51; refine (and_any _ _ _).mono ?_; rintro e w' ⟨rfl, rfl⟩)
  go_ret
  exact ⟨rfl, rfl⟩
theorem Or_any (t u : Int) (w : World) : Calls Try.prog 27 #[.int .i64 t, .int .i64 u] w fun e w' => e = .returned (.int .i64 (tor t u)) ∧ w = w' := by
  go_enter Try.func27, Try.ntmps27
  go_wp2_with (go_at_call 53; refine (or_any _ _ _).mono ?_; rintro e w' ⟨rfl, rfl⟩)
  go_ret
  exact ⟨rfl, rfl⟩
theorem Not_any (t : Int) (w : World) : Calls Try.prog 29 #[.int .i64 t] w fun e w' => e = .returned (.int .i64 (tnot t)) ∧ w = w' := by
  go_enter Try.func29, Try.ntmps29
  go_wp2_with (go_at_call 54; refine (not_any _ _).mono ?_; rintro e w' ⟨rfl, rfl⟩)
  go_ret
  exact ⟨rfl, rfl⟩

theorem refNot_any (t : Int) (w : World) : Calls Try.prog 30 #[.int .i64 t] w fun e w' => e = .returned (.int .i64 (tnot t)) ∧ w = w' := by
  rcases fr_three t with ⟨ht, hf⟩ | ⟨ht, hf⟩ | ⟨hf, n0, n1⟩
  · rw [show tnot t = 1 by rw [ht]; rfl]
    clear ht
    go_enter Try.func30, Try.ntmps30
    go_wp2_with (go_at_call 52; refine (fair_any _ _).mono ?_; rw [hf]; rintro e w' ⟨rfl, rfl⟩)
    go_ret
    exact ⟨rfl, rfl⟩
  · rw [show tnot t = 0 by rw [ht]; rfl]
    clear ht
    go_enter Try.func30, Try.ntmps30
    go_wp2_with (go_at_call 52; refine (fair_any _ _).mono ?_; rw [hf]; rintro e w' ⟨rfl, rfl⟩)
    go_ret
    exact ⟨rfl, rfl⟩
  · rw [show tnot t = 2 by unfold tnot; rw [if_neg n0, if_neg n1]]
    clear n0 n1
    go_enter Try.func30, Try.ntmps30
    go_wp2_with (go_at_call 52; refine (fair_any _ _).mono ?_; rw [hf]; rintro e w' ⟨rfl, rfl⟩)
    go_ret
    exact ⟨rfl, rfl⟩

/-- What And says by what the two count as. -/
theorem tand_fr (t u : Int) : tand t u = if fr t = 0 ∨ fr u = 0 then 0 else if fr t = 2 ∨ fr u = 2 then 2 else 1 := by
  unfold tand fr
  (repeat' split) <;> omega
theorem tor_fr (t u : Int) : tor t u = if fr t = 1 ∨ fr u = 1 then 1 else if fr t = 2 ∨ fr u = 2 then 2 else 0 := by
  unfold tor fr
  (repeat' split) <;> omega
theorem fr_vals (t : Int) : fr t = 0 ∨ fr t = 1 ∨ fr t = 2 := by rcases fr_three t with ⟨_, h⟩ | ⟨_, h⟩ | ⟨h, _⟩ <;> omega

set_option maxHeartbeats 2000000 in
theorem refAnd_any (t u : Int) (w : World) : Calls Try.prog 26 #[.int .i64 t, .int .i64 u] w fun e w' => e = .returned (.int .i64 (tand t u)) ∧ w = w' := by
  rw [tand_fr]
  have ht := fr_vals t
  have hu := fr_vals u
  have F := fun t w => fair_any t w
  have Ft := Lib.hid (F t)
  have Fu := Lib.hid (F u)
  clear F
  rcases ht with h | h | h <;> rcases hu with g | g | g
  all_goals
    rw [h, g]
    rw [h] at Ft
    rw [g] at Fu
    clear h g
    go_enter Try.func26, Try.ntmps26
    go_wp2_with (go_at_call 52; first | (with_reducible refine (Ft.out _).mono ?_; rintro e w' ⟨rfl, rfl⟩) | (with_reducible refine (Fu.out _).mono ?_; rintro e w' ⟨rfl, rfl⟩))
    go_ret
    exact ⟨rfl, rfl⟩

set_option maxHeartbeats 2000000 in
theorem refOr_any (t u : Int) (w : World) : Calls Try.prog 28 #[.int .i64 t, .int .i64 u] w fun e w' => e = .returned (.int .i64 (tor t u)) ∧ w = w' := by
  rw [tor_fr]
  have ht := fr_vals t
  have hu := fr_vals u
  have F := fun t w => fair_any t w
  have Ft := Lib.hid (F t)
  have Fu := Lib.hid (F u)
  clear F
  rcases ht with h | h | h <;> rcases hu with g | g | g
  all_goals
    rw [h, g]
    rw [h] at Ft
    rw [g] at Fu
    clear h g
    go_enter Try.func28, Try.ntmps28
    go_wp2_with (go_at_call 52; first | (with_reducible refine (Ft.out _).mono ?_; rintro e w' ⟨rfl, rfl⟩) | (with_reducible refine (Fu.out _).mono ?_; rintro e w' ⟨rfl, rfl⟩))
    go_ret
    exact ⟨rfl, rfl⟩

theorem truthOf_any (b : Bool) (w : World) : Calls Try.prog 45 #[.bool b] w fun e w' => e = .returned (.int .i64 (b2i b)) ∧ w = w' := by
  cases b
  all_goals
    go_enter Try.func45, Try.ntmps45
    go_wp2
    go_ret
    exact ⟨rfl, rfl⟩

end Go.Proofs.Ytndkoefchlclkaa
