/-
  Which bytes are letters, digits, may stand in a word, may be said.
-/
import Derived.Test.YtblcfjliabeaiaaDoorL1
import Derived.Lib.Hide
namespace Go.Proofs.YtblcfjliabeaiaaDoor
open Go.RowKit Go.Shelf

def capB (b : Int) : Int := if 97 ≤ b ∧ b ≤ 122 then b - 32 else b
def letB (b : Int) : Bool := (decide (65 ≤ capB b) && decide (capB b ≤ 90)) || (b == 95)
def digB (b : Int) : Bool := decide (48 ≤ b) && decide (b ≤ 57)
def innB (b : Int) : Bool := letB b || digB b
def plnB (b : Int) : Bool := decide (32 ≤ b) && decide (b ≤ 126)

theorem capital_any (b : Int) (h0 : 0 ≤ b) (h1 : b ≤ 255) (w : World) : Calls Tryd.prog 52 #[.int .u8 b] w fun e w' => e = .returned (.int .u8 (capB b)) ∧ w' = w := by
  unfold capB
  by_cases ha : 97 ≤ b
  · have d1 : decide (97 ≤ b) = true := decide_eq_true ha
    by_cases hb : b ≤ 122
    · have d2 : decide (b ≤ 122) = true := decide_eq_true hb
      rw [if_pos ⟨ha, hb⟩]
      go_enter Tryd.func52, Tryd.ntmps52
      go_wp2
      go_ret
      exact ⟨congrArg (fun x => Ending.returned (Value.int .u8 x)) (by omega), rfl⟩
    · have d2 : decide (b ≤ 122) = false := decide_eq_false hb
      rw [if_neg (fun h => hb h.2)]
      go_enter Tryd.func52, Tryd.ntmps52
      go_wp2
      go_ret
      exact ⟨rfl, rfl⟩
  · have d1 : decide (97 ≤ b) = false := decide_eq_false ha
    rw [if_neg (fun h => ha h.1)]
    go_enter Tryd.func52, Tryd.ntmps52
    go_wp2
    go_ret
    exact ⟨rfl, rfl⟩
theorem capB_in {b : Int} (h0 : 0 ≤ b) (h1 : b ≤ 255) : 0 ≤ capB b ∧ capB b ≤ 255 := by unfold capB; split <;> omega
theorem letter_any (b : Int) (h0 : 0 ≤ b) (h1 : b ≤ 255) (w : World) : Calls Tryd.prog 53 #[.int .u8 b] w fun e w' => e = .returned (.bool (letB b)) ∧ w' = w := by
  have C := Lib.hid (capital_any b h0 h1)
  unfold letB
  obtain ⟨c0, c1⟩ := capB_in h0 h1
  generalize capB b = c at *
  by_cases ha : 65 ≤ c
  · have d1 : decide (65 ≤ c) = true := decide_eq_true ha
    go_enter Tryd.func53, Tryd.ntmps53
    go_wp2_with (go_at_call 52; refine (C.out _).mono ?_; rintro e w' ⟨rfl, rfl⟩)
    all_goals
      go_ret
      exact ⟨by first | (rw [d1]; simp; done) | simp_all, rfl⟩
  · have d1 : decide (65 ≤ c) = false := decide_eq_false ha
    go_enter Tryd.func53, Tryd.ntmps53
    go_wp2_with (go_at_call 52; refine (C.out _).mono ?_; rintro e w' ⟨rfl, rfl⟩)
    all_goals
      go_ret
      exact ⟨by first | (rw [d1]; simp; done) | simp_all, rfl⟩
theorem digit_any (b : Int) (h0 : 0 ≤ b) (h1 : b ≤ 255) (w : World) : Calls Tryd.prog 69 #[.int .u8 b] w fun e w' => e = .returned (.bool (digB b)) ∧ w' = w := by
  unfold digB
  by_cases ha : 48 ≤ b
  · have d1 : decide (48 ≤ b) = true := decide_eq_true ha
    go_enter Tryd.func69, Tryd.ntmps69
    go_wp2
    go_ret
    exact ⟨by simp [d1], rfl⟩
  · have d1 : decide (48 ≤ b) = false := decide_eq_false ha
    go_enter Tryd.func69, Tryd.ntmps69
    go_wp2
    go_ret
    exact ⟨by simp [d1], rfl⟩
theorem plain_any (b : Int) (h0 : 0 ≤ b) (h1 : b ≤ 255) (w : World) : Calls Tryd.prog 47 #[.int .u8 b] w fun e w' => e = .returned (.bool (plnB b)) ∧ w' = w := by
  unfold plnB
  by_cases ha : 32 ≤ b
  · have d1 : decide (32 ≤ b) = true := decide_eq_true ha
    go_enter Tryd.func47, Tryd.ntmps47
    go_wp2
    go_ret
    exact ⟨by simp [d1], rfl⟩
  · have d1 : decide (32 ≤ b) = false := decide_eq_false ha
    go_enter Tryd.func47, Tryd.ntmps47
    go_wp2
    go_ret
    exact ⟨by simp [d1], rfl⟩
theorem inner_any (b : Int) (h0 : 0 ≤ b) (h1 : b ≤ 255) (w : World) : Calls Tryd.prog 54 #[.int .u8 b] w fun e w' => e = .returned (.bool (innB b)) ∧ w' = w := by
  have L := Lib.hid (letter_any b h0 h1)
  have D := Lib.hid (digit_any b h0 h1)
  unfold innB
  generalize letB b = x at *
  generalize digB b = y at *
  cases x <;> (
    go_enter Tryd.func54, Tryd.ntmps54
    go_wp2_with (first | (go_at_call 53; refine (L.out _).mono ?_; rintro e w' ⟨rfl, rfl⟩) | (go_at_call 69; refine (D.out _).mono ?_; rintro e w' ⟨rfl, rfl⟩))
    go_ret
    exact ⟨by first | rfl | trivial, rfl⟩)
end Go.Proofs.YtblcfjliabeaiaaDoor
