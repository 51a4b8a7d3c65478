/-
  The document's Reckon, whole.
-/
import Derived.Test.YtndkoefchlclkaaY2
namespace Go.Proofs.Ytndkoefchlclkaa
open Go.RowKit

theorem pmn (n : Int) : (decide (n < 0) = true ∧ n = -(n.natAbs : Int)) ∨ (decide (n < 0) = false ∧ n = (n.natAbs : Int)) := by
  by_cases h : n < 0
  · exact .inl ⟨decide_eq_true h, by omega⟩
  · exact .inr ⟨decide_eq_false h, by omega⟩
theorem pm (n : Int) : (∃ a : Nat, n = -(a : Int) ∧ 0 < a) ∨ ∃ a : Nat, n = (a : Int) := by
  by_cases h : n < 0
  · exact .inl ⟨n.natAbs, by omega, by omega⟩
  · exact .inr ⟨n.natAbs, by omega⟩
theorem tmod_sz : ∀ n n' : Int, n.tmod n' = if n < 0 then -((n.natAbs % n'.natAbs : Nat) : Int) else ((n.natAbs % n'.natAbs : Nat) : Int)
  | .ofNat m, .ofNat k => by rw [if_neg (show ¬ Int.ofNat m < 0 from Int.not_lt.2 (Int.natCast_nonneg m))]; rfl
  | .ofNat m, .negSucc k => by rw [if_neg (show ¬ Int.ofNat m < 0 from Int.not_lt.2 (Int.natCast_nonneg m))]; rfl
  | .negSucc m, .ofNat k => by rw [if_pos (Int.negSucc_lt_zero m)]; rfl
  | .negSucc m, .negSucc k => by rw [if_pos (Int.negSucc_lt_zero m)]; rfl

theorem rr_num1_11 (a b : Nat) (s : ByteArray) (s' : ByteArray) (w : World) (hn : I64 (-(a : Int))) (hn' : I64 (-(b : Int))) (ha : 0 < a) (hb : 0 < b) (hr : Rt 3 (-(a : Int)) s = true) (hr' : Rt 3 (-(b : Int)) s' = true) : Calls Try.prog 24 #[.int .i64 1, .agg #[.int .i64 3, .int .i64 (-(a : Int)), .string s], .agg #[.int .i64 3, .int .i64 (-(b : Int)), .string s']] w (Told3 w (rK ((-(a : Int)) + (-(b : Int)))) (rN ((-(a : Int)) + (-(b : Int)))) (ovE ((-(a : Int)) + (-(b : Int))))) := by
  have HS1 := Lib.hid (size_any (-(a : Int)) hn)
  have HS2 := Lib.hid (size_any (-(b : Int)) hn')
  rw [show (-(a : Int)).natAbs = a by omega] at HS1
  rw [show (-(b : Int)).natAbs = b by omega] at HS2
  unfold I64 at hn hn'
  have hs : decide ((-(a : Int)) < 0) = true := decide_eq_true (by omega)
  have ht : decide ((-(b : Int)) < 0) = true := decide_eq_true (by omega)
  obtain ⟨S, hS0⟩ : ∃ S, S = (a + b) % 18446744073709551616 := ⟨_, rfl⟩
  have hS : IntKind.u64.wrap ((a : Int) + (b : Int)) = (S : Int) := by rw [IntKind.wrap_u64]; omega
  by_cases hc : (S : Int) < (a : Int)
  · exact rr_1_11_1 (-(a : Int)) s (-(b : Int)) s' w _ _ _ ((-(a : Int)) + (-(b : Int))) HS1 HS2 hr hr' hs ht hS hc (Lib.hid (signed_any 1 _ true ((-(a : Int)) + (-(b : Int))) (by omega) (by omega) (show (-(a : Int)) + (-(b : Int)) = -(1 * 18446744073709551616 + (S : Int)) by omega)))
  · exact rr_1_11_0 (-(a : Int)) s (-(b : Int)) s' w _ _ _ ((-(a : Int)) + (-(b : Int))) HS1 HS2 hr hr' hs ht hS hc (Lib.hid (signed_any 0 _ true ((-(a : Int)) + (-(b : Int))) (by omega) (by omega) (show (-(a : Int)) + (-(b : Int)) = -(0 * 18446744073709551616 + (S : Int)) by omega)))

theorem rr_num1_10 (a b : Nat) (s : ByteArray) (s' : ByteArray) (w : World) (hn : I64 (-(a : Int))) (hn' : I64 (b : Int)) (ha : 0 < a) (_hb : True) (hr : Rt 3 (-(a : Int)) s = true) (hr' : Rt 3 (b : Int) s' = true) : Calls Try.prog 24 #[.int .i64 1, .agg #[.int .i64 3, .int .i64 (-(a : Int)), .string s], .agg #[.int .i64 3, .int .i64 (b : Int), .string s']] w (Told3 w (rK ((-(a : Int)) + (b : Int))) (rN ((-(a : Int)) + (b : Int))) (ovE ((-(a : Int)) + (b : Int)))) := by
  have HS1 := Lib.hid (size_any (-(a : Int)) hn)
  have HS2 := Lib.hid (size_any (b : Int) hn')
  rw [show (-(a : Int)).natAbs = a by omega] at HS1
  rw [show (b : Int).natAbs = b by omega] at HS2
  unfold I64 at hn hn'
  have hs : decide ((-(a : Int)) < 0) = true := decide_eq_true (by omega)
  have ht : decide ((b : Int) < 0) = false := decide_eq_false (by omega)
  by_cases hc : (b : Int) ≤ (a : Int)
  · obtain ⟨S, hS0⟩ : ∃ S, S = a - b := ⟨_, rfl⟩
    have hS : IntKind.u64.wrap ((a : Int) - (b : Int)) = (S : Int) := by rw [IntKind.wrap_u64]; omega
    exact rr_1_10_g (-(a : Int)) s (b : Int) s' w _ _ _ ((-(a : Int)) + (b : Int)) HS1 HS2 hr hr' hs ht hS hc (Lib.hid (signed_any 0 _ true ((-(a : Int)) + (b : Int)) (by omega) (by omega) (show (-(a : Int)) + (b : Int) = -(0 * 18446744073709551616 + (S : Int)) by omega)))
  · obtain ⟨S, hS0⟩ : ∃ S, S = b - a := ⟨_, rfl⟩
    have hS : IntKind.u64.wrap ((b : Int) - (a : Int)) = (S : Int) := by rw [IntKind.wrap_u64]; omega
    exact rr_1_10_l (-(a : Int)) s (b : Int) s' w _ _ _ ((-(a : Int)) + (b : Int)) HS1 HS2 hr hr' hs ht hS hc (Lib.hid (signed_any 0 _ false ((-(a : Int)) + (b : Int)) (by omega) (by omega) (show (-(a : Int)) + (b : Int) = (0 * 18446744073709551616 + (S : Int)) by omega)))

theorem rr_num1_01 (a b : Nat) (s : ByteArray) (s' : ByteArray) (w : World) (hn : I64 (a : Int)) (hn' : I64 (-(b : Int))) (_ha : True) (hb : 0 < b) (hr : Rt 3 (a : Int) s = true) (hr' : Rt 3 (-(b : Int)) s' = true) : Calls Try.prog 24 #[.int .i64 1, .agg #[.int .i64 3, .int .i64 (a : Int), .string s], .agg #[.int .i64 3, .int .i64 (-(b : Int)), .string s']] w (Told3 w (rK ((a : Int) + (-(b : Int)))) (rN ((a : Int) + (-(b : Int)))) (ovE ((a : Int) + (-(b : Int))))) := by
  have HS1 := Lib.hid (size_any (a : Int) hn)
  have HS2 := Lib.hid (size_any (-(b : Int)) hn')
  rw [show (a : Int).natAbs = a by omega] at HS1
  rw [show (-(b : Int)).natAbs = b by omega] at HS2
  unfold I64 at hn hn'
  have hs : decide ((a : Int) < 0) = false := decide_eq_false (by omega)
  have ht : decide ((-(b : Int)) < 0) = true := decide_eq_true (by omega)
  by_cases hc : (b : Int) ≤ (a : Int)
  · obtain ⟨S, hS0⟩ : ∃ S, S = a - b := ⟨_, rfl⟩
    have hS : IntKind.u64.wrap ((a : Int) - (b : Int)) = (S : Int) := by rw [IntKind.wrap_u64]; omega
    exact rr_1_01_g (a : Int) s (-(b : Int)) s' w _ _ _ ((a : Int) + (-(b : Int))) HS1 HS2 hr hr' hs ht hS hc (Lib.hid (signed_any 0 _ false ((a : Int) + (-(b : Int))) (by omega) (by omega) (show (a : Int) + (-(b : Int)) = (0 * 18446744073709551616 + (S : Int)) by omega)))
  · obtain ⟨S, hS0⟩ : ∃ S, S = b - a := ⟨_, rfl⟩
    have hS : IntKind.u64.wrap ((b : Int) - (a : Int)) = (S : Int) := by rw [IntKind.wrap_u64]; omega
    exact rr_1_01_l (a : Int) s (-(b : Int)) s' w _ _ _ ((a : Int) + (-(b : Int))) HS1 HS2 hr hr' hs ht hS hc (Lib.hid (signed_any 0 _ true ((a : Int) + (-(b : Int))) (by omega) (by omega) (show (a : Int) + (-(b : Int)) = -(0 * 18446744073709551616 + (S : Int)) by omega)))

theorem rr_num1_00 (a b : Nat) (s : ByteArray) (s' : ByteArray) (w : World) (hn : I64 (a : Int)) (hn' : I64 (b : Int)) (_ha : True) (_hb : True) (hr : Rt 3 (a : Int) s = true) (hr' : Rt 3 (b : Int) s' = true) : Calls Try.prog 24 #[.int .i64 1, .agg #[.int .i64 3, .int .i64 (a : Int), .string s], .agg #[.int .i64 3, .int .i64 (b : Int), .string s']] w (Told3 w (rK ((a : Int) + (b : Int))) (rN ((a : Int) + (b : Int))) (ovE ((a : Int) + (b : Int)))) := by
  have HS1 := Lib.hid (size_any (a : Int) hn)
  have HS2 := Lib.hid (size_any (b : Int) hn')
  rw [show (a : Int).natAbs = a by omega] at HS1
  rw [show (b : Int).natAbs = b by omega] at HS2
  unfold I64 at hn hn'
  have hs : decide ((a : Int) < 0) = false := decide_eq_false (by omega)
  have ht : decide ((b : Int) < 0) = false := decide_eq_false (by omega)
  obtain ⟨S, hS0⟩ : ∃ S, S = (a + b) % 18446744073709551616 := ⟨_, rfl⟩
  have hS : IntKind.u64.wrap ((a : Int) + (b : Int)) = (S : Int) := by rw [IntKind.wrap_u64]; omega
  by_cases hc : (S : Int) < (a : Int)
  · exact rr_1_00_1 (a : Int) s (b : Int) s' w _ _ _ ((a : Int) + (b : Int)) HS1 HS2 hr hr' hs ht hS hc (Lib.hid (signed_any 1 _ false ((a : Int) + (b : Int)) (by omega) (by omega) (show (a : Int) + (b : Int) = (1 * 18446744073709551616 + (S : Int)) by omega)))
  · exact rr_1_00_0 (a : Int) s (b : Int) s' w _ _ _ ((a : Int) + (b : Int)) HS1 HS2 hr hr' hs ht hS hc (Lib.hid (signed_any 0 _ false ((a : Int) + (b : Int)) (by omega) (by omega) (show (a : Int) + (b : Int) = (0 * 18446744073709551616 + (S : Int)) by omega)))

theorem rr_num1 (n : Int) (s : ByteArray) (n' : Int) (s' : ByteArray) (w : World) (hn : I64 n) (hn' : I64 n') (hr : Rt 3 n s = true) (hr' : Rt 3 n' s' = true) : Calls Try.prog 24 #[.int .i64 1, .agg #[.int .i64 3, .int .i64 n, .string s], .agg #[.int .i64 3, .int .i64 n', .string s']] w (Told3 w (rK (n + n')) (rN (n + n')) (ovE (n + n'))) := by
  rcases pm n with ⟨a, rfl, ha⟩ | ⟨a, rfl⟩ <;> rcases pm n' with ⟨b, rfl, hb⟩ | ⟨b, rfl⟩
  · exact rr_num1_11 a b s s' w hn hn' ha hb hr hr'
  · exact rr_num1_10 a b s s' w hn hn' ha trivial hr hr'
  · exact rr_num1_01 a b s s' w hn hn' trivial hb hr hr'
  · exact rr_num1_00 a b s s' w hn hn' trivial trivial hr hr'

theorem rr_num2_11 (a b : Nat) (s : ByteArray) (s' : ByteArray) (w : World) (hn : I64 (-(a : Int))) (hn' : I64 (-(b : Int))) (ha : 0 < a) (hb : 0 < b) (hr : Rt 3 (-(a : Int)) s = true) (hr' : Rt 3 (-(b : Int)) s' = true) : Calls Try.prog 24 #[.int .i64 2, .agg #[.int .i64 3, .int .i64 (-(a : Int)), .string s], .agg #[.int .i64 3, .int .i64 (-(b : Int)), .string s']] w (Told3 w (rK ((-(a : Int)) - (-(b : Int)))) (rN ((-(a : Int)) - (-(b : Int)))) (ovE ((-(a : Int)) - (-(b : Int))))) := by
  have HS1 := Lib.hid (size_any (-(a : Int)) hn)
  have HS2 := Lib.hid (size_any (-(b : Int)) hn')
  rw [show (-(a : Int)).natAbs = a by omega] at HS1
  rw [show (-(b : Int)).natAbs = b by omega] at HS2
  unfold I64 at hn hn'
  have hs : decide ((-(a : Int)) < 0) = true := decide_eq_true (by omega)
  have ht : decide ((-(b : Int)) < 0) = true := decide_eq_true (by omega)
  by_cases hc : (b : Int) ≤ (a : Int)
  · obtain ⟨S, hS0⟩ : ∃ S, S = a - b := ⟨_, rfl⟩
    have hS : IntKind.u64.wrap ((a : Int) - (b : Int)) = (S : Int) := by rw [IntKind.wrap_u64]; omega
    exact rr_2_11_g (-(a : Int)) s (-(b : Int)) s' w _ _ _ ((-(a : Int)) - (-(b : Int))) HS1 HS2 hr hr' hs ht hS hc (Lib.hid (signed_any 0 _ true ((-(a : Int)) - (-(b : Int))) (by omega) (by omega) (show (-(a : Int)) - (-(b : Int)) = -(0 * 18446744073709551616 + (S : Int)) by omega)))
  · obtain ⟨S, hS0⟩ : ∃ S, S = b - a := ⟨_, rfl⟩
    have hS : IntKind.u64.wrap ((b : Int) - (a : Int)) = (S : Int) := by rw [IntKind.wrap_u64]; omega
    exact rr_2_11_l (-(a : Int)) s (-(b : Int)) s' w _ _ _ ((-(a : Int)) - (-(b : Int))) HS1 HS2 hr hr' hs ht hS hc (Lib.hid (signed_any 0 _ false ((-(a : Int)) - (-(b : Int))) (by omega) (by omega) (show (-(a : Int)) - (-(b : Int)) = (0 * 18446744073709551616 + (S : Int)) by omega)))

theorem rr_num2_10 (a b : Nat) (s : ByteArray) (s' : ByteArray) (w : World) (hn : I64 (-(a : Int))) (hn' : I64 (b : Int)) (ha : 0 < a) (_hb : True) (hr : Rt 3 (-(a : Int)) s = true) (hr' : Rt 3 (b : Int) s' = true) : Calls Try.prog 24 #[.int .i64 2, .agg #[.int .i64 3, .int .i64 (-(a : Int)), .string s], .agg #[.int .i64 3, .int .i64 (b : Int), .string s']] w (Told3 w (rK ((-(a : Int)) - (b : Int))) (rN ((-(a : Int)) - (b : Int))) (ovE ((-(a : Int)) - (b : Int)))) := by
  have HS1 := Lib.hid (size_any (-(a : Int)) hn)
  have HS2 := Lib.hid (size_any (b : Int) hn')
  rw [show (-(a : Int)).natAbs = a by omega] at HS1
  rw [show (b : Int).natAbs = b by omega] at HS2
  unfold I64 at hn hn'
  have hs : decide ((-(a : Int)) < 0) = true := decide_eq_true (by omega)
  have ht : decide ((b : Int) < 0) = false := decide_eq_false (by omega)
  obtain ⟨S, hS0⟩ : ∃ S, S = (a + b) % 18446744073709551616 := ⟨_, rfl⟩
  have hS : IntKind.u64.wrap ((a : Int) + (b : Int)) = (S : Int) := by rw [IntKind.wrap_u64]; omega
  by_cases hc : (S : Int) < (a : Int)
  · exact rr_2_10_1 (-(a : Int)) s (b : Int) s' w _ _ _ ((-(a : Int)) - (b : Int)) HS1 HS2 hr hr' hs ht hS hc (Lib.hid (signed_any 1 _ true ((-(a : Int)) - (b : Int)) (by omega) (by omega) (show (-(a : Int)) - (b : Int) = -(1 * 18446744073709551616 + (S : Int)) by omega)))
  · exact rr_2_10_0 (-(a : Int)) s (b : Int) s' w _ _ _ ((-(a : Int)) - (b : Int)) HS1 HS2 hr hr' hs ht hS hc (Lib.hid (signed_any 0 _ true ((-(a : Int)) - (b : Int)) (by omega) (by omega) (show (-(a : Int)) - (b : Int) = -(0 * 18446744073709551616 + (S : Int)) by omega)))

theorem rr_num2_01 (a b : Nat) (s : ByteArray) (s' : ByteArray) (w : World) (hn : I64 (a : Int)) (hn' : I64 (-(b : Int))) (_ha : True) (hb : 0 < b) (hr : Rt 3 (a : Int) s = true) (hr' : Rt 3 (-(b : Int)) s' = true) : Calls Try.prog 24 #[.int .i64 2, .agg #[.int .i64 3, .int .i64 (a : Int), .string s], .agg #[.int .i64 3, .int .i64 (-(b : Int)), .string s']] w (Told3 w (rK ((a : Int) - (-(b : Int)))) (rN ((a : Int) - (-(b : Int)))) (ovE ((a : Int) - (-(b : Int))))) := by
  have HS1 := Lib.hid (size_any (a : Int) hn)
  have HS2 := Lib.hid (size_any (-(b : Int)) hn')
  rw [show (a : Int).natAbs = a by omega] at HS1
  rw [show (-(b : Int)).natAbs = b by omega] at HS2
  unfold I64 at hn hn'
  have hs : decide ((a : Int) < 0) = false := decide_eq_false (by omega)
  have ht : decide ((-(b : Int)) < 0) = true := decide_eq_true (by omega)
  obtain ⟨S, hS0⟩ : ∃ S, S = (a + b) % 18446744073709551616 := ⟨_, rfl⟩
  have hS : IntKind.u64.wrap ((a : Int) + (b : Int)) = (S : Int) := by rw [IntKind.wrap_u64]; omega
  by_cases hc : (S : Int) < (a : Int)
  · exact rr_2_01_1 (a : Int) s (-(b : Int)) s' w _ _ _ ((a : Int) - (-(b : Int))) HS1 HS2 hr hr' hs ht hS hc (Lib.hid (signed_any 1 _ false ((a : Int) - (-(b : Int))) (by omega) (by omega) (show (a : Int) - (-(b : Int)) = (1 * 18446744073709551616 + (S : Int)) by omega)))
  · exact rr_2_01_0 (a : Int) s (-(b : Int)) s' w _ _ _ ((a : Int) - (-(b : Int))) HS1 HS2 hr hr' hs ht hS hc (Lib.hid (signed_any 0 _ false ((a : Int) - (-(b : Int))) (by omega) (by omega) (show (a : Int) - (-(b : Int)) = (0 * 18446744073709551616 + (S : Int)) by omega)))

theorem rr_num2_00 (a b : Nat) (s : ByteArray) (s' : ByteArray) (w : World) (hn : I64 (a : Int)) (hn' : I64 (b : Int)) (_ha : True) (_hb : True) (hr : Rt 3 (a : Int) s = true) (hr' : Rt 3 (b : Int) s' = true) : Calls Try.prog 24 #[.int .i64 2, .agg #[.int .i64 3, .int .i64 (a : Int), .string s], .agg #[.int .i64 3, .int .i64 (b : Int), .string s']] w (Told3 w (rK ((a : Int) - (b : Int))) (rN ((a : Int) - (b : Int))) (ovE ((a : Int) - (b : Int)))) := by
  have HS1 := Lib.hid (size_any (a : Int) hn)
  have HS2 := Lib.hid (size_any (b : Int) hn')
  rw [show (a : Int).natAbs = a by omega] at HS1
  rw [show (b : Int).natAbs = b by omega] at HS2
  unfold I64 at hn hn'
  have hs : decide ((a : Int) < 0) = false := decide_eq_false (by omega)
  have ht : decide ((b : Int) < 0) = false := decide_eq_false (by omega)
  by_cases hc : (b : Int) ≤ (a : Int)
  · obtain ⟨S, hS0⟩ : ∃ S, S = a - b := ⟨_, rfl⟩
    have hS : IntKind.u64.wrap ((a : Int) - (b : Int)) = (S : Int) := by rw [IntKind.wrap_u64]; omega
    exact rr_2_00_g (a : Int) s (b : Int) s' w _ _ _ ((a : Int) - (b : Int)) HS1 HS2 hr hr' hs ht hS hc (Lib.hid (signed_any 0 _ false ((a : Int) - (b : Int)) (by omega) (by omega) (show (a : Int) - (b : Int) = (0 * 18446744073709551616 + (S : Int)) by omega)))
  · obtain ⟨S, hS0⟩ : ∃ S, S = b - a := ⟨_, rfl⟩
    have hS : IntKind.u64.wrap ((b : Int) - (a : Int)) = (S : Int) := by rw [IntKind.wrap_u64]; omega
    exact rr_2_00_l (a : Int) s (b : Int) s' w _ _ _ ((a : Int) - (b : Int)) HS1 HS2 hr hr' hs ht hS hc (Lib.hid (signed_any 0 _ true ((a : Int) - (b : Int)) (by omega) (by omega) (show (a : Int) - (b : Int) = -(0 * 18446744073709551616 + (S : Int)) by omega)))

theorem rr_num2 (n : Int) (s : ByteArray) (n' : Int) (s' : ByteArray) (w : World) (hn : I64 n) (hn' : I64 n') (hr : Rt 3 n s = true) (hr' : Rt 3 n' s' = true) : Calls Try.prog 24 #[.int .i64 2, .agg #[.int .i64 3, .int .i64 n, .string s], .agg #[.int .i64 3, .int .i64 n', .string s']] w (Told3 w (rK (n - n')) (rN (n - n')) (ovE (n - n'))) := by
  rcases pm n with ⟨a, rfl, ha⟩ | ⟨a, rfl⟩ <;> rcases pm n' with ⟨b, rfl, hb⟩ | ⟨b, rfl⟩
  · exact rr_num2_11 a b s s' w hn hn' ha hb hr hr'
  · exact rr_num2_10 a b s s' w hn hn' ha trivial hr hr'
  · exact rr_num2_01 a b s s' w hn hn' trivial hb hr hr'
  · exact rr_num2_00 a b s s' w hn hn' trivial trivial hr hr'

theorem wide_split (a b : Nat) : ((a * b : Nat) : Int) = ((a * b / 18446744073709551616 : Nat) : Int) * 18446744073709551616 + ((a * b % 18446744073709551616 : Nat) : Int) := by
  generalize a * b = P
  omega
theorem wide_low (P : Nat) : 0 ≤ ((P % 18446744073709551616 : Nat) : Int) ∧ ((P % 18446744073709551616 : Nat) : Int) < 18446744073709551616 := by omega

theorem rr_num3_11 (n : Int) (s : ByteArray) (n' : Int) (s' : ByteArray) (w : World) (a b : Nat) (HS1 : Hid (∀ w, Calls Try.prog 48 #[.int .i64 n] w fun e w' => e = .returned (.int .u64 (a : Int)) ∧ w = w')) (HS2 : Hid (∀ w, Calls Try.prog 48 #[.int .i64 n'] w fun e w' => e = .returned (.int .u64 (b : Int)) ∧ w = w')) (hs : decide (n < 0) = true) (ht : decide (n' < 0) = true) (en : n = (-(a : Int))) (em : n' = (-(b : Int))) (la : a < 18446744073709551616) (lb : b < 18446744073709551616) (hr : Rt 3 n s = true) (hr' : Rt 3 n' s' = true) : Calls Try.prog 24 #[.int .i64 3, .agg #[.int .i64 3, .int .i64 n, .string s], .agg #[.int .i64 3, .int .i64 n', .string s']] w (Told3 w (rK (n * n')) (rN (n * n')) (ovE (n * n'))) := by
  have HW := Lib.hid (wide_any a b la lb)
  have hP := wide_split a b
  have hlow := wide_low (a * b)
  generalize a * b / 18446744073709551616 = R at *
  generalize a * b % 18446744073709551616 = S at *
  have hm : n * n' = if false = true then -((R : Int) * 18446744073709551616 + (S : Int)) else (R : Int) * 18446744073709551616 + (S : Int) := by
    rw [if_neg (by decide), en, em, Int.neg_mul_neg, ← Int.natCast_mul, hP]
  exact rr_3_11 n s n' s' w _ _ _ (n * n') HS1 HS2 hr hr' hs ht _ HW (Lib.hid (signed_any _ _ false (n * n') (Int.natCast_nonneg R) hlow hm))

theorem rr_num3_10 (n : Int) (s : ByteArray) (n' : Int) (s' : ByteArray) (w : World) (a b : Nat) (HS1 : Hid (∀ w, Calls Try.prog 48 #[.int .i64 n] w fun e w' => e = .returned (.int .u64 (a : Int)) ∧ w = w')) (HS2 : Hid (∀ w, Calls Try.prog 48 #[.int .i64 n'] w fun e w' => e = .returned (.int .u64 (b : Int)) ∧ w = w')) (hs : decide (n < 0) = true) (ht : decide (n' < 0) = false) (en : n = (-(a : Int))) (em : n' = (b : Int)) (la : a < 18446744073709551616) (lb : b < 18446744073709551616) (hr : Rt 3 n s = true) (hr' : Rt 3 n' s' = true) : Calls Try.prog 24 #[.int .i64 3, .agg #[.int .i64 3, .int .i64 n, .string s], .agg #[.int .i64 3, .int .i64 n', .string s']] w (Told3 w (rK (n * n')) (rN (n * n')) (ovE (n * n'))) := by
  have HW := Lib.hid (wide_any a b la lb)
  have hP := wide_split a b
  have hlow := wide_low (a * b)
  generalize a * b / 18446744073709551616 = R at *
  generalize a * b % 18446744073709551616 = S at *
  have hm : n * n' = if true = true then -((R : Int) * 18446744073709551616 + (S : Int)) else (R : Int) * 18446744073709551616 + (S : Int) := by
    rw [if_pos rfl, en, em, Int.neg_mul, ← Int.natCast_mul, hP]
  exact rr_3_10 n s n' s' w _ _ _ (n * n') HS1 HS2 hr hr' hs ht _ HW (Lib.hid (signed_any _ _ true (n * n') (Int.natCast_nonneg R) hlow hm))

theorem rr_num3_01 (n : Int) (s : ByteArray) (n' : Int) (s' : ByteArray) (w : World) (a b : Nat) (HS1 : Hid (∀ w, Calls Try.prog 48 #[.int .i64 n] w fun e w' => e = .returned (.int .u64 (a : Int)) ∧ w = w')) (HS2 : Hid (∀ w, Calls Try.prog 48 #[.int .i64 n'] w fun e w' => e = .returned (.int .u64 (b : Int)) ∧ w = w')) (hs : decide (n < 0) = false) (ht : decide (n' < 0) = true) (en : n = (a : Int)) (em : n' = (-(b : Int))) (la : a < 18446744073709551616) (lb : b < 18446744073709551616) (hr : Rt 3 n s = true) (hr' : Rt 3 n' s' = true) : Calls Try.prog 24 #[.int .i64 3, .agg #[.int .i64 3, .int .i64 n, .string s], .agg #[.int .i64 3, .int .i64 n', .string s']] w (Told3 w (rK (n * n')) (rN (n * n')) (ovE (n * n'))) := by
  have HW := Lib.hid (wide_any a b la lb)
  have hP := wide_split a b
  have hlow := wide_low (a * b)
  generalize a * b / 18446744073709551616 = R at *
  generalize a * b % 18446744073709551616 = S at *
  have hm : n * n' = if true = true then -((R : Int) * 18446744073709551616 + (S : Int)) else (R : Int) * 18446744073709551616 + (S : Int) := by
    rw [if_pos rfl, en, em, Int.mul_neg, ← Int.natCast_mul, hP]
  exact rr_3_01 n s n' s' w _ _ _ (n * n') HS1 HS2 hr hr' hs ht _ HW (Lib.hid (signed_any _ _ true (n * n') (Int.natCast_nonneg R) hlow hm))

theorem rr_num3_00 (n : Int) (s : ByteArray) (n' : Int) (s' : ByteArray) (w : World) (a b : Nat) (HS1 : Hid (∀ w, Calls Try.prog 48 #[.int .i64 n] w fun e w' => e = .returned (.int .u64 (a : Int)) ∧ w = w')) (HS2 : Hid (∀ w, Calls Try.prog 48 #[.int .i64 n'] w fun e w' => e = .returned (.int .u64 (b : Int)) ∧ w = w')) (hs : decide (n < 0) = false) (ht : decide (n' < 0) = false) (en : n = (a : Int)) (em : n' = (b : Int)) (la : a < 18446744073709551616) (lb : b < 18446744073709551616) (hr : Rt 3 n s = true) (hr' : Rt 3 n' s' = true) : Calls Try.prog 24 #[.int .i64 3, .agg #[.int .i64 3, .int .i64 n, .string s], .agg #[.int .i64 3, .int .i64 n', .string s']] w (Told3 w (rK (n * n')) (rN (n * n')) (ovE (n * n'))) := by
  have HW := Lib.hid (wide_any a b la lb)
  have hP := wide_split a b
  have hlow := wide_low (a * b)
  generalize a * b / 18446744073709551616 = R at *
  generalize a * b % 18446744073709551616 = S at *
  have hm : n * n' = if false = true then -((R : Int) * 18446744073709551616 + (S : Int)) else (R : Int) * 18446744073709551616 + (S : Int) := by
    rw [if_neg (by decide), en, em, ← Int.natCast_mul, hP]
  exact rr_3_00 n s n' s' w _ _ _ (n * n') HS1 HS2 hr hr' hs ht _ HW (Lib.hid (signed_any _ _ false (n * n') (Int.natCast_nonneg R) hlow hm))

theorem rr_num3 (n : Int) (s : ByteArray) (n' : Int) (s' : ByteArray) (w : World) (hn : I64 n) (hn' : I64 n') (hr : Rt 3 n s = true) (hr' : Rt 3 n' s' = true) : Calls Try.prog 24 #[.int .i64 3, .agg #[.int .i64 3, .int .i64 n, .string s], .agg #[.int .i64 3, .int .i64 n', .string s']] w (Told3 w (rK (n * n')) (rN (n * n')) (ovE (n * n'))) := by
  have HS1 := Lib.hid (size_any n hn)
  have HS2 := Lib.hid (size_any n' hn')
  unfold I64 at hn hn'
  have la : n.natAbs < 18446744073709551616 := by omega
  have lb : n'.natAbs < 18446744073709551616 := by omega
  have p1 := pmn n
  have p2 := pmn n'
  generalize n.natAbs = a at *
  generalize n'.natAbs = b at *
  rcases p1 with ⟨hs, en⟩ | ⟨hs, en⟩ <;> rcases p2 with ⟨ht, em⟩ | ⟨ht, em⟩
  · exact rr_num3_11 n s n' s' w a b HS1 HS2 hs ht en em la lb hr hr'
  · exact rr_num3_10 n s n' s' w a b HS1 HS2 hs ht en em la lb hr hr'
  · exact rr_num3_01 n s n' s' w a b HS1 HS2 hs ht en em la lb hr hr'
  · exact rr_num3_00 n s n' s' w a b HS1 HS2 hs ht en em la lb hr hr'

theorem rr_num4 (n : Int) (s : ByteArray) (n' : Int) (s' : ByteArray) (w : World) (hn : I64 n) (hn' : I64 n') (hr : Rt 3 n s = true) (hr' : Rt 3 n' s' = true) (hz : n' ≠ 0) : Calls Try.prog 24 #[.int .i64 4, .agg #[.int .i64 3, .int .i64 n, .string s], .agg #[.int .i64 3, .int .i64 n', .string s']] w (Told3 w (rK (n.tdiv n')) (rN (n.tdiv n')) (ovE (n.tdiv n'))) := by
  have HS1 := Lib.hid (size_any n hn)
  have HS2 := Lib.hid (size_any n' hn')
  unfold I64 at hn hn'
  obtain ⟨q, hq0, hq1, hq⟩ := tdiv_cases n n' hz
  rcases Bool.eq_false_or_eq_true (decide (n < 0)) with hs | hs <;> rcases Bool.eq_false_or_eq_true (decide (n' < 0)) with ht | ht
  · have hs' := of_decide_eq_true hs
    have ht' := of_decide_eq_true ht
    have hm : n.tdiv n' = 0 * 18446744073709551616 + (q : Int) := by
      rcases hq with ⟨h1, h2⟩ | ⟨h1, h2⟩
      · omega
      · exact absurd (by simp [hs', ht']) h1
    exact rr_4_11 n s n' s' w _ _ q (n.tdiv n') HS1 HS2 hr hr' hs ht (by simp [hz]) (by omega) (by rw [hq0]; rfl) (by rw [IntKind.wrap_u64]; omega) (Lib.hid (signed_any 0 _ false (n.tdiv n') (by omega) (by omega) hm))
  · have hs' := of_decide_eq_true hs
    have ht' := of_decide_eq_false ht
    have hm : n.tdiv n' = -(0 * 18446744073709551616 + (q : Int)) := by
      rcases hq with ⟨h1, h2⟩ | ⟨h1, h2⟩
      · exact absurd h1 (by simp [hs', ht'])
      · omega
    exact rr_4_10 n s n' s' w _ _ q (n.tdiv n') HS1 HS2 hr hr' hs ht (by simp [hz]) (by omega) (by rw [hq0]; rfl) (by rw [IntKind.wrap_u64]; omega) (Lib.hid (signed_any 0 _ true (n.tdiv n') (by omega) (by omega) hm))
  · have hs' := of_decide_eq_false hs
    have ht' := of_decide_eq_true ht
    have hm : n.tdiv n' = -(0 * 18446744073709551616 + (q : Int)) := by
      rcases hq with ⟨h1, h2⟩ | ⟨h1, h2⟩
      · exact absurd h1 (by simp [hs', ht'])
      · omega
    exact rr_4_01 n s n' s' w _ _ q (n.tdiv n') HS1 HS2 hr hr' hs ht (by simp [hz]) (by omega) (by rw [hq0]; rfl) (by rw [IntKind.wrap_u64]; omega) (Lib.hid (signed_any 0 _ true (n.tdiv n') (by omega) (by omega) hm))
  · have hs' := of_decide_eq_false hs
    have ht' := of_decide_eq_false ht
    have hm : n.tdiv n' = 0 * 18446744073709551616 + (q : Int) := by
      rcases hq with ⟨h1, h2⟩ | ⟨h1, h2⟩
      · omega
      · exact absurd (by simp [hs', ht']) h1
    exact rr_4_00 n s n' s' w _ _ q (n.tdiv n') HS1 HS2 hr hr' hs ht (by simp [hz]) (by omega) (by rw [hq0]; rfl) (by rw [IntKind.wrap_u64]; omega) (Lib.hid (signed_any 0 _ false (n.tdiv n') (by omega) (by omega) hm))

theorem rr_num5 (n : Int) (s : ByteArray) (n' : Int) (s' : ByteArray) (w : World) (hn : I64 n) (hn' : I64 n') (hr : Rt 3 n s = true) (hr' : Rt 3 n' s' = true) (hz : n' ≠ 0) : Calls Try.prog 24 #[.int .i64 5, .agg #[.int .i64 3, .int .i64 n, .string s], .agg #[.int .i64 3, .int .i64 n', .string s']] w (Told3 w (rK (n.tmod n')) (rN (n.tmod n')) (ovE (n.tmod n'))) := by
  have HS1 := Lib.hid (size_any n hn)
  have HS2 := Lib.hid (size_any n' hn')
  unfold I64 at hn hn'
  have hM := tmod_sz n n'
  have hb : n.natAbs % n'.natAbs < n'.natAbs := Nat.mod_lt _ (by omega)
  rcases Bool.eq_false_or_eq_true (decide (n < 0)) with hs | hs
  · have hs' := of_decide_eq_true hs
    rw [if_pos hs'] at hM
    have hm : n.tmod n' = -(0 * 18446744073709551616 + ((n.natAbs % n'.natAbs : Nat) : Int)) := by rw [hM]; omega
    exact rr_5_1 n s n' s' w _ _ _ (n.tmod n') HS1 HS2 hr hr' hs (by simp [hz]) (by omega) rfl (Lib.hid (signed_any 0 _ true (n.tmod n') (by omega) (by omega) hm))
  · have hs' := of_decide_eq_false hs
    rw [if_neg hs'] at hM
    have hm : n.tmod n' = 0 * 18446744073709551616 + ((n.natAbs % n'.natAbs : Nat) : Int) := by rw [hM]; omega
    exact rr_5_0 n s n' s' w _ _ _ (n.tmod n') HS1 HS2 hr hr' hs (by simp [hz]) (by omega) rfl (Lib.hid (signed_any 0 _ false (n.tmod n') (by omega) (by omega) hm))

theorem tmod_in (n n' : Int) (hn' : I64 n') (hz : n' ≠ 0) : I64 (n.tmod n') := by
  have hM := tmod_sz n n'
  have hb : n.natAbs % n'.natAbs < n'.natAbs := Nat.mod_lt _ (by omega)
  unfold I64 at hn' ⊢
  split at hM <;> omega

theorem refreckon_any (op k n : Int) (s : ByteArray) (k' n' : Int) (s' : ByteArray) (w : World) (hn : I64 n) (hn' : I64 n') :
    Calls Try.prog 24 #[.int .i64 op, .agg #[.int .i64 k, .int .i64 n, .string s], .agg #[.int .i64 k', .int .i64 n', .string s']] w (Told3 w (recK op k n s k' n' s') (recN op k n s k' n' s') (recE op k n s k' n' s')) := by
  unfold recK recN recE
  by_cases hz : askd op 6 k n s k' n' s' = 0
  · obtain ⟨o1, o2, r1, r2⟩ := askd_zero hz
    have hz' : ¬ (askd op 6 k n s k' n' s' ≠ 0) := fun h => h hz
    rw [if_neg hz', if_neg hz', if_neg hz']
    have b0 : ¬ op < 1 := by omega
    have b5 : ¬ 5 < op := by omega
    by_cases k1 : k = 1 ∨ k = 3
    · by_cases k2 : k' = 1 ∨ k' = 3
      · have q : ¬ (¬ (k = 1 ∨ k = 3) ∨ ¬ (k' = 1 ∨ k' = 3)) := by omega
        rw [if_neg q, if_neg q, if_neg q]
        rcases k1 with rfl | rfl
        · rw [if_pos (.inl rfl), if_pos (.inl rfl), if_pos (.inl rfl)]
          rcases k2 with rfl | rfl
          · exact rr_null11 op n s n' s' w b0 b5 r1 r2
          · exact rr_null13 op n s n' s' w b0 b5 r1 r2
        · rcases k2 with rfl | rfl
          · rw [if_pos (.inr rfl), if_pos (.inr rfl), if_pos (.inr rfl)]
            exact rr_null31 op n s n' s' w b0 b5 r1 r2
          · have q : ¬ ((3 : Int) = 1 ∨ (3 : Int) = 1) := by omega
            rw [if_neg q, if_neg q, if_neg q]
            rcases (show op = 1 ∨ op = 2 ∨ op = 3 ∨ op = 4 ∨ op = 5 by omega) with rfl | rfl | rfl | rfl | rfl
            · exact rr_num1 n s n' s' w hn hn' r1 r2
            · exact rr_num2 n s n' s' w hn hn' r1 r2
            · exact rr_num3 n s n' s' w hn hn' r1 r2
            · by_cases h0 : n' = 0
              · subst h0
                exact rr_zero4 n s 0 s' w r1 r2 rfl
              · rw [show rkE 4 n n' = ovE (n.tdiv n') from if_neg h0, show rkV 4 n n' = ovN (n.tdiv n') from if_neg h0]
                exact rr_num4 n s n' s' w hn hn' r1 r2 h0
            · by_cases h0 : n' = 0
              · subst h0
                exact rr_zero5 n s 0 s' w r1 r2 rfl
              · have hI := tmod_in n n' hn' h0
                have hE : ovE (n.tmod n') = 0 := if_pos hI
                have hc := rr_num5 n s n' s' w hn hn' r1 r2 h0
                rw [show rK (n.tmod n') = 3 from if_pos hE, show rN (n.tmod n') = ovN (n.tmod n') from if_pos hE, hE, show ovN (n.tmod n') = n.tmod n' from if_pos hI] at hc
                rw [show rkE 5 n n' = 0 from if_neg h0, show rkV 5 n n' = n.tmod n' from if_neg h0]
                exact hc
      · have q : ¬ (k = 1 ∨ k = 3) ∨ ¬ (k' = 1 ∨ k' = 3) := .inr k2
        rw [if_pos q, if_pos q, if_pos q]
        have a1 : (k' != 1) = true := by simp; omega
        have a3 : (k' != 3) = true := by simp; omega
        rcases k1 with rfl | rfl
        · exact rr_type2_1 op n s k' n' s' w b0 b5 r1 r2 a1 a3
        · exact rr_type2_3 op n s k' n' s' w b0 b5 r1 r2 a1 a3
    · have q : ¬ (k = 1 ∨ k = 3) ∨ ¬ (k' = 1 ∨ k' = 3) := .inl k1
      rw [if_pos q, if_pos q, if_pos q]
      exact rr_type1 op k n s k' n' s' w b0 b5 r1 r2 (by simp; omega) (by simp; omega)
  · rw [if_pos hz, if_pos hz, if_pos hz]
    unfold askd chk
    by_cases h1 : op < 1
    · rw [if_pos (.inl h1)]
      exact rr_low op k n s k' n' s' w h1
    · by_cases h2 : 6 ≤ op
      · rw [if_pos (.inr h2)]
        exact rr_high op k n s k' n' s' w h1 (by omega)
      · rw [if_neg (by omega)]
        cases r1 : Rt k n s with
        | false => rw [if_neg (by decide)]; exact rr_bad1 op k n s k' n' s' w h1 (by omega) r1
        | true =>
          rw [if_pos rfl]
          cases r2 : Rt k' n' s' with
          | false => rw [if_neg (by decide)]; exact rr_bad2 op k n s k' n' s' w h1 (by omega) r1 r2
          | true => exact absurd (show askd op 6 k n s k' n' s' = 0 by unfold askd chk; rw [if_neg (by omega), if_pos r1, if_pos r2]) hz

end Go.Proofs.Ytndkoefchlclkaa
