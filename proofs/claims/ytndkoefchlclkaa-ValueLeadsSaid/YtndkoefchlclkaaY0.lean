/-
  The document's numbers: size, signed, wide.
-/
import Derived.Test.YtndkoefchlclkaaV8
namespace Go.Proofs.Ytndkoefchlclkaa
open Go.RowKit

theorem ret_ib {k : IntKind} {a b : Int} {t : Bool} (h : a = b) : Ending.returned (.tuple #[.int k a, .bool t]) = .returned (.tuple #[.int k b, .bool t]) := by rw [h]

theorem size_any (n : Int) (hn : I64 n) (w : World) : Calls Try.prog 48 #[.int .i64 n] w fun e w' => e = .returned (.int .u64 (n.natAbs : Int)) ∧ w = w' := by
  unfold I64 at hn
  by_cases h : n < 0
  · have h1 : IntKind.u64.wrap n = n + 18446744073709551616 := by rw [IntKind.wrap_u64]; omega
    have h2 : IntKind.u64.wrap (-(n + 18446744073709551616)) = (n.natAbs : Int) := by rw [IntKind.wrap_u64]; omega
    have H1 := Lib.hid h1
    have H2 := Lib.hid h2
    clear hn h1 h2
    go_enter Try.func48, Try.ntmps48
    go_wp2
    go_ret
    exact ⟨ret_int (by rw [H1.out, H2.out]), by first | rfl | trivial⟩
  · have h1 : IntKind.u64.wrap n = (n.natAbs : Int) := by rw [IntKind.wrap_u64]; omega
    have H1 := Lib.hid h1
    clear hn h1
    go_enter Try.func48, Try.ntmps48
    go_wp2
    go_ret
    exact ⟨ret_int H1.out, by first | rfl | trivial⟩

theorem signed_any (hi lo : Int) (minus : Bool) (m : Int) (h0 : 0 ≤ hi) (hl : 0 ≤ lo ∧ lo < 18446744073709551616) (hm : m = if minus then -(hi * 18446744073709551616 + lo) else hi * 18446744073709551616 + lo) (w : World) :
    Calls Try.prog 49 #[.int .u64 hi, .int .u64 lo, .bool minus] w fun e w' => e = .returned (.tuple #[.int .i64 (ovN m), .bool (decide (I64 m))]) ∧ w = w' := by
  unfold ovN
  by_cases hh : 0 < hi
  · have hI : ¬ I64 m := by unfold I64; rw [hm]; split <;> omega
    rw [if_neg hI, decide_eq_false hI]
    clear hI hm hl h0
    go_enter Try.func49, Try.ntmps49
    go_wp2
    go_ret2
    exact ⟨rfl, rfl⟩
  · obtain rfl : hi = 0 := by omega
    cases minus with
    | true =>
      simp only [if_true] at hm
      by_cases hb : 9223372036854775808 < lo
      · have hI : ¬ I64 m := by unfold I64; omega
        rw [if_neg hI, decide_eq_false hI]
        clear hI hm hl h0 hh
        go_enter Try.func49, Try.ntmps49
        go_wp2
        go_ret2
        exact ⟨rfl, rfl⟩
      · have hI : I64 m := by unfold I64; omega
        rw [if_pos hI, decide_eq_true hI]
        have h1 : IntKind.i64.wrap (IntKind.u64.wrap (-lo)) = m := by rw [IntKind.wrap_u64, IntKind.wrap_i64]; omega
        have h2 : wrap64 (IntKind.u64.wrap (-lo)) = m := by rw [wrap64_eq, IntKind.wrap_u64]; omega
        have H1 := Lib.hid h1
        have H2 := Lib.hid h2
        clear hI hm hl h0 hh h1 h2
        go_enter Try.func49, Try.ntmps49
        go_wp2
        go_ret2
        first | exact ⟨ret_ib H1.out, rfl⟩ | exact ⟨ret_ib H2.out, by first | rfl | trivial⟩
    | false =>
      simp only [Bool.false_eq_true, if_false] at hm
      by_cases hb : 9223372036854775808 ≤ lo
      · have hI : ¬ I64 m := by unfold I64; omega
        rw [if_neg hI, decide_eq_false hI]
        clear hI hm hl h0 hh
        go_enter Try.func49, Try.ntmps49
        go_wp2
        go_ret2
        exact ⟨rfl, rfl⟩
      · have hI : I64 m := by unfold I64; omega
        rw [if_pos hI, decide_eq_true hI]
        have h1 : IntKind.i64.wrap lo = m := by rw [IntKind.wrap_i64]; omega
        have h2 : wrap64 lo = m := by rw [wrap64_eq]; omega
        have H1 := Lib.hid h1
        have H2 := Lib.hid h2
        clear hI hm hl h0 hh h1 h2
        go_enter Try.func49, Try.ntmps49
        go_wp2
        go_ret2
        first | exact ⟨ret_ib H1.out, rfl⟩ | exact ⟨ret_ib H2.out, by first | rfl | trivial⟩

theorem or_low (H x : Nat) (hx : x < 2) : 2 * H ||| x = 2 * H + x := by
  have := (Nat.two_pow_add_eq_or_of_lt (i := 1) (b := x) hx H).symm
  simpa using this

set_option maxRecDepth 100000 in
set_option maxHeartbeats 1000000 in
theorem wide_any (a b : Nat) (ha : a < 18446744073709551616) (hb : b < 18446744073709551616) (w : World) :
    Calls Try.prog 50 #[.int .u64 a, .int .u64 b] w fun e w' => e = .returned (.tuple #[.int .u64 ((a * b / 18446744073709551616 : Nat) : Int), .int .u64 ((a * b % 18446744073709551616 : Nat) : Int)]) ∧ w = w' := by
  have HA := Lib.hid ha
  have HB := Lib.hid hb
  clear ha hb
  go_enter Try.func50, Try.ntmps50
  go_wp2
  go_loopw [6, 7, 8] (fun h l v wr => ∃ i : Nat, i ≤ 64 ∧ v = .int .i64 ((i : Int) - 1) ∧ h = .int .u64 ((a * (b / 2 ^ i) / 18446744073709551616 : Nat) : Int) ∧ l = .int .u64 ((a * (b / 2 ^ i) % 18446744073709551616 : Nat) : Int) ∧ wr = w) (fun _ _ v _ => (intOf v + 1).toNat)
  case atStart =>
    have h0 : b / 2 ^ 64 = 0 := Nat.div_eq_of_lt HB.out
    refine ⟨64, by omega, rfl, ?_, ?_, rfl⟩ <;> rw [h0, Nat.mul_zero] <;> rfl
  case round =>
    obtain ⟨i, hi, rfl, rfl, rfl, rfl⟩ := hrel
    rcases i with _ | i
    · have hv : (((0 : Nat) : Int) - 1) = -1 := by omega
      rw [hv]
      simp only [Nat.pow_zero, Nat.div_one]
      go_wp2
      go_ret2
      exact ⟨rfl, rfl⟩
    · have hv : (((i + 1 : Nat) : Int) - 1) = (i : Int) := by omega
      rw [hv]
      have hB : b / 2 ^ (i + 1) = (b / 2 ^ i) / 2 := by rw [Nat.pow_succ, Nat.div_div_eq_div_mul]
      have hlt : a * (b / 2 ^ i) < 18446744073709551616 * 18446744073709551616 := Nat.mul_lt_mul'' HA.out (Nat.lt_of_le_of_lt (Nat.div_le_self _ _) HB.out)
      have hcast : (b : Int) / 2 ^ i = ((b / 2 ^ i : Nat) : Int) := by push_cast; rfl
      have hdm : b / 2 ^ i = 2 * ((b / 2 ^ i) / 2) + (b / 2 ^ i) % 2 := by omega
      have hPN : a * (b / 2 ^ i) = 2 * (a * ((b / 2 ^ i) / 2)) + a * ((b / 2 ^ i) % 2) := by
        conv => lhs; rw [hdm]
        rw [Nat.mul_add, Nat.mul_left_comm]
      have hb64 : b / 2 ^ i < 18446744073709551616 := Nat.lt_of_le_of_lt (Nat.div_le_self _ _) HB.out
      have hand : bits .and .u64 ((b / 2 ^ i : Nat) : Int) 1 = (((b / 2 ^ i) % 2 : Nat) : Int) := by
        rw [show (1 : Int) = ((1 : Nat) : Int) from rfl, bits_and_u64_nat _ _ hb64 (by omega), Nat.and_one_is_mod]
      rw [hB]
      generalize hPN' : a * (b / 2 ^ i) = PN at *
      generalize hP : a * ((b / 2 ^ i) / 2) = P at *
      have hE : Hid (∀ j, j = i → a * (b / 2 ^ j) = PN) := fun j e => by subst e; exact hPN'
      rw [← hcast] at hand
      have hLl : P % 18446744073709551616 < 18446744073709551616 := Nat.mod_lt _ (by omega)
      have hHl : P / 18446744073709551616 < 9223372036854775808 := by omega
      have hPs : P = (P / 18446744073709551616) * 18446744073709551616 + P % 18446744073709551616 := by omega
      generalize P / 18446744073709551616 = H at *
      generalize P % 18446744073709551616 = L at *
      have hwH : IntKind.u64.wrap ((H : Int) * 2) = ((2 * H : Nat) : Int) := by rw [IntKind.wrap_u64]; omega
      have hwL : ∃ L2 : Nat, IntKind.u64.wrap ((L : Int) * 2) = (L2 : Int) ∧ L2 = (2 * L) % 18446744073709551616 := ⟨_, by rw [IntKind.wrap_u64]; omega, rfl⟩
      have hor : bits .or .u64 ((2 * H : Nat) : Int) ((L : Int) / 9223372036854775808) = ((2 * H + L / 9223372036854775808 : Nat) : Int) := by
        rw [show (L : Int) / 9223372036854775808 = ((L / 9223372036854775808 : Nat) : Int) by omega, bits_or_u64_nat _ _ (by omega) (by omega), or_low _ _ (by omega)]
      obtain ⟨L2, hwL, hL2⟩ := hwL
      have hH2 : ∃ H2 : Nat, H2 = 2 * H + L / 9223372036854775808 := ⟨_, by first | rfl | trivial⟩
      obtain ⟨H2, hH2⟩ := hH2
      rw [← hH2] at hor
      have hHH : ∃ HH : Nat, HH = 2 * H := ⟨_, by first | rfl | trivial⟩
      obtain ⟨HH, hHH⟩ := hHH
      rw [← hHH] at hor hwH
      have HPS := Lib.hid hPs
      have HL2 := Lib.hid hL2
      have HH2 := Lib.hid hH2
      have HPN := Lib.hid hPN
      have HLT := Lib.hid hlt
      have HLL := Lib.hid hLl
      have HI : Hid (i + 1 ≤ 64) := hi
      rcases (show (b / 2 ^ i) % 2 = 0 ∨ (b / 2 ^ i) % 2 = 1 by omega) with hbit | hbit
      · have hb1 : (bits .and .u64 ((b : Int) / 2 ^ i) 1 == 1) = false := by rw [hand, hbit]; rfl
        rw [hbit, Nat.mul_zero] at hPN
        have HPN := Lib.hid hPN
        clear hPs hL2 hH2 hPN hlt hLl hbit hand hB hcast hdm hb64 hPN' hP hHl hHH hv
        go_wp2
        go_roundw
        case rel => exact ⟨i, by have := HI.out; omega, rfl, by rw [hE.out i rfl]; have := HPS.out; have := HL2.out; have := HH2.out; have := HPN.out; have := HLL.out; exact congrArg (fun x : Nat => Value.int .u64 (x : Int)) (by omega), by rw [hE.out i rfl]; have := HPS.out; have := HL2.out; have := HPN.out; have := HLL.out; exact congrArg (fun x : Nat => Value.int .u64 (x : Int)) (by omega), by first | rfl | trivial⟩
        case measure => simp [intOf]
      · have hb1 : (bits .and .u64 ((b : Int) / 2 ^ i) 1 == 1) = true := by rw [hand, hbit]; rfl
        rw [hbit, Nat.mul_one] at hPN
        have HPN := Lib.hid hPN
        have HAA := Lib.hid HA.out
        have hsum : ∃ L3 : Nat, IntKind.u64.wrap ((L2 : Int) + a) = (L3 : Int) ∧ L3 = (L2 + a) % 18446744073709551616 := ⟨_, by rw [IntKind.wrap_u64]; omega, rfl⟩
        obtain ⟨L3, hsum, hL3⟩ := hsum
        have HL3 := Lib.hid hL3
        have hinc : Hid (L3 < L2 → IntKind.u64.wrap ((H2 : Int) + 1) = ((H2 + 1 : Nat) : Int)) := fun h => by
          have := HAA.out
          rw [IntKind.wrap_u64]; omega
        by_cases hcar : (L3 : Int) < (L2 : Int)
        · have hinc' := hinc.out (by omega)
          have hH3 : ∃ H3 : Nat, H3 = H2 + 1 := ⟨_, rfl⟩
          obtain ⟨H3, hH3⟩ := hH3
          have HH3 := Lib.hid hH3
          rw [← hH3] at hinc'
          have hcar' : Hid (L3 < L2) := show _ < _ by omega
          clear hPs hL2 hH2 hPN hlt hLl hbit hand hB hcast hdm hb64 hPN' hP hHl hHH hv hL3 hH3
          go_wp2
          go_roundw
          case rel => exact ⟨i, by have := HI.out; omega, rfl, by rw [hE.out i rfl]; have := HH3.out; have := HPS.out; have := HL2.out; have := HH2.out; have := HPN.out; have := HLL.out; have := HL3.out; have := hcar'.out; have := HAA.out; exact congrArg (fun x : Nat => Value.int .u64 (x : Int)) (by omega), by rw [hE.out i rfl]; have := HPS.out; have := HL2.out; have := HPN.out; have := HLL.out; have := HL3.out; exact congrArg (fun x : Nat => Value.int .u64 (x : Int)) (by omega), by first | rfl | trivial⟩
          case measure => simp [intOf]
        · have hcar' : Hid (¬ L3 < L2) := show ¬ _ < _ by omega
          clear hPs hL2 hH2 hPN hlt hLl hbit hand hB hcast hdm hb64 hPN' hP hHl hHH hv hL3
          go_wp2
          go_roundw
          case rel => exact ⟨i, by have := HI.out; omega, rfl, by rw [hE.out i rfl]; have := HPS.out; have := HL2.out; have := HH2.out; have := HPN.out; have := HLL.out; have := HL3.out; have := hcar'.out; have := HAA.out; exact congrArg (fun x : Nat => Value.int .u64 (x : Int)) (by omega), by rw [hE.out i rfl]; have := HPS.out; have := HL2.out; have := HPN.out; have := HLL.out; have := HL3.out; exact congrArg (fun x : Nat => Value.int .u64 (x : Int)) (by omega), by first | rfl | trivial⟩
          case measure => simp [intOf]

end Go.Proofs.Ytndkoefchlclkaa
