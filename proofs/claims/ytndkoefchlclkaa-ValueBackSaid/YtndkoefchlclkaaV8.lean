/-
  What is reckoned with two numbers: the program's functions.
-/
import Derived.Test.YtndkoefchlclkaaV2
import Derived.Shelf.Bits.Mul64
namespace Go.Proofs.Ytndkoefchlclkaa
open Go.RowKit

def I64 (n : Int) : Prop := -9223372036854775808 ≤ n ∧ n ≤ 9223372036854775807
instance (n : Int) : Decidable (I64 n) := by unfold I64; infer_instance
/-- A number, if it is one of 64 bits. -/
def ovN (n : Int) : Int := if I64 n then n else 0
def ovE (n : Int) : Int := if I64 n then 0 else 151

theorem wrap64_eq (n : Int) : wrap64 n = (n + 9223372036854775808) % 18446744073709551616 - 9223372036854775808 := by
  unfold wrap64
  omega

theorem msb_of (a : Int) (ha : I64 a) : (BitVec.ofInt 64 a).msb = decide (a < 0) := by
  unfold I64 at ha
  rw [BitVec.msb_eq_toInt, BitVec.toInt_ofInt, Int.bmod_eq_of_le (by omega) (by omega)]
theorem wrap_msb (x : BitVec 64) : decide (IntKind.i64.wrap (x.toNat : Int) < 0) = x.msb ∧ I64 (IntKind.i64.wrap (x.toNat : Int)) := by
  have h := x.isLt
  have e : IntKind.i64.wrap (x.toNat : Int) = x.toInt := by
    rw [BitVec.toInt_eq_toNat_cond]
    simp [IntKind.wrap, IntKind.bits, IntKind.signed]
    split <;> omega
  rw [e, BitVec.msb_eq_toInt]
  refine ⟨rfl, ?_⟩
  unfold I64
  have h1 := BitVec.toInt_lt (x := x)
  have h2 := BitVec.le_toInt (x := x)
  simp at h1 h2
  omega
theorem sgn_and (a b : Int) (ha : I64 a) (hb : I64 b) : decide (bits .and .i64 a b < 0) = (decide (a < 0) && decide (b < 0)) ∧ I64 (bits .and .i64 a b) := by
  have h := wrap_msb (BitVec.ofInt 64 a &&& BitVec.ofInt 64 b)
  rw [BitVec.msb_and, msb_of a ha, msb_of b hb] at h
  exact h
theorem sgn_xor (a b : Int) (ha : I64 a) (hb : I64 b) : decide (bits .xor .i64 a b < 0) = (decide (a < 0) ^^ decide (b < 0)) ∧ I64 (bits .xor .i64 a b) := by
  have h := wrap_msb (BitVec.ofInt 64 a ^^^ BitVec.ofInt 64 b)
  rw [BitVec.msb_xor, msb_of a ha, msb_of b hb] at h
  exact h
theorem i64_wrap (n : Int) : I64 (wrap64 n) := by
  rw [wrap64_eq]
  unfold I64
  omega

theorem unless_any (b : Bool) (n : Int) (w : World) : Calls Try.prog 82 #[.bool b, .int .i64 n] w fun e w' => e = .returned (.tuple #[.int .i64 (if b then 0 else n), .int .i64 (if b then 151 else 0)]) ∧ w = w' := by
  cases b
  all_goals
    go_enter Try.func82, Try.ntmps82
    go_wp2
    go_ret2
    exact ⟨rfl, rfl⟩

/-- Unless it goes over. -/
theorem unless_ov (b : Bool) (n m : Int) (h : b = !decide (I64 m)) (hn : I64 m → n = m) (w : World) : Calls Try.prog 82 #[.bool b, .int .i64 n] w fun e w' => e = .returned (.tuple #[.int .i64 (ovN m), .int .i64 (ovE m)]) ∧ w = w' := by
  refine (unless_any b n w).mono ?_
  rintro e w' ⟨rfl, rfl⟩
  refine ⟨?_, rfl⟩
  subst h
  unfold ovN ovE
  by_cases hm : I64 m
  · simp [hm, hn hm]
  · simp [hm]

theorem add_over (a b : Int) (ha : I64 a) (hb : I64 b) : decide (bits .and .i64 (bits .xor .i64 a (wrap64 (a + b))) (bits .xor .i64 b (wrap64 (a + b))) < 0) = !decide (I64 (a + b)) := by
  have hn := i64_wrap (a + b)
  have x1 := sgn_xor a _ ha hn
  have x2 := sgn_xor b _ hb hn
  rw [(sgn_and _ _ x1.2 x2.2).1, x1.1, x2.1]
  have en := wrap64_eq (a + b)
  generalize wrap64 (a + b) = n at *
  generalize hm : a + b = m at *
  clear x1 x2 hn
  by_cases h1 : a < 0 <;> by_cases h2 : b < 0 <;> by_cases h3 : n < 0 <;> by_cases h4 : I64 m
  all_goals (simp only [h1, h2, h3, h4, decide_true, decide_false]; first | rfl | (exfalso; unfold I64 at *; omega))
theorem sub_over (a b : Int) (ha : I64 a) (hb : I64 b) : decide (bits .and .i64 (bits .xor .i64 a b) (bits .xor .i64 a (wrap64 (a - b))) < 0) = !decide (I64 (a - b)) := by
  have hn := i64_wrap (a - b)
  have x1 := sgn_xor a b ha hb
  have x2 := sgn_xor a _ ha hn
  rw [(sgn_and _ _ x1.2 x2.2).1, x1.1, x2.1]
  have en := wrap64_eq (a - b)
  generalize wrap64 (a - b) = n at *
  generalize hm : a - b = m at *
  clear x1 x2 hn
  by_cases h1 : a < 0 <;> by_cases h2 : b < 0 <;> by_cases h3 : n < 0 <;> by_cases h4 : I64 m
  all_goals (simp only [h1, h2, h3, h4, decide_true, decide_false]; first | rfl | (exfalso; unfold I64 at *; omega))
theorem wrap_in (m : Int) (h : I64 m) : wrap64 m = m := by
  rw [wrap64_eq]
  unfold I64 at h
  omega

theorem add_any (a b : Int) (ha : I64 a) (hb : I64 b) (w : World) : Calls Try.prog 72 #[.int .i64 a, .int .i64 b] w fun e w' => e = .returned (.tuple #[.int .i64 (ovN (a + b)), .int .i64 (ovE (a + b))]) ∧ w = w' := by
  go_enter Try.func72, Try.ntmps72
  go_wp2_with fail
  refine (unless_ov _ _ (a + b) (add_over a b ha hb) (fun h => wrap_in _ h) _).mono ?_
  rintro e w' ⟨rfl, rfl⟩
  go_wp2
  go_ret2
  exact ⟨rfl, rfl⟩
theorem sub_any (a b : Int) (ha : I64 a) (hb : I64 b) (w : World) : Calls Try.prog 73 #[.int .i64 a, .int .i64 b] w fun e w' => e = .returned (.tuple #[.int .i64 (ovN (a - b)), .int .i64 (ovE (a - b))]) ∧ w = w' := by
  go_enter Try.func73, Try.ntmps73
  go_wp2_with fail
  refine (unless_ov _ _ (a - b) (sub_over a b ha hb) (fun h => wrap_in _ h) _).mono ?_
  rintro e w' ⟨rfl, rfl⟩
  go_wp2
  go_ret2
  exact ⟨rfl, rfl⟩

/-- A quotient by its signs. -/
theorem tdiv_cases (a b : Int) (h0 : b ≠ 0) : ∃ q : Nat, q = a.natAbs / b.natAbs ∧ q ≤ a.natAbs ∧ (((a < 0 ↔ b < 0) ∧ a.tdiv b = q) ∨ (¬ (a < 0 ↔ b < 0) ∧ a.tdiv b = -(q : Int))) := by
  refine ⟨a.natAbs / b.natAbs, rfl, Nat.div_le_self _ _, ?_⟩
  rcases Int.natAbs_eq a with ea | ea <;> rcases Int.natAbs_eq b with eb | eb
  all_goals
    generalize a.natAbs = A at *
    generalize b.natAbs = B at *
    subst ea eb
  · exact .inl ⟨by omega, Int.ofNat_tdiv ..⟩
  · by_cases hA : A = 0
    · subst hA; exact .inr ⟨by omega, by simp⟩
    · exact .inr ⟨by omega, by rw [Int.tdiv_neg]; rfl⟩
  · by_cases hA : A = 0
    · subst hA; exact .inl ⟨by omega, by simp⟩
    · exact .inr ⟨by omega, by rw [Int.neg_tdiv]; rfl⟩
  · by_cases hA : A = 0
    · subst hA; exact .inr ⟨by omega, by simp⟩
    · exact .inl ⟨by omega, by rw [Int.neg_tdiv, Int.tdiv_neg, Int.neg_neg]; rfl⟩

theorem div_over (a b : Int) (ha : I64 a) (hb : I64 b) (h0 : b ≠ 0) : decide (bits .and .i64 (bits .and .i64 a b) (wrap64 (a.tdiv b)) < 0) = !decide (I64 (a.tdiv b)) := by
  have hn := i64_wrap (a.tdiv b)
  have x1 := sgn_and a b ha hb
  rw [(sgn_and _ _ x1.2 hn).1, x1.1]
  have en := wrap64_eq (a.tdiv b)
  obtain ⟨q, _, hq, h⟩ := tdiv_cases a b h0
  generalize wrap64 (a.tdiv b) = n at *
  generalize a.tdiv b = m at *
  clear x1 hn
  by_cases h1 : a < 0 <;> by_cases h2 : b < 0 <;> by_cases h3 : n < 0 <;> by_cases h4 : I64 m
  all_goals (simp only [h1, h2, h3, h4, decide_true, decide_false]; first | rfl | (exfalso; unfold I64 at *; omega))
theorem div_any (a b : Int) (ha : I64 a) (hb : I64 b) (h0 : b ≠ 0) (w : World) : Calls Try.prog 76 #[.int .i64 a, .int .i64 b] w fun e w' => e = .returned (.tuple #[.int .i64 (ovN (a.tdiv b)), .int .i64 (ovE (a.tdiv b))]) ∧ w = w' := by
  go_enter Try.func76, Try.ntmps76
  go_wp2_with fail
  refine (unless_ov _ _ (a.tdiv b) (div_over a b ha hb h0) (fun h => wrap_in _ h) _).mono ?_
  rintro e w' ⟨rfl, rfl⟩
  go_wp2
  go_ret2
  exact ⟨rfl, rfl⟩
theorem rem_any (a b : Int) (h0 : b ≠ 0) (w : World) : Calls Try.prog 77 #[.int .i64 a, .int .i64 b] w fun e w' => e = .returned (.tuple #[.int .i64 (a.tmod b), .int .i64 0]) ∧ w = w' := by
  have h0' : (b == 0) = false := by simp [h0]
  go_enter Try.func77, Try.ntmps77
  go_wp2
  go_ret2
  exact ⟨rfl, rfl⟩

theorem mul64_any (x y : Nat) (hx : x < 18446744073709551616) (hy : y < 18446744073709551616) (w : World) :
    Calls Try.prog 83 #[.int .u64 x, .int .u64 y] w fun e w' => e = .returned (.tuple #[.int .u64 ((x * y / 18446744073709551616 : Nat) : Int), .int .u64 ((x * y % 18446744073709551616 : Nat) : Int)]) ∧ w = w' := by
  obtain ⟨bd, bt, bw, hhi⟩ := Lib.mul64_hi x y hx hy
  have ba := Lib.half_mul_le (a := x / 4294967296) (b := y / 4294967296) (by omega) (by omega)
  have bb := Lib.half_mul_le (a := x / 4294967296) (b := y % 4294967296) (by omega) (by omega)
  have bc := Lib.half_mul_le (a := x % 4294967296) (b := y / 4294967296) (by omega) (by omega)
  have ba' : x / 4294967296 * (y / 4294967296) < 18446744073709551616 := by omega
  have bb' : x / 4294967296 * (y % 4294967296) < 18446744073709551616 := by omega
  have bc' : x % 4294967296 * (y / 4294967296) < 18446744073709551616 := by omega
  have bh1 : x / 4294967296 * (y / 4294967296) + (x / 4294967296 * (y % 4294967296) + x % 4294967296 * (y % 4294967296) / 4294967296) / 4294967296 < 18446744073709551616 := by omega
  have bh : x / 4294967296 * (y / 4294967296) + (x / 4294967296 * (y % 4294967296) + x % 4294967296 * (y % 4294967296) / 4294967296) / 4294967296 + ((x / 4294967296 * (y % 4294967296) + x % 4294967296 * (y % 4294967296) / 4294967296) % 4294967296 + x % 4294967296 * (y / 4294967296)) / 4294967296 < 18446744073709551616 := by omega
  go_enter Try.func83, Try.ntmps83
  go_wp2
  simp only [Mul64.maskN x hx, Mul64.maskN y hy, Mul64.divN, Mul64.mulN, Mul64.addN, Mul64.wrapN _ bd, Mul64.wrapN _ bb', Mul64.wrapN _ bt, Mul64.maskN _ bt, Mul64.wrapN _ bc', Mul64.wrapN _ bw, Mul64.wrapN _ ba', Mul64.wrapN _ bh1, Mul64.wrapN _ bh, Mul64.wrapM (x * y)]
  rw [hhi]
  go_ret2
  exact ⟨rfl, rfl⟩

theorem mask64 (a : Int) (ha : I64 a) (B : Nat) (hB : B < 18446744073709551616) : bits .and .u64 (IntKind.u64.wrap (a / 9223372036854775808)) (B : Int) = if a < 0 then (B : Int) else 0 := by
  unfold I64 at ha
  by_cases h : a < 0
  · rw [if_pos h, show a / 9223372036854775808 = -1 by omega, show IntKind.u64.wrap (-1) = ((18446744073709551615 : Nat) : Int) by decide]
    rw [bits_and_u64_nat _ B (by omega) hB, Nat.and_comm]
    have e : B &&& 18446744073709551615 = B % 18446744073709551616 := Nat.and_two_pow_sub_one_eq_mod B 64
    rw [e]
    omega
  · rw [if_neg h, show a / 9223372036854775808 = 0 by omega, show IntKind.u64.wrap 0 = ((0 : Nat) : Int) by decide]
    rw [bits_and_u64_nat 0 B (by omega) hB, Nat.zero_and]
    rfl

theorem mul_bound (a b : Int) (ha : I64 a) (hb : I64 b) : (a * b).natAbs ≤ 85070591730234615865843651857942052864 := by
  unfold I64 at *
  rw [Int.natAbs_mul]
  exact Nat.mul_le_mul (show a.natAbs ≤ 9223372036854775808 by omega) (show b.natAbs ≤ 9223372036854775808 by omega)

theorem mul_high (a b : Int) (ha : I64 a) (hb : I64 b) (A B hi lo : Nat) (hA : (A : Int) = a % 18446744073709551616) (hB : (B : Int) = b % 18446744073709551616) (h : A * B = hi * 18446744073709551616 + lo) (hlo : lo < 18446744073709551616) :
    wrap64 (IntKind.u64.wrap ((hi : Int) - IntKind.u64.wrap ((if a < 0 then (B : Int) else 0) + (if b < 0 then (A : Int) else 0)))) * 18446744073709551616 + lo = a * b := by
  have hp := mul_bound a b ha hb
  have h' : (A : Int) * B = hi * 18446744073709551616 + lo := by
    have := congrArg (fun n : Nat => (n : Int)) h
    simpa using this
  rw [wrap64_eq, IntKind.wrap_u64, IntKind.wrap_u64]
  unfold I64 at *
  by_cases h1 : a < 0
  · rw [if_pos h1]
    have eA : (A : Int) = a + 18446744073709551616 := by omega
    by_cases h2 : b < 0
    · rw [if_pos h2]
      have eB : (B : Int) = b + 18446744073709551616 := by omega
      rw [eA, eB] at h' ⊢
      rw [Int.add_mul, Int.mul_add] at h'
      generalize a * b = p at *
      omega
    · rw [if_neg h2]
      have eB : (B : Int) = b := by omega
      rw [eA, eB] at h'
      rw [eB]
      rw [Int.add_mul] at h'
      generalize a * b = p at *
      omega
  · rw [if_neg h1]
    have eA : (A : Int) = a := by omega
    by_cases h2 : b < 0
    · rw [if_pos h2]
      have eB : (B : Int) = b + 18446744073709551616 := by omega
      rw [eA, eB] at h'
      rw [eA]
      rw [Int.mul_add] at h'
      generalize a * b = p at *
      omega
    · rw [if_neg h2]
      have eB : (B : Int) = b := by omega
      rw [eA, eB] at h'
      generalize a * b = p at *
      omega

theorem mul_over (a b : Int) (ha : I64 a) (hb : I64 b) (A B hi lo : Nat) (hA : (A : Int) = a % 18446744073709551616) (hB : (B : Int) = b % 18446744073709551616) (h : A * B = hi * 18446744073709551616 + lo) (hlo : lo < 18446744073709551616) :
    (wrap64 (IntKind.u64.wrap ((hi : Int) - IntKind.u64.wrap (bits .and .u64 (IntKind.u64.wrap (a / 9223372036854775808)) (B : Int) + bits .and .u64 (IntKind.u64.wrap (b / 9223372036854775808)) (A : Int)))) != wrap64 (lo : Int) / 9223372036854775808) = !decide (I64 (a * b)) ∧ (I64 (a * b) → wrap64 (lo : Int) = a * b) := by
  have k := mul_high a b ha hb A B hi lo hA hB h hlo
  rw [mask64 a ha B (by omega), mask64 b hb A (by omega)]
  generalize wrap64 (IntKind.u64.wrap ((hi : Int) - IntKind.u64.wrap ((if a < 0 then (B : Int) else 0) + (if b < 0 then (A : Int) else 0)))) = H at *
  rw [wrap64_eq]
  generalize a * b = p at *
  clear ha hb hA hB h
  constructor
  · by_cases h4 : I64 p
    · have : H = ((lo : Int) + 9223372036854775808) % 18446744073709551616 / 9223372036854775808 - 1 := by
        unfold I64 at h4
        omega
      simp only [h4, decide_true, Bool.not_true, bne_eq_false_iff_eq]
      omega
    · simp only [h4, decide_false, Bool.not_false, bne_iff_ne, ne_eq]
      unfold I64 at h4
      omega
  · intro h4
    unfold I64 at h4
    omega

theorem mul_any (a b : Int) (ha : I64 a) (hb : I64 b) (w : World) : Calls Try.prog 74 #[.int .i64 a, .int .i64 b] w fun e w' => e = .returned (.tuple #[.int .i64 (ovN (a * b)), .int .i64 (ovE (a * b))]) ∧ w = w' := by
  have e1 : IntKind.u64.wrap a = ((a % 18446744073709551616).toNat : Int) := by rw [IntKind.wrap_u64]; omega
  have e2 : IntKind.u64.wrap b = ((b % 18446744073709551616).toNat : Int) := by rw [IntKind.wrap_u64]; omega
  have hA : (((a % 18446744073709551616).toNat : Nat) : Int) = a % 18446744073709551616 := by omega
  have hB : (((b % 18446744073709551616).toNat : Nat) : Int) = b % 18446744073709551616 := by omega
  generalize (a % 18446744073709551616).toNat = A at *
  generalize (b % 18446744073709551616).toNat = B at *
  have HM := Lib.hid (fun w => mul64_any A B (by omega) (by omega) w)
  have MO := Lib.hid (mul_over a b ha hb A B (A * B / 18446744073709551616) (A * B % 18446744073709551616) hA hB (by omega) (by omega))
  clear hA hB ha hb
  generalize A * B / 18446744073709551616 = hi at *
  generalize A * B % 18446744073709551616 = lo at *
  go_enter Try.func74, Try.ntmps74
  go_wp2_with fail
  refine (HM.out _).mono ?_
  rintro e w' ⟨rfl, rfl⟩
  go_wp2_with fail
  refine (unless_ov _ _ (a * b) MO.out.1 MO.out.2 _).mono ?_
  rintro e w' ⟨rfl, rfl⟩
  go_wp2
  go_ret2
  exact ⟨rfl, rfl⟩

end Go.Proofs.Ytndkoefchlclkaa
