/-
  The law ValueTests, walked.
-/
import Derived.Test.YtndkoefchlclkaaX0
import Derived.Test.YtndkoefchlclkaaX1
import Derived.Test.YtndkoefchlclkaaW7
namespace Go.Proofs.Ytndkoefchlclkaa
open Go.RowKit
attribute [local go_sem ↓] eqV neV eqG

set_option maxRecDepth 100000 in
set_option maxHeartbeats 2000000 in
theorem tests_walk (op k n : Int) (s : ByteArray) (k' n' : Int) (s' : ByteArray) (w : World) (_h : -9223372036854775808 ≤ op ∧ op ≤ 9223372036854775807) (_hn : -9223372036854775808 ≤ n ∧ n ≤ 9223372036854775807) (_hn' : -9223372036854775808 ≤ n' ∧ n' ≤ 9223372036854775807) :
    Calls Try.prog 4 #[.int .i64 op, .agg #[.int .i64 k, .int .i64 n, .string s], .agg #[.int .i64 k', .int .i64 n', .string s']] w fun e w' => e = .returned (.bool true) ∧ Below w.heap.size w w' := by
  obtain ⟨A1, A2, Z1, Z2, B0⟩ := V3.two (w := w) (k := k) (n := n) (s := s) (k' := k') (n' := n') (s' := s') rfl
  have HT := Lib.hid (fun w => test_any op k n s k' n' s' w)
  have HR := Lib.hid (fun w => reftest_any op k n s k' n' s' w)
  generalize tstT op k n s k' n' s' = t at *
  generalize tstE op k n s k' n' s' = er at *
  have e1 : (t == t) = true := by simp
  have e2 : (er == er) = true := by simp
  clear _h _hn _hn'
  go_enter Try.func4, Try.ntmps4
  go_upto_region 1 with (fail)
  generalize (w.alloc (.cells #[.int .i64 k, .int .i64 n, .string s] 23)).alloc (.cells #[.int .i64 k', .int .i64 n', .string s'] 23) = W0 at *
  go_wp2_with fail
  refine (wakes_any _).mono ?_
  rintro e w1 ⟨rfl, hb⟩
  obtain ⟨A1, A2, Z1, Z2, B0⟩ := V3.on A1 A2 Z1 Z2 B0 hb
  clear hb
  have c0 := A1.out.1
  have c1 := A1.out.2.1
  have c2 := A1.out.2.2
  have d0 := A2.out.1
  have d1 := A2.out.2.1
  have d2 := A2.out.2.2
  go_wp2_with fail
  refine (long2_any w1.heap.size k n s k' n' s' _ (Blk.new _ _ _)).mono ?_
  rintro e w2 ⟨rfl, hb⟩
  obtain ⟨A1, A2, Z1, Z2, B0⟩ := V3.on A1 A2 Z1 Z2 B0 (((Below.refl _ w1).alloc (Nat.le_refl _) _).trans (hb.mono (by simp)))
  clear hb c0 c1 c2 d0 d1 d2
  generalize (lgB s || lgB s') = lg at *
  cases lg with
  | true =>
    go_wp2
    go_ret
    exact ⟨rfl, B0.out⟩
  | false =>
    have c0 := A1.out.1
    have c1 := A1.out.2.1
    have c2 := A1.out.2.2
    have d0 := A2.out.1
    have d1 := A2.out.2.1
    have d2 := A2.out.2.2
    go_wp2_with fail
    refine (HT.out _).mono ?_
    rintro e w3 ⟨rfl, hb⟩
    obtain ⟨A1, A2, Z1, Z2, B0⟩ := V3.on A1 A2 Z1 Z2 B0 hb
    clear hb c0 c1 c2 d0 d1 d2
    have c0 := A1.out.1
    have c1 := A1.out.2.1
    have c2 := A1.out.2.2
    have d0 := A2.out.1
    have d1 := A2.out.2.1
    have d2 := A2.out.2.2
    go_wp2_with fail
    refine (HR.out _).mono ?_
    rintro e w4 ⟨rfl, hb⟩
    obtain ⟨A1, A2, Z1, Z2, B0⟩ := V3.on A1 A2 Z1 Z2 B0 hb
    clear hb c0 c1 c2 d0 d1 d2
    go_wp2
    go_ret
    exact ⟨rfl, B0.out⟩

end Go.Proofs.Ytndkoefchlclkaa
