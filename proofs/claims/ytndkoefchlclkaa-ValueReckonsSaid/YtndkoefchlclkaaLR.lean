/-
  The law ValueReckons, walked.
-/
import Derived.Test.YtndkoefchlclkaaY3
namespace Go.Proofs.Ytndkoefchlclkaa
open Go.RowKit
attribute [local go_sem ↓] eqV neV eqG

set_option maxRecDepth 100000 in
set_option maxHeartbeats 2000000 in
theorem reckons_walk (op k n : Int) (s : ByteArray) (k' n' : Int) (s' : ByteArray) (w : World) (_h : -9223372036854775808 ≤ op ∧ op ≤ 9223372036854775807) (hn : -9223372036854775808 ≤ n ∧ n ≤ 9223372036854775807) (hn' : -9223372036854775808 ≤ n' ∧ n' ≤ 9223372036854775807) :
    Calls Try.prog 5 #[.int .i64 op, .agg #[.int .i64 k, .int .i64 n, .string s], .agg #[.int .i64 k', .int .i64 n', .string s']] w fun e w' => e = .returned (.bool true) ∧ Below w.heap.size w w' := by
  have HT := Lib.hid (fun w => reckon_any op k n s k' n' s' w hn hn')
  have HR := Lib.hid (fun w => refreckon_any op k n s k' n' s' w hn hn')
  generalize recK op k n s k' n' s' = K at *
  generalize recN op k n s k' n' s' = N at *
  generalize recE op k n s k' n' s' = er at *
  have e1 : Eqv K N E0 K N E0 = true := eqv_self K N E0
  have e2 : (er == er) = true := by simp
  clear _h hn hn'
  go_enter Try.func5, Try.ntmps5
  go_upto_region 1 with (fail)
  have T0 := TwoV.boxes (w := w) (k := k) (n := n) (s := s) (k' := k') (n' := n') (s' := s') rfl
  generalize (w.alloc (.cells #[.int .i64 k, .int .i64 n, .string s] 23)).alloc (.cells #[.int .i64 k', .int .i64 n', .string s'] 23) = W0 at *
  go_wp2_with fail
  refine (wakes_any _).mono ?_
  rintro e w1 ⟨rfl, hb⟩
  have T1 := T0.on hb
  clear hb T0
  obtain ⟨c0, c1, c2, d0, d1, d2⟩ := T1.six
  go_wp2_with fail
  refine (long2_any w1.heap.size k n s k' n' s' _ (Blk.new _ _ _)).mono ?_
  rintro e w2 ⟨rfl, hb⟩
  have T2 := T1.on (((Below.refl _ w1).alloc (Nat.le_refl _) _).trans (hb.mono (by simp)))
  clear hb T1 c0 c1 c2 d0 d1 d2
  generalize (lgB s || lgB s') = lg at *
  cases lg with
  | true =>
    go_wp2
    go_ret
    exact ⟨rfl, T2.bel⟩
  | false =>
    obtain ⟨c0, c1, c2, d0, d1, d2⟩ := T2.six
    go_wp2_with fail
    refine (HT.out _).mono ?_
    rintro e w3 ⟨rfl, hb⟩
    have T3 := T2.on hb
    clear hb T2 c0 c1 c2 d0 d1 d2
    go_upto_region 6 with (fail)
    have V4 : Hid (Blk (w3.alloc (.cells #[.int .i64 K, .int .i64 N, .string E0] 23)) w3.heap.size 23 #[.int .i64 K, .int .i64 N, .string E0]) := Blk.new _ _ _
    have T4 := T3.on ((Below.refl _ w3).alloc (Nat.le_refl _) (.cells #[.int .i64 K, .int .i64 N, .string E0] 23))
    clear T3
    generalize w3.alloc (.cells #[.int .i64 K, .int .i64 N, .string E0] 23) = w4 at *
    generalize w3.heap.size = g at *
    obtain ⟨c0, c1, c2, d0, d1, d2⟩ := T4.six
    go_wp2_with fail
    refine (HR.out _).mono ?_
    rintro e w5 ⟨rfl, hb⟩
    have T5 := T4.on hb
    have V5 := Lib.hid (V4.out.below hb V4.out.lt)
    clear hb T4 V4 c0 c1 c2 d0 d1 d2
    go_upto_region 7 with (fail)
    have V6 : Hid (Blk (w5.alloc (.cells #[.int .i64 K, .int .i64 N, .string E0] 23)) w5.heap.size 23 #[.int .i64 K, .int .i64 N, .string E0]) := Blk.new _ _ _
    have V7 := Lib.hid (V5.out.alloc (.cells #[.int .i64 K, .int .i64 N, .string E0] 23))
    have T6 := T5.on ((Below.refl _ w5).alloc (Nat.le_refl _) (.cells #[.int .i64 K, .int .i64 N, .string E0] 23))
    clear T5 V5
    generalize w5.alloc (.cells #[.int .i64 K, .int .i64 N, .string E0] 23) = w6 at *
    generalize w5.heap.size = g' at *
    have c0 := V7.out.cell 0
    have c1 := V7.out.cell 1
    have c2 := V7.out.cell 2
    have d0 := V6.out.cell 0
    have d1 := V6.out.cell 1
    have d2 := V6.out.cell 2
    go_wp2
    go_ret
    exact ⟨rfl, T6.bel⟩

end Go.Proofs.Ytndkoefchlclkaa
