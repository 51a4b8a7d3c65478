/-
  The document's Test.
-/
import Derived.Test.YtndkoefchlclkaaV7
namespace Go.Proofs.Ytndkoefchlclkaa
open Go.RowKit
attribute [local go_sem ↓] eqV neV eqG

set_option maxRecDepth 100000 in
set_option maxHeartbeats 2000000 in
theorem reft_low (op : Int) (k n : Int) (s : ByteArray) (k' n' : Int) (s' : ByteArray) (w : World) (h : op < 1) : Calls Try.prog 22 #[.int .i64 op, .agg #[.int .i64 k, .int .i64 n, .string s], .agg #[.int .i64 k', .int .i64 n', .string s']] w (Told w 0 2) := by
  obtain ⟨A1, A2, Z1, Z2, B0⟩ := V3.two (w := w) (k := k) (n := n) (s := s) (k' := k') (n' := n') (s' := s') rfl
  unfold Told
  go_enter Try.func22, Try.ntmps22
  go_upto_region 1 with (fail)
  generalize (w.alloc (.cells #[.int .i64 k, .int .i64 n, .string s] 23)).alloc (.cells #[.int .i64 k', .int .i64 n', .string s'] 23) = W0 at *
  have c0 := A1.out.1
  have c1 := A1.out.2.1
  have c2 := A1.out.2.2
  have d0 := A2.out.1
  have d1 := A2.out.2.1
  have d2 := A2.out.2.2
  go_wp2
  go_ret2
  exact ⟨rfl, B0.out⟩

set_option maxRecDepth 100000 in
set_option maxHeartbeats 2000000 in
theorem reft_high (op : Int) (k n : Int) (s : ByteArray) (k' n' : Int) (s' : ByteArray) (w : World) (h0 : ¬ op < 1) (h : 6 < op) : Calls Try.prog 22 #[.int .i64 op, .agg #[.int .i64 k, .int .i64 n, .string s], .agg #[.int .i64 k', .int .i64 n', .string s']] w (Told w 0 2) := by
  obtain ⟨A1, A2, Z1, Z2, B0⟩ := V3.two (w := w) (k := k) (n := n) (s := s) (k' := k') (n' := n') (s' := s') rfl
  unfold Told
  go_enter Try.func22, Try.ntmps22
  go_upto_region 1 with (fail)
  generalize (w.alloc (.cells #[.int .i64 k, .int .i64 n, .string s] 23)).alloc (.cells #[.int .i64 k', .int .i64 n', .string s'] 23) = W0 at *
  have c0 := A1.out.1
  have c1 := A1.out.2.1
  have c2 := A1.out.2.2
  have d0 := A2.out.1
  have d1 := A2.out.2.1
  have d2 := A2.out.2.2
  go_wp2
  go_ret2
  exact ⟨rfl, B0.out⟩

set_option maxRecDepth 100000 in
set_option maxHeartbeats 2000000 in
theorem reft_bad1 (op : Int) (k n : Int) (s : ByteArray) (k' n' : Int) (s' : ByteArray) (w : World) (h0 : ¬ op < 1) (h6 : ¬ 6 < op) (hr : Rt k n s = false) : Calls Try.prog 22 #[.int .i64 op, .agg #[.int .i64 k, .int .i64 n, .string s], .agg #[.int .i64 k', .int .i64 n', .string s']] w (Told w 0 150) := by
  obtain ⟨A1, A2, Z1, Z2, B0⟩ := V3.two (w := w) (k := k) (n := n) (s := s) (k' := k') (n' := n') (s' := s') rfl
  have HR := Lib.hid (fun w => right_any k n s w)
  rw [hr] at HR
  clear hr
  unfold Told
  go_enter Try.func22, Try.ntmps22
  go_upto_region 1 with (fail)
  generalize (w.alloc (.cells #[.int .i64 k, .int .i64 n, .string s] 23)).alloc (.cells #[.int .i64 k', .int .i64 n', .string s'] 23) = W0 at *
  have c0 := A1.out.1
  have c1 := A1.out.2.1
  have c2 := A1.out.2.2
  have d0 := A2.out.1
  have d1 := A2.out.2.1
  have d2 := A2.out.2.2
  go_wp2_with fail
  refine (HR.out _).mono ?_
  rintro e w1 ⟨rfl, hb⟩
  obtain ⟨A1, A2, Z1, Z2, B0⟩ := V3.on A1 A2 Z1 Z2 B0 hb
  clear hb c0 c1 c2 d0 d1 d2
  have c0 := A1.out.1
  have c1 := A1.out.2.1
  have c2 := A1.out.2.2
  have d0 := A2.out.1
  have d1 := A2.out.2.1
  have d2 := A2.out.2.2
  go_wp2
  go_ret2
  exact ⟨rfl, B0.out⟩

set_option maxRecDepth 100000 in
set_option maxHeartbeats 2000000 in
theorem reft_bad2 (op : Int) (k n : Int) (s : ByteArray) (k' n' : Int) (s' : ByteArray) (w : World) (h0 : ¬ op < 1) (h6 : ¬ 6 < op) (hr : Rt k n s = true) (hr' : Rt k' n' s' = false) : Calls Try.prog 22 #[.int .i64 op, .agg #[.int .i64 k, .int .i64 n, .string s], .agg #[.int .i64 k', .int .i64 n', .string s']] w (Told w 0 150) := by
  obtain ⟨A1, A2, Z1, Z2, B0⟩ := V3.two (w := w) (k := k) (n := n) (s := s) (k' := k') (n' := n') (s' := s') rfl
  have HR := Lib.hid (fun w => right_any k n s w)
  rw [hr] at HR
  clear hr
  have HR2 := Lib.hid (fun w => right_any k' n' s' w)
  rw [hr'] at HR2
  clear hr'
  unfold Told
  go_enter Try.func22, Try.ntmps22
  go_upto_region 1 with (fail)
  generalize (w.alloc (.cells #[.int .i64 k, .int .i64 n, .string s] 23)).alloc (.cells #[.int .i64 k', .int .i64 n', .string s'] 23) = W0 at *
  have c0 := A1.out.1
  have c1 := A1.out.2.1
  have c2 := A1.out.2.2
  have d0 := A2.out.1
  have d1 := A2.out.2.1
  have d2 := A2.out.2.2
  go_wp2_with fail
  refine (HR.out _).mono ?_
  rintro e w1 ⟨rfl, hb⟩
  obtain ⟨A1, A2, Z1, Z2, B0⟩ := V3.on A1 A2 Z1 Z2 B0 hb
  clear hb c0 c1 c2 d0 d1 d2
  have c0 := A1.out.1
  have c1 := A1.out.2.1
  have c2 := A1.out.2.2
  have d0 := A2.out.1
  have d1 := A2.out.2.1
  have d2 := A2.out.2.2
  go_wp2_with fail
  refine (HR2.out _).mono ?_
  rintro e w2 ⟨rfl, hb⟩
  obtain ⟨A1, A2, Z1, Z2, B0⟩ := V3.on A1 A2 Z1 Z2 B0 hb
  clear hb c0 c1 c2 d0 d1 d2
  have c0 := A1.out.1
  have c1 := A1.out.2.1
  have c2 := A1.out.2.2
  have d0 := A2.out.1
  have d1 := A2.out.2.1
  have d2 := A2.out.2.2
  go_wp2
  go_ret2
  exact ⟨rfl, B0.out⟩

set_option maxRecDepth 100000 in
set_option maxHeartbeats 2000000 in
theorem reft_null1 (op : Int) (n : Int) (s : ByteArray) (k' n' : Int) (s' : ByteArray) (w : World) (h0 : ¬ op < 1) (h6 : ¬ 6 < op) (hr : Rt 1 n s = true) (hr' : Rt k' n' s' = true) : Calls Try.prog 22 #[.int .i64 op, .agg #[.int .i64 1, .int .i64 n, .string s], .agg #[.int .i64 k', .int .i64 n', .string s']] w (Told w 2 0) := by
  obtain ⟨A1, A2, Z1, Z2, B0⟩ := V3.two (w := w) (k := 1) (n := n) (s := s) (k' := k') (n' := n') (s' := s') rfl
  have HR := Lib.hid (fun w => right_any 1 n s w)
  rw [hr] at HR
  clear hr
  have HR2 := Lib.hid (fun w => right_any k' n' s' w)
  rw [hr'] at HR2
  clear hr'
  unfold Told
  go_enter Try.func22, Try.ntmps22
  go_upto_region 1 with (fail)
  generalize (w.alloc (.cells #[.int .i64 1, .int .i64 n, .string s] 23)).alloc (.cells #[.int .i64 k', .int .i64 n', .string s'] 23) = W0 at *
  have c0 := A1.out.1
  have c1 := A1.out.2.1
  have c2 := A1.out.2.2
  have d0 := A2.out.1
  have d1 := A2.out.2.1
  have d2 := A2.out.2.2
  go_wp2_with fail
  refine (HR.out _).mono ?_
  rintro e w1 ⟨rfl, hb⟩
  obtain ⟨A1, A2, Z1, Z2, B0⟩ := V3.on A1 A2 Z1 Z2 B0 hb
  clear hb c0 c1 c2 d0 d1 d2
  have c0 := A1.out.1
  have c1 := A1.out.2.1
  have c2 := A1.out.2.2
  have d0 := A2.out.1
  have d1 := A2.out.2.1
  have d2 := A2.out.2.2
  go_wp2_with fail
  refine (HR2.out _).mono ?_
  rintro e w2 ⟨rfl, hb⟩
  obtain ⟨A1, A2, Z1, Z2, B0⟩ := V3.on A1 A2 Z1 Z2 B0 hb
  clear hb c0 c1 c2 d0 d1 d2
  have c0 := A1.out.1
  have c1 := A1.out.2.1
  have c2 := A1.out.2.2
  have d0 := A2.out.1
  have d1 := A2.out.2.1
  have d2 := A2.out.2.2
  go_wp2
  go_ret2
  exact ⟨rfl, B0.out⟩

set_option maxRecDepth 100000 in
set_option maxHeartbeats 2000000 in
theorem reft_null2 (op : Int) (k n : Int) (s : ByteArray) (n' : Int) (s' : ByteArray) (w : World) (h0 : ¬ op < 1) (h6 : ¬ 6 < op) (hr : Rt k n s = true) (hr' : Rt 1 n' s' = true) (hk : (k == 1) = false) : Calls Try.prog 22 #[.int .i64 op, .agg #[.int .i64 k, .int .i64 n, .string s], .agg #[.int .i64 1, .int .i64 n', .string s']] w (Told w 2 0) := by
  obtain ⟨A1, A2, Z1, Z2, B0⟩ := V3.two (w := w) (k := k) (n := n) (s := s) (k' := 1) (n' := n') (s' := s') rfl
  have HR := Lib.hid (fun w => right_any k n s w)
  rw [hr] at HR
  clear hr
  have HR2 := Lib.hid (fun w => right_any 1 n' s' w)
  rw [hr'] at HR2
  clear hr'
  unfold Told
  go_enter Try.func22, Try.ntmps22
  go_upto_region 1 with (fail)
  generalize (w.alloc (.cells #[.int .i64 k, .int .i64 n, .string s] 23)).alloc (.cells #[.int .i64 1, .int .i64 n', .string s'] 23) = W0 at *
  have c0 := A1.out.1
  have c1 := A1.out.2.1
  have c2 := A1.out.2.2
  have d0 := A2.out.1
  have d1 := A2.out.2.1
  have d2 := A2.out.2.2
  go_wp2_with fail
  refine (HR.out _).mono ?_
  rintro e w1 ⟨rfl, hb⟩
  obtain ⟨A1, A2, Z1, Z2, B0⟩ := V3.on A1 A2 Z1 Z2 B0 hb
  clear hb c0 c1 c2 d0 d1 d2
  have c0 := A1.out.1
  have c1 := A1.out.2.1
  have c2 := A1.out.2.2
  have d0 := A2.out.1
  have d1 := A2.out.2.1
  have d2 := A2.out.2.2
  go_wp2_with fail
  refine (HR2.out _).mono ?_
  rintro e w2 ⟨rfl, hb⟩
  obtain ⟨A1, A2, Z1, Z2, B0⟩ := V3.on A1 A2 Z1 Z2 B0 hb
  clear hb c0 c1 c2 d0 d1 d2
  have c0 := A1.out.1
  have c1 := A1.out.2.1
  have c2 := A1.out.2.2
  have d0 := A2.out.1
  have d1 := A2.out.2.1
  have d2 := A2.out.2.2
  go_wp2
  go_ret2
  exact ⟨rfl, B0.out⟩

set_option maxRecDepth 100000 in
set_option maxHeartbeats 2000000 in
theorem reft_type1 (op : Int) (k n : Int) (s : ByteArray) (k' n' : Int) (s' : ByteArray) (w : World) (h0 : ¬ op < 1) (h6 : ¬ 6 < op) (hr : Rt k n s = true) (hr' : Rt k' n' s' = true) (hk : (k == 1) = false) (hk' : (k' == 1) = false) (hne : (k != k') = true) : Calls Try.prog 22 #[.int .i64 op, .agg #[.int .i64 k, .int .i64 n, .string s], .agg #[.int .i64 k', .int .i64 n', .string s']] w (Told w 0 153) := by
  obtain ⟨A1, A2, Z1, Z2, B0⟩ := V3.two (w := w) (k := k) (n := n) (s := s) (k' := k') (n' := n') (s' := s') rfl
  have HR := Lib.hid (fun w => right_any k n s w)
  rw [hr] at HR
  clear hr
  have HR2 := Lib.hid (fun w => right_any k' n' s' w)
  rw [hr'] at HR2
  clear hr'
  unfold Told
  go_enter Try.func22, Try.ntmps22
  go_upto_region 1 with (fail)
  generalize (w.alloc (.cells #[.int .i64 k, .int .i64 n, .string s] 23)).alloc (.cells #[.int .i64 k', .int .i64 n', .string s'] 23) = W0 at *
  have c0 := A1.out.1
  have c1 := A1.out.2.1
  have c2 := A1.out.2.2
  have d0 := A2.out.1
  have d1 := A2.out.2.1
  have d2 := A2.out.2.2
  go_wp2_with fail
  refine (HR.out _).mono ?_
  rintro e w1 ⟨rfl, hb⟩
  obtain ⟨A1, A2, Z1, Z2, B0⟩ := V3.on A1 A2 Z1 Z2 B0 hb
  clear hb c0 c1 c2 d0 d1 d2
  have c0 := A1.out.1
  have c1 := A1.out.2.1
  have c2 := A1.out.2.2
  have d0 := A2.out.1
  have d1 := A2.out.2.1
  have d2 := A2.out.2.2
  go_wp2_with fail
  refine (HR2.out _).mono ?_
  rintro e w2 ⟨rfl, hb⟩
  obtain ⟨A1, A2, Z1, Z2, B0⟩ := V3.on A1 A2 Z1 Z2 B0 hb
  clear hb c0 c1 c2 d0 d1 d2
  have c0 := A1.out.1
  have c1 := A1.out.2.1
  have c2 := A1.out.2.2
  have d0 := A2.out.1
  have d1 := A2.out.2.1
  have d2 := A2.out.2.2
  go_wp2
  go_ret2
  exact ⟨rfl, B0.out⟩

set_option maxRecDepth 100000 in
set_option maxHeartbeats 2000000 in
theorem reft_type2 (op : Int) (n : Int) (s : ByteArray) (n' : Int) (s' : ByteArray) (w : World) (h0 : ¬ op < 1) (h6 : ¬ 6 < op) (h2 : 2 < op) (hr : Rt 2 n s = true) (hr' : Rt 2 n' s' = true) : Calls Try.prog 22 #[.int .i64 op, .agg #[.int .i64 2, .int .i64 n, .string s], .agg #[.int .i64 2, .int .i64 n', .string s']] w (Told w 0 153) := by
  obtain ⟨A1, A2, Z1, Z2, B0⟩ := V3.two (w := w) (k := 2) (n := n) (s := s) (k' := 2) (n' := n') (s' := s') rfl
  have HR := Lib.hid (fun w => right_any 2 n s w)
  rw [hr] at HR
  clear hr
  have HR2 := Lib.hid (fun w => right_any 2 n' s' w)
  rw [hr'] at HR2
  clear hr'
  unfold Told
  go_enter Try.func22, Try.ntmps22
  go_upto_region 1 with (fail)
  generalize (w.alloc (.cells #[.int .i64 2, .int .i64 n, .string s] 23)).alloc (.cells #[.int .i64 2, .int .i64 n', .string s'] 23) = W0 at *
  have c0 := A1.out.1
  have c1 := A1.out.2.1
  have c2 := A1.out.2.2
  have d0 := A2.out.1
  have d1 := A2.out.2.1
  have d2 := A2.out.2.2
  go_wp2_with fail
  refine (HR.out _).mono ?_
  rintro e w1 ⟨rfl, hb⟩
  obtain ⟨A1, A2, Z1, Z2, B0⟩ := V3.on A1 A2 Z1 Z2 B0 hb
  clear hb c0 c1 c2 d0 d1 d2
  have c0 := A1.out.1
  have c1 := A1.out.2.1
  have c2 := A1.out.2.2
  have d0 := A2.out.1
  have d1 := A2.out.2.1
  have d2 := A2.out.2.2
  go_wp2_with fail
  refine (HR2.out _).mono ?_
  rintro e w2 ⟨rfl, hb⟩
  obtain ⟨A1, A2, Z1, Z2, B0⟩ := V3.on A1 A2 Z1 Z2 B0 hb
  clear hb c0 c1 c2 d0 d1 d2
  have c0 := A1.out.1
  have c1 := A1.out.2.1
  have c2 := A1.out.2.2
  have d0 := A2.out.1
  have d1 := A2.out.2.1
  have d2 := A2.out.2.2
  go_wp2
  go_ret2
  exact ⟨rfl, B0.out⟩

set_option maxRecDepth 100000 in
set_option maxHeartbeats 2000000 in
theorem reft_1m  (k n : Int) (s : ByteArray) (n' : Int) (s' : ByteArray) (w : World) (hr : Rt k n s = true) (hr' : Rt k n' s' = true) (hk : (k == 1) = false) (hk2 : (k == 2) = false) (hc : cmpV k n s k n' s' = (-1)) : Calls Try.prog 22 #[.int .i64 1, .agg #[.int .i64 k, .int .i64 n, .string s], .agg #[.int .i64 k, .int .i64 n', .string s']] w (Told w (b2i (tcmp 1 (-1))) 0) := by
  obtain ⟨A1, A2, Z1, Z2, B0⟩ := V3.two (w := w) (k := k) (n := n) (s := s) (k' := k) (n' := n') (s' := s') rfl
  have e1 : (k != k) = false := by simp
  have HR := Lib.hid (fun w => right_any k n s w)
  rw [hr] at HR
  clear hr
  have HR2 := Lib.hid (fun w => right_any k n' s' w)
  rw [hr'] at HR2
  clear hr'
  have HC := Lib.hid (fun w => refcompare_any k n s k n' s' w)
  rw [hc] at HC
  clear hc
  rw [show b2i (tcmp 1 (-1)) = 0 by decide]
  unfold Told
  go_enter Try.func22, Try.ntmps22
  go_upto_region 1 with (fail)
  generalize (w.alloc (.cells #[.int .i64 k, .int .i64 n, .string s] 23)).alloc (.cells #[.int .i64 k, .int .i64 n', .string s'] 23) = W0 at *
  have c0 := A1.out.1
  have c1 := A1.out.2.1
  have c2 := A1.out.2.2
  have d0 := A2.out.1
  have d1 := A2.out.2.1
  have d2 := A2.out.2.2
  go_wp2_with fail
  refine (HR.out _).mono ?_
  rintro e w1 ⟨rfl, hb⟩
  obtain ⟨A1, A2, Z1, Z2, B0⟩ := V3.on A1 A2 Z1 Z2 B0 hb
  clear hb c0 c1 c2 d0 d1 d2
  have c0 := A1.out.1
  have c1 := A1.out.2.1
  have c2 := A1.out.2.2
  have d0 := A2.out.1
  have d1 := A2.out.2.1
  have d2 := A2.out.2.2
  go_wp2_with fail
  refine (HR2.out _).mono ?_
  rintro e w2 ⟨rfl, hb⟩
  obtain ⟨A1, A2, Z1, Z2, B0⟩ := V3.on A1 A2 Z1 Z2 B0 hb
  clear hb c0 c1 c2 d0 d1 d2
  have c0 := A1.out.1
  have c1 := A1.out.2.1
  have c2 := A1.out.2.2
  have d0 := A2.out.1
  have d1 := A2.out.2.1
  have d2 := A2.out.2.2
  go_wp2_with fail
  refine (HC.out _).mono ?_
  rintro e w3 ⟨rfl, hb⟩
  obtain ⟨A1, A2, Z1, Z2, B0⟩ := V3.on A1 A2 Z1 Z2 B0 hb
  clear hb c0 c1 c2 d0 d1 d2
  have c0 := A1.out.1
  have c1 := A1.out.2.1
  have c2 := A1.out.2.2
  have d0 := A2.out.1
  have d1 := A2.out.2.1
  have d2 := A2.out.2.2
  go_wp2
  go_ret2
  exact ⟨rfl, B0.out⟩

set_option maxRecDepth 100000 in
set_option maxHeartbeats 2000000 in
theorem reft_1mb  (n : Int) (s : ByteArray) (n' : Int) (s' : ByteArray) (w : World) (hr : Rt 2 n s = true) (hr' : Rt 2 n' s' = true) (hc : cmpV 2 n s 2 n' s' = (-1)) : Calls Try.prog 22 #[.int .i64 1, .agg #[.int .i64 2, .int .i64 n, .string s], .agg #[.int .i64 2, .int .i64 n', .string s']] w (Told w (b2i (tcmp 1 (-1))) 0) := by
  obtain ⟨A1, A2, Z1, Z2, B0⟩ := V3.two (w := w) (k := 2) (n := n) (s := s) (k' := 2) (n' := n') (s' := s') rfl
  have HR := Lib.hid (fun w => right_any 2 n s w)
  rw [hr] at HR
  clear hr
  have HR2 := Lib.hid (fun w => right_any 2 n' s' w)
  rw [hr'] at HR2
  clear hr'
  have HC := Lib.hid (fun w => refcompare_any 2 n s 2 n' s' w)
  rw [hc] at HC
  clear hc
  rw [show b2i (tcmp 1 (-1)) = 0 by decide]
  unfold Told
  go_enter Try.func22, Try.ntmps22
  go_upto_region 1 with (fail)
  generalize (w.alloc (.cells #[.int .i64 2, .int .i64 n, .string s] 23)).alloc (.cells #[.int .i64 2, .int .i64 n', .string s'] 23) = W0 at *
  have c0 := A1.out.1
  have c1 := A1.out.2.1
  have c2 := A1.out.2.2
  have d0 := A2.out.1
  have d1 := A2.out.2.1
  have d2 := A2.out.2.2
  go_wp2_with fail
  refine (HR.out _).mono ?_
  rintro e w1 ⟨rfl, hb⟩
  obtain ⟨A1, A2, Z1, Z2, B0⟩ := V3.on A1 A2 Z1 Z2 B0 hb
  clear hb c0 c1 c2 d0 d1 d2
  have c0 := A1.out.1
  have c1 := A1.out.2.1
  have c2 := A1.out.2.2
  have d0 := A2.out.1
  have d1 := A2.out.2.1
  have d2 := A2.out.2.2
  go_wp2_with fail
  refine (HR2.out _).mono ?_
  rintro e w2 ⟨rfl, hb⟩
  obtain ⟨A1, A2, Z1, Z2, B0⟩ := V3.on A1 A2 Z1 Z2 B0 hb
  clear hb c0 c1 c2 d0 d1 d2
  have c0 := A1.out.1
  have c1 := A1.out.2.1
  have c2 := A1.out.2.2
  have d0 := A2.out.1
  have d1 := A2.out.2.1
  have d2 := A2.out.2.2
  go_wp2_with fail
  refine (HC.out _).mono ?_
  rintro e w3 ⟨rfl, hb⟩
  obtain ⟨A1, A2, Z1, Z2, B0⟩ := V3.on A1 A2 Z1 Z2 B0 hb
  clear hb c0 c1 c2 d0 d1 d2
  have c0 := A1.out.1
  have c1 := A1.out.2.1
  have c2 := A1.out.2.2
  have d0 := A2.out.1
  have d1 := A2.out.2.1
  have d2 := A2.out.2.2
  go_wp2
  go_ret2
  exact ⟨rfl, B0.out⟩

set_option maxRecDepth 100000 in
set_option maxHeartbeats 2000000 in
theorem reft_1z  (k n : Int) (s : ByteArray) (n' : Int) (s' : ByteArray) (w : World) (hr : Rt k n s = true) (hr' : Rt k n' s' = true) (hk : (k == 1) = false) (hk2 : (k == 2) = false) (hc : cmpV k n s k n' s' = 0) : Calls Try.prog 22 #[.int .i64 1, .agg #[.int .i64 k, .int .i64 n, .string s], .agg #[.int .i64 k, .int .i64 n', .string s']] w (Told w (b2i (tcmp 1 0)) 0) := by
  obtain ⟨A1, A2, Z1, Z2, B0⟩ := V3.two (w := w) (k := k) (n := n) (s := s) (k' := k) (n' := n') (s' := s') rfl
  have e1 : (k != k) = false := by simp
  have HR := Lib.hid (fun w => right_any k n s w)
  rw [hr] at HR
  clear hr
  have HR2 := Lib.hid (fun w => right_any k n' s' w)
  rw [hr'] at HR2
  clear hr'
  have HC := Lib.hid (fun w => refcompare_any k n s k n' s' w)
  rw [hc] at HC
  clear hc
  rw [show b2i (tcmp 1 0) = 1 by decide]
  unfold Told
  go_enter Try.func22, Try.ntmps22
  go_upto_region 1 with (fail)
  generalize (w.alloc (.cells #[.int .i64 k, .int .i64 n, .string s] 23)).alloc (.cells #[.int .i64 k, .int .i64 n', .string s'] 23) = W0 at *
  have c0 := A1.out.1
  have c1 := A1.out.2.1
  have c2 := A1.out.2.2
  have d0 := A2.out.1
  have d1 := A2.out.2.1
  have d2 := A2.out.2.2
  go_wp2_with fail
  refine (HR.out _).mono ?_
  rintro e w1 ⟨rfl, hb⟩
  obtain ⟨A1, A2, Z1, Z2, B0⟩ := V3.on A1 A2 Z1 Z2 B0 hb
  clear hb c0 c1 c2 d0 d1 d2
  have c0 := A1.out.1
  have c1 := A1.out.2.1
  have c2 := A1.out.2.2
  have d0 := A2.out.1
  have d1 := A2.out.2.1
  have d2 := A2.out.2.2
  go_wp2_with fail
  refine (HR2.out _).mono ?_
  rintro e w2 ⟨rfl, hb⟩
  obtain ⟨A1, A2, Z1, Z2, B0⟩ := V3.on A1 A2 Z1 Z2 B0 hb
  clear hb c0 c1 c2 d0 d1 d2
  have c0 := A1.out.1
  have c1 := A1.out.2.1
  have c2 := A1.out.2.2
  have d0 := A2.out.1
  have d1 := A2.out.2.1
  have d2 := A2.out.2.2
  go_wp2_with fail
  refine (HC.out _).mono ?_
  rintro e w3 ⟨rfl, hb⟩
  obtain ⟨A1, A2, Z1, Z2, B0⟩ := V3.on A1 A2 Z1 Z2 B0 hb
  clear hb c0 c1 c2 d0 d1 d2
  have c0 := A1.out.1
  have c1 := A1.out.2.1
  have c2 := A1.out.2.2
  have d0 := A2.out.1
  have d1 := A2.out.2.1
  have d2 := A2.out.2.2
  go_wp2
  go_ret2
  exact ⟨rfl, B0.out⟩

set_option maxRecDepth 100000 in
set_option maxHeartbeats 2000000 in
theorem reft_1zb  (n : Int) (s : ByteArray) (n' : Int) (s' : ByteArray) (w : World) (hr : Rt 2 n s = true) (hr' : Rt 2 n' s' = true) (hc : cmpV 2 n s 2 n' s' = 0) : Calls Try.prog 22 #[.int .i64 1, .agg #[.int .i64 2, .int .i64 n, .string s], .agg #[.int .i64 2, .int .i64 n', .string s']] w (Told w (b2i (tcmp 1 0)) 0) := by
  obtain ⟨A1, A2, Z1, Z2, B0⟩ := V3.two (w := w) (k := 2) (n := n) (s := s) (k' := 2) (n' := n') (s' := s') rfl
  have HR := Lib.hid (fun w => right_any 2 n s w)
  rw [hr] at HR
  clear hr
  have HR2 := Lib.hid (fun w => right_any 2 n' s' w)
  rw [hr'] at HR2
  clear hr'
  have HC := Lib.hid (fun w => refcompare_any 2 n s 2 n' s' w)
  rw [hc] at HC
  clear hc
  rw [show b2i (tcmp 1 0) = 1 by decide]
  unfold Told
  go_enter Try.func22, Try.ntmps22
  go_upto_region 1 with (fail)
  generalize (w.alloc (.cells #[.int .i64 2, .int .i64 n, .string s] 23)).alloc (.cells #[.int .i64 2, .int .i64 n', .string s'] 23) = W0 at *
  have c0 := A1.out.1
  have c1 := A1.out.2.1
  have c2 := A1.out.2.2
  have d0 := A2.out.1
  have d1 := A2.out.2.1
  have d2 := A2.out.2.2
  go_wp2_with fail
  refine (HR.out _).mono ?_
  rintro e w1 ⟨rfl, hb⟩
  obtain ⟨A1, A2, Z1, Z2, B0⟩ := V3.on A1 A2 Z1 Z2 B0 hb
  clear hb c0 c1 c2 d0 d1 d2
  have c0 := A1.out.1
  have c1 := A1.out.2.1
  have c2 := A1.out.2.2
  have d0 := A2.out.1
  have d1 := A2.out.2.1
  have d2 := A2.out.2.2
  go_wp2_with fail
  refine (HR2.out _).mono ?_
  rintro e w2 ⟨rfl, hb⟩
  obtain ⟨A1, A2, Z1, Z2, B0⟩ := V3.on A1 A2 Z1 Z2 B0 hb
  clear hb c0 c1 c2 d0 d1 d2
  have c0 := A1.out.1
  have c1 := A1.out.2.1
  have c2 := A1.out.2.2
  have d0 := A2.out.1
  have d1 := A2.out.2.1
  have d2 := A2.out.2.2
  go_wp2_with fail
  refine (HC.out _).mono ?_
  rintro e w3 ⟨rfl, hb⟩
  obtain ⟨A1, A2, Z1, Z2, B0⟩ := V3.on A1 A2 Z1 Z2 B0 hb
  clear hb c0 c1 c2 d0 d1 d2
  have c0 := A1.out.1
  have c1 := A1.out.2.1
  have c2 := A1.out.2.2
  have d0 := A2.out.1
  have d1 := A2.out.2.1
  have d2 := A2.out.2.2
  go_wp2
  go_ret2
  exact ⟨rfl, B0.out⟩

set_option maxRecDepth 100000 in
set_option maxHeartbeats 2000000 in
theorem reft_1p  (k n : Int) (s : ByteArray) (n' : Int) (s' : ByteArray) (w : World) (hr : Rt k n s = true) (hr' : Rt k n' s' = true) (hk : (k == 1) = false) (hk2 : (k == 2) = false) (hc : cmpV k n s k n' s' = 1) : Calls Try.prog 22 #[.int .i64 1, .agg #[.int .i64 k, .int .i64 n, .string s], .agg #[.int .i64 k, .int .i64 n', .string s']] w (Told w (b2i (tcmp 1 1)) 0) := by
  obtain ⟨A1, A2, Z1, Z2, B0⟩ := V3.two (w := w) (k := k) (n := n) (s := s) (k' := k) (n' := n') (s' := s') rfl
  have e1 : (k != k) = false := by simp
  have HR := Lib.hid (fun w => right_any k n s w)
  rw [hr] at HR
  clear hr
  have HR2 := Lib.hid (fun w => right_any k n' s' w)
  rw [hr'] at HR2
  clear hr'
  have HC := Lib.hid (fun w => refcompare_any k n s k n' s' w)
  rw [hc] at HC
  clear hc
  rw [show b2i (tcmp 1 1) = 0 by decide]
  unfold Told
  go_enter Try.func22, Try.ntmps22
  go_upto_region 1 with (fail)
  generalize (w.alloc (.cells #[.int .i64 k, .int .i64 n, .string s] 23)).alloc (.cells #[.int .i64 k, .int .i64 n', .string s'] 23) = W0 at *
  have c0 := A1.out.1
  have c1 := A1.out.2.1
  have c2 := A1.out.2.2
  have d0 := A2.out.1
  have d1 := A2.out.2.1
  have d2 := A2.out.2.2
  go_wp2_with fail
  refine (HR.out _).mono ?_
  rintro e w1 ⟨rfl, hb⟩
  obtain ⟨A1, A2, Z1, Z2, B0⟩ := V3.on A1 A2 Z1 Z2 B0 hb
  clear hb c0 c1 c2 d0 d1 d2
  have c0 := A1.out.1
  have c1 := A1.out.2.1
  have c2 := A1.out.2.2
  have d0 := A2.out.1
  have d1 := A2.out.2.1
  have d2 := A2.out.2.2
  go_wp2_with fail
  refine (HR2.out _).mono ?_
  rintro e w2 ⟨rfl, hb⟩
  obtain ⟨A1, A2, Z1, Z2, B0⟩ := V3.on A1 A2 Z1 Z2 B0 hb
  clear hb c0 c1 c2 d0 d1 d2
  have c0 := A1.out.1
  have c1 := A1.out.2.1
  have c2 := A1.out.2.2
  have d0 := A2.out.1
  have d1 := A2.out.2.1
  have d2 := A2.out.2.2
  go_wp2_with fail
  refine (HC.out _).mono ?_
  rintro e w3 ⟨rfl, hb⟩
  obtain ⟨A1, A2, Z1, Z2, B0⟩ := V3.on A1 A2 Z1 Z2 B0 hb
  clear hb c0 c1 c2 d0 d1 d2
  have c0 := A1.out.1
  have c1 := A1.out.2.1
  have c2 := A1.out.2.2
  have d0 := A2.out.1
  have d1 := A2.out.2.1
  have d2 := A2.out.2.2
  go_wp2
  go_ret2
  exact ⟨rfl, B0.out⟩

set_option maxRecDepth 100000 in
set_option maxHeartbeats 2000000 in
theorem reft_1pb  (n : Int) (s : ByteArray) (n' : Int) (s' : ByteArray) (w : World) (hr : Rt 2 n s = true) (hr' : Rt 2 n' s' = true) (hc : cmpV 2 n s 2 n' s' = 1) : Calls Try.prog 22 #[.int .i64 1, .agg #[.int .i64 2, .int .i64 n, .string s], .agg #[.int .i64 2, .int .i64 n', .string s']] w (Told w (b2i (tcmp 1 1)) 0) := by
  obtain ⟨A1, A2, Z1, Z2, B0⟩ := V3.two (w := w) (k := 2) (n := n) (s := s) (k' := 2) (n' := n') (s' := s') rfl
  have HR := Lib.hid (fun w => right_any 2 n s w)
  rw [hr] at HR
  clear hr
  have HR2 := Lib.hid (fun w => right_any 2 n' s' w)
  rw [hr'] at HR2
  clear hr'
  have HC := Lib.hid (fun w => refcompare_any 2 n s 2 n' s' w)
  rw [hc] at HC
  clear hc
  rw [show b2i (tcmp 1 1) = 0 by decide]
  unfold Told
  go_enter Try.func22, Try.ntmps22
  go_upto_region 1 with (fail)
  generalize (w.alloc (.cells #[.int .i64 2, .int .i64 n, .string s] 23)).alloc (.cells #[.int .i64 2, .int .i64 n', .string s'] 23) = W0 at *
  have c0 := A1.out.1
  have c1 := A1.out.2.1
  have c2 := A1.out.2.2
  have d0 := A2.out.1
  have d1 := A2.out.2.1
  have d2 := A2.out.2.2
  go_wp2_with fail
  refine (HR.out _).mono ?_
  rintro e w1 ⟨rfl, hb⟩
  obtain ⟨A1, A2, Z1, Z2, B0⟩ := V3.on A1 A2 Z1 Z2 B0 hb
  clear hb c0 c1 c2 d0 d1 d2
  have c0 := A1.out.1
  have c1 := A1.out.2.1
  have c2 := A1.out.2.2
  have d0 := A2.out.1
  have d1 := A2.out.2.1
  have d2 := A2.out.2.2
  go_wp2_with fail
  refine (HR2.out _).mono ?_
  rintro e w2 ⟨rfl, hb⟩
  obtain ⟨A1, A2, Z1, Z2, B0⟩ := V3.on A1 A2 Z1 Z2 B0 hb
  clear hb c0 c1 c2 d0 d1 d2
  have c0 := A1.out.1
  have c1 := A1.out.2.1
  have c2 := A1.out.2.2
  have d0 := A2.out.1
  have d1 := A2.out.2.1
  have d2 := A2.out.2.2
  go_wp2_with fail
  refine (HC.out _).mono ?_
  rintro e w3 ⟨rfl, hb⟩
  obtain ⟨A1, A2, Z1, Z2, B0⟩ := V3.on A1 A2 Z1 Z2 B0 hb
  clear hb c0 c1 c2 d0 d1 d2
  have c0 := A1.out.1
  have c1 := A1.out.2.1
  have c2 := A1.out.2.2
  have d0 := A2.out.1
  have d1 := A2.out.2.1
  have d2 := A2.out.2.2
  go_wp2
  go_ret2
  exact ⟨rfl, B0.out⟩

set_option maxRecDepth 100000 in
set_option maxHeartbeats 2000000 in
theorem reft_2m  (k n : Int) (s : ByteArray) (n' : Int) (s' : ByteArray) (w : World) (hr : Rt k n s = true) (hr' : Rt k n' s' = true) (hk : (k == 1) = false) (hk2 : (k == 2) = false) (hc : cmpV k n s k n' s' = (-1)) : Calls Try.prog 22 #[.int .i64 2, .agg #[.int .i64 k, .int .i64 n, .string s], .agg #[.int .i64 k, .int .i64 n', .string s']] w (Told w (b2i (tcmp 2 (-1))) 0) := by
  obtain ⟨A1, A2, Z1, Z2, B0⟩ := V3.two (w := w) (k := k) (n := n) (s := s) (k' := k) (n' := n') (s' := s') rfl
  have e1 : (k != k) = false := by simp
  have HR := Lib.hid (fun w => right_any k n s w)
  rw [hr] at HR
  clear hr
  have HR2 := Lib.hid (fun w => right_any k n' s' w)
  rw [hr'] at HR2
  clear hr'
  have HC := Lib.hid (fun w => refcompare_any k n s k n' s' w)
  rw [hc] at HC
  clear hc
  rw [show b2i (tcmp 2 (-1)) = 1 by decide]
  unfold Told
  go_enter Try.func22, Try.ntmps22
  go_upto_region 1 with (fail)
  generalize (w.alloc (.cells #[.int .i64 k, .int .i64 n, .string s] 23)).alloc (.cells #[.int .i64 k, .int .i64 n', .string s'] 23) = W0 at *
  have c0 := A1.out.1
  have c1 := A1.out.2.1
  have c2 := A1.out.2.2
  have d0 := A2.out.1
  have d1 := A2.out.2.1
  have d2 := A2.out.2.2
  go_wp2_with fail
  refine (HR.out _).mono ?_
  rintro e w1 ⟨rfl, hb⟩
  obtain ⟨A1, A2, Z1, Z2, B0⟩ := V3.on A1 A2 Z1 Z2 B0 hb
  clear hb c0 c1 c2 d0 d1 d2
  have c0 := A1.out.1
  have c1 := A1.out.2.1
  have c2 := A1.out.2.2
  have d0 := A2.out.1
  have d1 := A2.out.2.1
  have d2 := A2.out.2.2
  go_wp2_with fail
  refine (HR2.out _).mono ?_
  rintro e w2 ⟨rfl, hb⟩
  obtain ⟨A1, A2, Z1, Z2, B0⟩ := V3.on A1 A2 Z1 Z2 B0 hb
  clear hb c0 c1 c2 d0 d1 d2
  have c0 := A1.out.1
  have c1 := A1.out.2.1
  have c2 := A1.out.2.2
  have d0 := A2.out.1
  have d1 := A2.out.2.1
  have d2 := A2.out.2.2
  go_wp2_with fail
  refine (HC.out _).mono ?_
  rintro e w3 ⟨rfl, hb⟩
  obtain ⟨A1, A2, Z1, Z2, B0⟩ := V3.on A1 A2 Z1 Z2 B0 hb
  clear hb c0 c1 c2 d0 d1 d2
  have c0 := A1.out.1
  have c1 := A1.out.2.1
  have c2 := A1.out.2.2
  have d0 := A2.out.1
  have d1 := A2.out.2.1
  have d2 := A2.out.2.2
  go_wp2
  go_ret2
  exact ⟨rfl, B0.out⟩

set_option maxRecDepth 100000 in
set_option maxHeartbeats 2000000 in
theorem reft_2mb  (n : Int) (s : ByteArray) (n' : Int) (s' : ByteArray) (w : World) (hr : Rt 2 n s = true) (hr' : Rt 2 n' s' = true) (hc : cmpV 2 n s 2 n' s' = (-1)) : Calls Try.prog 22 #[.int .i64 2, .agg #[.int .i64 2, .int .i64 n, .string s], .agg #[.int .i64 2, .int .i64 n', .string s']] w (Told w (b2i (tcmp 2 (-1))) 0) := by
  obtain ⟨A1, A2, Z1, Z2, B0⟩ := V3.two (w := w) (k := 2) (n := n) (s := s) (k' := 2) (n' := n') (s' := s') rfl
  have HR := Lib.hid (fun w => right_any 2 n s w)
  rw [hr] at HR
  clear hr
  have HR2 := Lib.hid (fun w => right_any 2 n' s' w)
  rw [hr'] at HR2
  clear hr'
  have HC := Lib.hid (fun w => refcompare_any 2 n s 2 n' s' w)
  rw [hc] at HC
  clear hc
  rw [show b2i (tcmp 2 (-1)) = 1 by decide]
  unfold Told
  go_enter Try.func22, Try.ntmps22
  go_upto_region 1 with (fail)
  generalize (w.alloc (.cells #[.int .i64 2, .int .i64 n, .string s] 23)).alloc (.cells #[.int .i64 2, .int .i64 n', .string s'] 23) = W0 at *
  have c0 := A1.out.1
  have c1 := A1.out.2.1
  have c2 := A1.out.2.2
  have d0 := A2.out.1
  have d1 := A2.out.2.1
  have d2 := A2.out.2.2
  go_wp2_with fail
  refine (HR.out _).mono ?_
  rintro e w1 ⟨rfl, hb⟩
  obtain ⟨A1, A2, Z1, Z2, B0⟩ := V3.on A1 A2 Z1 Z2 B0 hb
  clear hb c0 c1 c2 d0 d1 d2
  have c0 := A1.out.1
  have c1 := A1.out.2.1
  have c2 := A1.out.2.2
  have d0 := A2.out.1
  have d1 := A2.out.2.1
  have d2 := A2.out.2.2
  go_wp2_with fail
  refine (HR2.out _).mono ?_
  rintro e w2 ⟨rfl, hb⟩
  obtain ⟨A1, A2, Z1, Z2, B0⟩ := V3.on A1 A2 Z1 Z2 B0 hb
  clear hb c0 c1 c2 d0 d1 d2
  have c0 := A1.out.1
  have c1 := A1.out.2.1
  have c2 := A1.out.2.2
  have d0 := A2.out.1
  have d1 := A2.out.2.1
  have d2 := A2.out.2.2
  go_wp2_with fail
  refine (HC.out _).mono ?_
  rintro e w3 ⟨rfl, hb⟩
  obtain ⟨A1, A2, Z1, Z2, B0⟩ := V3.on A1 A2 Z1 Z2 B0 hb
  clear hb c0 c1 c2 d0 d1 d2
  have c0 := A1.out.1
  have c1 := A1.out.2.1
  have c2 := A1.out.2.2
  have d0 := A2.out.1
  have d1 := A2.out.2.1
  have d2 := A2.out.2.2
  go_wp2
  go_ret2
  exact ⟨rfl, B0.out⟩

set_option maxRecDepth 100000 in
set_option maxHeartbeats 2000000 in
theorem reft_2z  (k n : Int) (s : ByteArray) (n' : Int) (s' : ByteArray) (w : World) (hr : Rt k n s = true) (hr' : Rt k n' s' = true) (hk : (k == 1) = false) (hk2 : (k == 2) = false) (hc : cmpV k n s k n' s' = 0) : Calls Try.prog 22 #[.int .i64 2, .agg #[.int .i64 k, .int .i64 n, .string s], .agg #[.int .i64 k, .int .i64 n', .string s']] w (Told w (b2i (tcmp 2 0)) 0) := by
  obtain ⟨A1, A2, Z1, Z2, B0⟩ := V3.two (w := w) (k := k) (n := n) (s := s) (k' := k) (n' := n') (s' := s') rfl
  have e1 : (k != k) = false := by simp
  have HR := Lib.hid (fun w => right_any k n s w)
  rw [hr] at HR
  clear hr
  have HR2 := Lib.hid (fun w => right_any k n' s' w)
  rw [hr'] at HR2
  clear hr'
  have HC := Lib.hid (fun w => refcompare_any k n s k n' s' w)
  rw [hc] at HC
  clear hc
  rw [show b2i (tcmp 2 0) = 0 by decide]
  unfold Told
  go_enter Try.func22, Try.ntmps22
  go_upto_region 1 with (fail)
  generalize (w.alloc (.cells #[.int .i64 k, .int .i64 n, .string s] 23)).alloc (.cells #[.int .i64 k, .int .i64 n', .string s'] 23) = W0 at *
  have c0 := A1.out.1
  have c1 := A1.out.2.1
  have c2 := A1.out.2.2
  have d0 := A2.out.1
  have d1 := A2.out.2.1
  have d2 := A2.out.2.2
  go_wp2_with fail
  refine (HR.out _).mono ?_
  rintro e w1 ⟨rfl, hb⟩
  obtain ⟨A1, A2, Z1, Z2, B0⟩ := V3.on A1 A2 Z1 Z2 B0 hb
  clear hb c0 c1 c2 d0 d1 d2
  have c0 := A1.out.1
  have c1 := A1.out.2.1
  have c2 := A1.out.2.2
  have d0 := A2.out.1
  have d1 := A2.out.2.1
  have d2 := A2.out.2.2
  go_wp2_with fail
  refine (HR2.out _).mono ?_
  rintro e w2 ⟨rfl, hb⟩
  obtain ⟨A1, A2, Z1, Z2, B0⟩ := V3.on A1 A2 Z1 Z2 B0 hb
  clear hb c0 c1 c2 d0 d1 d2
  have c0 := A1.out.1
  have c1 := A1.out.2.1
  have c2 := A1.out.2.2
  have d0 := A2.out.1
  have d1 := A2.out.2.1
  have d2 := A2.out.2.2
  go_wp2_with fail
  refine (HC.out _).mono ?_
  rintro e w3 ⟨rfl, hb⟩
  obtain ⟨A1, A2, Z1, Z2, B0⟩ := V3.on A1 A2 Z1 Z2 B0 hb
  clear hb c0 c1 c2 d0 d1 d2
  have c0 := A1.out.1
  have c1 := A1.out.2.1
  have c2 := A1.out.2.2
  have d0 := A2.out.1
  have d1 := A2.out.2.1
  have d2 := A2.out.2.2
  go_wp2
  go_ret2
  exact ⟨rfl, B0.out⟩

set_option maxRecDepth 100000 in
set_option maxHeartbeats 2000000 in
theorem reft_2zb  (n : Int) (s : ByteArray) (n' : Int) (s' : ByteArray) (w : World) (hr : Rt 2 n s = true) (hr' : Rt 2 n' s' = true) (hc : cmpV 2 n s 2 n' s' = 0) : Calls Try.prog 22 #[.int .i64 2, .agg #[.int .i64 2, .int .i64 n, .string s], .agg #[.int .i64 2, .int .i64 n', .string s']] w (Told w (b2i (tcmp 2 0)) 0) := by
  obtain ⟨A1, A2, Z1, Z2, B0⟩ := V3.two (w := w) (k := 2) (n := n) (s := s) (k' := 2) (n' := n') (s' := s') rfl
  have HR := Lib.hid (fun w => right_any 2 n s w)
  rw [hr] at HR
  clear hr
  have HR2 := Lib.hid (fun w => right_any 2 n' s' w)
  rw [hr'] at HR2
  clear hr'
  have HC := Lib.hid (fun w => refcompare_any 2 n s 2 n' s' w)
  rw [hc] at HC
  clear hc
  rw [show b2i (tcmp 2 0) = 0 by decide]
  unfold Told
  go_enter Try.func22, Try.ntmps22
  go_upto_region 1 with (fail)
  generalize (w.alloc (.cells #[.int .i64 2, .int .i64 n, .string s] 23)).alloc (.cells #[.int .i64 2, .int .i64 n', .string s'] 23) = W0 at *
  have c0 := A1.out.1
  have c1 := A1.out.2.1
  have c2 := A1.out.2.2
  have d0 := A2.out.1
  have d1 := A2.out.2.1
  have d2 := A2.out.2.2
  go_wp2_with fail
  refine (HR.out _).mono ?_
  rintro e w1 ⟨rfl, hb⟩
  obtain ⟨A1, A2, Z1, Z2, B0⟩ := V3.on A1 A2 Z1 Z2 B0 hb
  clear hb c0 c1 c2 d0 d1 d2
  have c0 := A1.out.1
  have c1 := A1.out.2.1
  have c2 := A1.out.2.2
  have d0 := A2.out.1
  have d1 := A2.out.2.1
  have d2 := A2.out.2.2
  go_wp2_with fail
  refine (HR2.out _).mono ?_
  rintro e w2 ⟨rfl, hb⟩
  obtain ⟨A1, A2, Z1, Z2, B0⟩ := V3.on A1 A2 Z1 Z2 B0 hb
  clear hb c0 c1 c2 d0 d1 d2
  have c0 := A1.out.1
  have c1 := A1.out.2.1
  have c2 := A1.out.2.2
  have d0 := A2.out.1
  have d1 := A2.out.2.1
  have d2 := A2.out.2.2
  go_wp2_with fail
  refine (HC.out _).mono ?_
  rintro e w3 ⟨rfl, hb⟩
  obtain ⟨A1, A2, Z1, Z2, B0⟩ := V3.on A1 A2 Z1 Z2 B0 hb
  clear hb c0 c1 c2 d0 d1 d2
  have c0 := A1.out.1
  have c1 := A1.out.2.1
  have c2 := A1.out.2.2
  have d0 := A2.out.1
  have d1 := A2.out.2.1
  have d2 := A2.out.2.2
  go_wp2
  go_ret2
  exact ⟨rfl, B0.out⟩

set_option maxRecDepth 100000 in
set_option maxHeartbeats 2000000 in
theorem reft_2p  (k n : Int) (s : ByteArray) (n' : Int) (s' : ByteArray) (w : World) (hr : Rt k n s = true) (hr' : Rt k n' s' = true) (hk : (k == 1) = false) (hk2 : (k == 2) = false) (hc : cmpV k n s k n' s' = 1) : Calls Try.prog 22 #[.int .i64 2, .agg #[.int .i64 k, .int .i64 n, .string s], .agg #[.int .i64 k, .int .i64 n', .string s']] w (Told w (b2i (tcmp 2 1)) 0) := by
  obtain ⟨A1, A2, Z1, Z2, B0⟩ := V3.two (w := w) (k := k) (n := n) (s := s) (k' := k) (n' := n') (s' := s') rfl
  have e1 : (k != k) = false := by simp
  have HR := Lib.hid (fun w => right_any k n s w)
  rw [hr] at HR
  clear hr
  have HR2 := Lib.hid (fun w => right_any k n' s' w)
  rw [hr'] at HR2
  clear hr'
  have HC := Lib.hid (fun w => refcompare_any k n s k n' s' w)
  rw [hc] at HC
  clear hc
  rw [show b2i (tcmp 2 1) = 1 by decide]
  unfold Told
  go_enter Try.func22, Try.ntmps22
  go_upto_region 1 with (fail)
  generalize (w.alloc (.cells #[.int .i64 k, .int .i64 n, .string s] 23)).alloc (.cells #[.int .i64 k, .int .i64 n', .string s'] 23) = W0 at *
  have c0 := A1.out.1
  have c1 := A1.out.2.1
  have c2 := A1.out.2.2
  have d0 := A2.out.1
  have d1 := A2.out.2.1
  have d2 := A2.out.2.2
  go_wp2_with fail
  refine (HR.out _).mono ?_
  rintro e w1 ⟨rfl, hb⟩
  obtain ⟨A1, A2, Z1, Z2, B0⟩ := V3.on A1 A2 Z1 Z2 B0 hb
  clear hb c0 c1 c2 d0 d1 d2
  have c0 := A1.out.1
  have c1 := A1.out.2.1
  have c2 := A1.out.2.2
  have d0 := A2.out.1
  have d1 := A2.out.2.1
  have d2 := A2.out.2.2
  go_wp2_with fail
  refine (HR2.out _).mono ?_
  rintro e w2 ⟨rfl, hb⟩
  obtain ⟨A1, A2, Z1, Z2, B0⟩ := V3.on A1 A2 Z1 Z2 B0 hb
  clear hb c0 c1 c2 d0 d1 d2
  have c0 := A1.out.1
  have c1 := A1.out.2.1
  have c2 := A1.out.2.2
  have d0 := A2.out.1
  have d1 := A2.out.2.1
  have d2 := A2.out.2.2
  go_wp2_with fail
  refine (HC.out _).mono ?_
  rintro e w3 ⟨rfl, hb⟩
  obtain ⟨A1, A2, Z1, Z2, B0⟩ := V3.on A1 A2 Z1 Z2 B0 hb
  clear hb c0 c1 c2 d0 d1 d2
  have c0 := A1.out.1
  have c1 := A1.out.2.1
  have c2 := A1.out.2.2
  have d0 := A2.out.1
  have d1 := A2.out.2.1
  have d2 := A2.out.2.2
  go_wp2
  go_ret2
  exact ⟨rfl, B0.out⟩

set_option maxRecDepth 100000 in
set_option maxHeartbeats 2000000 in
theorem reft_2pb  (n : Int) (s : ByteArray) (n' : Int) (s' : ByteArray) (w : World) (hr : Rt 2 n s = true) (hr' : Rt 2 n' s' = true) (hc : cmpV 2 n s 2 n' s' = 1) : Calls Try.prog 22 #[.int .i64 2, .agg #[.int .i64 2, .int .i64 n, .string s], .agg #[.int .i64 2, .int .i64 n', .string s']] w (Told w (b2i (tcmp 2 1)) 0) := by
  obtain ⟨A1, A2, Z1, Z2, B0⟩ := V3.two (w := w) (k := 2) (n := n) (s := s) (k' := 2) (n' := n') (s' := s') rfl
  have HR := Lib.hid (fun w => right_any 2 n s w)
  rw [hr] at HR
  clear hr
  have HR2 := Lib.hid (fun w => right_any 2 n' s' w)
  rw [hr'] at HR2
  clear hr'
  have HC := Lib.hid (fun w => refcompare_any 2 n s 2 n' s' w)
  rw [hc] at HC
  clear hc
  rw [show b2i (tcmp 2 1) = 1 by decide]
  unfold Told
  go_enter Try.func22, Try.ntmps22
  go_upto_region 1 with (fail)
  generalize (w.alloc (.cells #[.int .i64 2, .int .i64 n, .string s] 23)).alloc (.cells #[.int .i64 2, .int .i64 n', .string s'] 23) = W0 at *
  have c0 := A1.out.1
  have c1 := A1.out.2.1
  have c2 := A1.out.2.2
  have d0 := A2.out.1
  have d1 := A2.out.2.1
  have d2 := A2.out.2.2
  go_wp2_with fail
  refine (HR.out _).mono ?_
  rintro e w1 ⟨rfl, hb⟩
  obtain ⟨A1, A2, Z1, Z2, B0⟩ := V3.on A1 A2 Z1 Z2 B0 hb
  clear hb c0 c1 c2 d0 d1 d2
  have c0 := A1.out.1
  have c1 := A1.out.2.1
  have c2 := A1.out.2.2
  have d0 := A2.out.1
  have d1 := A2.out.2.1
  have d2 := A2.out.2.2
  go_wp2_with fail
  refine (HR2.out _).mono ?_
  rintro e w2 ⟨rfl, hb⟩
  obtain ⟨A1, A2, Z1, Z2, B0⟩ := V3.on A1 A2 Z1 Z2 B0 hb
  clear hb c0 c1 c2 d0 d1 d2
  have c0 := A1.out.1
  have c1 := A1.out.2.1
  have c2 := A1.out.2.2
  have d0 := A2.out.1
  have d1 := A2.out.2.1
  have d2 := A2.out.2.2
  go_wp2_with fail
  refine (HC.out _).mono ?_
  rintro e w3 ⟨rfl, hb⟩
  obtain ⟨A1, A2, Z1, Z2, B0⟩ := V3.on A1 A2 Z1 Z2 B0 hb
  clear hb c0 c1 c2 d0 d1 d2
  have c0 := A1.out.1
  have c1 := A1.out.2.1
  have c2 := A1.out.2.2
  have d0 := A2.out.1
  have d1 := A2.out.2.1
  have d2 := A2.out.2.2
  go_wp2
  go_ret2
  exact ⟨rfl, B0.out⟩

set_option maxRecDepth 100000 in
set_option maxHeartbeats 2000000 in
theorem reft_3m  (k n : Int) (s : ByteArray) (n' : Int) (s' : ByteArray) (w : World) (hr : Rt k n s = true) (hr' : Rt k n' s' = true) (hk : (k == 1) = false) (hk2 : (k == 2) = false) (hc : cmpV k n s k n' s' = (-1)) : Calls Try.prog 22 #[.int .i64 3, .agg #[.int .i64 k, .int .i64 n, .string s], .agg #[.int .i64 k, .int .i64 n', .string s']] w (Told w (b2i (tcmp 3 (-1))) 0) := by
  obtain ⟨A1, A2, Z1, Z2, B0⟩ := V3.two (w := w) (k := k) (n := n) (s := s) (k' := k) (n' := n') (s' := s') rfl
  have e1 : (k != k) = false := by simp
  have HR := Lib.hid (fun w => right_any k n s w)
  rw [hr] at HR
  clear hr
  have HR2 := Lib.hid (fun w => right_any k n' s' w)
  rw [hr'] at HR2
  clear hr'
  have HC := Lib.hid (fun w => refcompare_any k n s k n' s' w)
  rw [hc] at HC
  clear hc
  rw [show b2i (tcmp 3 (-1)) = 1 by decide]
  unfold Told
  go_enter Try.func22, Try.ntmps22
  go_upto_region 1 with (fail)
  generalize (w.alloc (.cells #[.int .i64 k, .int .i64 n, .string s] 23)).alloc (.cells #[.int .i64 k, .int .i64 n', .string s'] 23) = W0 at *
  have c0 := A1.out.1
  have c1 := A1.out.2.1
  have c2 := A1.out.2.2
  have d0 := A2.out.1
  have d1 := A2.out.2.1
  have d2 := A2.out.2.2
  go_wp2_with fail
  refine (HR.out _).mono ?_
  rintro e w1 ⟨rfl, hb⟩
  obtain ⟨A1, A2, Z1, Z2, B0⟩ := V3.on A1 A2 Z1 Z2 B0 hb
  clear hb c0 c1 c2 d0 d1 d2
  have c0 := A1.out.1
  have c1 := A1.out.2.1
  have c2 := A1.out.2.2
  have d0 := A2.out.1
  have d1 := A2.out.2.1
  have d2 := A2.out.2.2
  go_wp2_with fail
  refine (HR2.out _).mono ?_
  rintro e w2 ⟨rfl, hb⟩
  obtain ⟨A1, A2, Z1, Z2, B0⟩ := V3.on A1 A2 Z1 Z2 B0 hb
  clear hb c0 c1 c2 d0 d1 d2
  have c0 := A1.out.1
  have c1 := A1.out.2.1
  have c2 := A1.out.2.2
  have d0 := A2.out.1
  have d1 := A2.out.2.1
  have d2 := A2.out.2.2
  go_wp2_with fail
  refine (HC.out _).mono ?_
  rintro e w3 ⟨rfl, hb⟩
  obtain ⟨A1, A2, Z1, Z2, B0⟩ := V3.on A1 A2 Z1 Z2 B0 hb
  clear hb c0 c1 c2 d0 d1 d2
  have c0 := A1.out.1
  have c1 := A1.out.2.1
  have c2 := A1.out.2.2
  have d0 := A2.out.1
  have d1 := A2.out.2.1
  have d2 := A2.out.2.2
  go_wp2
  go_ret2
  exact ⟨rfl, B0.out⟩

set_option maxRecDepth 100000 in
set_option maxHeartbeats 2000000 in
theorem reft_3z  (k n : Int) (s : ByteArray) (n' : Int) (s' : ByteArray) (w : World) (hr : Rt k n s = true) (hr' : Rt k n' s' = true) (hk : (k == 1) = false) (hk2 : (k == 2) = false) (hc : cmpV k n s k n' s' = 0) : Calls Try.prog 22 #[.int .i64 3, .agg #[.int .i64 k, .int .i64 n, .string s], .agg #[.int .i64 k, .int .i64 n', .string s']] w (Told w (b2i (tcmp 3 0)) 0) := by
  obtain ⟨A1, A2, Z1, Z2, B0⟩ := V3.two (w := w) (k := k) (n := n) (s := s) (k' := k) (n' := n') (s' := s') rfl
  have e1 : (k != k) = false := by simp
  have HR := Lib.hid (fun w => right_any k n s w)
  rw [hr] at HR
  clear hr
  have HR2 := Lib.hid (fun w => right_any k n' s' w)
  rw [hr'] at HR2
  clear hr'
  have HC := Lib.hid (fun w => refcompare_any k n s k n' s' w)
  rw [hc] at HC
  clear hc
  rw [show b2i (tcmp 3 0) = 0 by decide]
  unfold Told
  go_enter Try.func22, Try.ntmps22
  go_upto_region 1 with (fail)
  generalize (w.alloc (.cells #[.int .i64 k, .int .i64 n, .string s] 23)).alloc (.cells #[.int .i64 k, .int .i64 n', .string s'] 23) = W0 at *
  have c0 := A1.out.1
  have c1 := A1.out.2.1
  have c2 := A1.out.2.2
  have d0 := A2.out.1
  have d1 := A2.out.2.1
  have d2 := A2.out.2.2
  go_wp2_with fail
  refine (HR.out _).mono ?_
  rintro e w1 ⟨rfl, hb⟩
  obtain ⟨A1, A2, Z1, Z2, B0⟩ := V3.on A1 A2 Z1 Z2 B0 hb
  clear hb c0 c1 c2 d0 d1 d2
  have c0 := A1.out.1
  have c1 := A1.out.2.1
  have c2 := A1.out.2.2
  have d0 := A2.out.1
  have d1 := A2.out.2.1
  have d2 := A2.out.2.2
  go_wp2_with fail
  refine (HR2.out _).mono ?_
  rintro e w2 ⟨rfl, hb⟩
  obtain ⟨A1, A2, Z1, Z2, B0⟩ := V3.on A1 A2 Z1 Z2 B0 hb
  clear hb c0 c1 c2 d0 d1 d2
  have c0 := A1.out.1
  have c1 := A1.out.2.1
  have c2 := A1.out.2.2
  have d0 := A2.out.1
  have d1 := A2.out.2.1
  have d2 := A2.out.2.2
  go_wp2_with fail
  refine (HC.out _).mono ?_
  rintro e w3 ⟨rfl, hb⟩
  obtain ⟨A1, A2, Z1, Z2, B0⟩ := V3.on A1 A2 Z1 Z2 B0 hb
  clear hb c0 c1 c2 d0 d1 d2
  have c0 := A1.out.1
  have c1 := A1.out.2.1
  have c2 := A1.out.2.2
  have d0 := A2.out.1
  have d1 := A2.out.2.1
  have d2 := A2.out.2.2
  go_wp2
  go_ret2
  exact ⟨rfl, B0.out⟩

set_option maxRecDepth 100000 in
set_option maxHeartbeats 2000000 in
theorem reft_3p  (k n : Int) (s : ByteArray) (n' : Int) (s' : ByteArray) (w : World) (hr : Rt k n s = true) (hr' : Rt k n' s' = true) (hk : (k == 1) = false) (hk2 : (k == 2) = false) (hc : cmpV k n s k n' s' = 1) : Calls Try.prog 22 #[.int .i64 3, .agg #[.int .i64 k, .int .i64 n, .string s], .agg #[.int .i64 k, .int .i64 n', .string s']] w (Told w (b2i (tcmp 3 1)) 0) := by
  obtain ⟨A1, A2, Z1, Z2, B0⟩ := V3.two (w := w) (k := k) (n := n) (s := s) (k' := k) (n' := n') (s' := s') rfl
  have e1 : (k != k) = false := by simp
  have HR := Lib.hid (fun w => right_any k n s w)
  rw [hr] at HR
  clear hr
  have HR2 := Lib.hid (fun w => right_any k n' s' w)
  rw [hr'] at HR2
  clear hr'
  have HC := Lib.hid (fun w => refcompare_any k n s k n' s' w)
  rw [hc] at HC
  clear hc
  rw [show b2i (tcmp 3 1) = 0 by decide]
  unfold Told
  go_enter Try.func22, Try.ntmps22
  go_upto_region 1 with (fail)
  generalize (w.alloc (.cells #[.int .i64 k, .int .i64 n, .string s] 23)).alloc (.cells #[.int .i64 k, .int .i64 n', .string s'] 23) = W0 at *
  have c0 := A1.out.1
  have c1 := A1.out.2.1
  have c2 := A1.out.2.2
  have d0 := A2.out.1
  have d1 := A2.out.2.1
  have d2 := A2.out.2.2
  go_wp2_with fail
  refine (HR.out _).mono ?_
  rintro e w1 ⟨rfl, hb⟩
  obtain ⟨A1, A2, Z1, Z2, B0⟩ := V3.on A1 A2 Z1 Z2 B0 hb
  clear hb c0 c1 c2 d0 d1 d2
  have c0 := A1.out.1
  have c1 := A1.out.2.1
  have c2 := A1.out.2.2
  have d0 := A2.out.1
  have d1 := A2.out.2.1
  have d2 := A2.out.2.2
  go_wp2_with fail
  refine (HR2.out _).mono ?_
  rintro e w2 ⟨rfl, hb⟩
  obtain ⟨A1, A2, Z1, Z2, B0⟩ := V3.on A1 A2 Z1 Z2 B0 hb
  clear hb c0 c1 c2 d0 d1 d2
  have c0 := A1.out.1
  have c1 := A1.out.2.1
  have c2 := A1.out.2.2
  have d0 := A2.out.1
  have d1 := A2.out.2.1
  have d2 := A2.out.2.2
  go_wp2_with fail
  refine (HC.out _).mono ?_
  rintro e w3 ⟨rfl, hb⟩
  obtain ⟨A1, A2, Z1, Z2, B0⟩ := V3.on A1 A2 Z1 Z2 B0 hb
  clear hb c0 c1 c2 d0 d1 d2
  have c0 := A1.out.1
  have c1 := A1.out.2.1
  have c2 := A1.out.2.2
  have d0 := A2.out.1
  have d1 := A2.out.2.1
  have d2 := A2.out.2.2
  go_wp2
  go_ret2
  exact ⟨rfl, B0.out⟩

set_option maxRecDepth 100000 in
set_option maxHeartbeats 2000000 in
theorem reft_4m  (k n : Int) (s : ByteArray) (n' : Int) (s' : ByteArray) (w : World) (hr : Rt k n s = true) (hr' : Rt k n' s' = true) (hk : (k == 1) = false) (hk2 : (k == 2) = false) (hc : cmpV k n s k n' s' = (-1)) : Calls Try.prog 22 #[.int .i64 4, .agg #[.int .i64 k, .int .i64 n, .string s], .agg #[.int .i64 k, .int .i64 n', .string s']] w (Told w (b2i (tcmp 4 (-1))) 0) := by
  obtain ⟨A1, A2, Z1, Z2, B0⟩ := V3.two (w := w) (k := k) (n := n) (s := s) (k' := k) (n' := n') (s' := s') rfl
  have e1 : (k != k) = false := by simp
  have HR := Lib.hid (fun w => right_any k n s w)
  rw [hr] at HR
  clear hr
  have HR2 := Lib.hid (fun w => right_any k n' s' w)
  rw [hr'] at HR2
  clear hr'
  have HC := Lib.hid (fun w => refcompare_any k n s k n' s' w)
  rw [hc] at HC
  clear hc
  rw [show b2i (tcmp 4 (-1)) = 1 by decide]
  unfold Told
  go_enter Try.func22, Try.ntmps22
  go_upto_region 1 with (fail)
  generalize (w.alloc (.cells #[.int .i64 k, .int .i64 n, .string s] 23)).alloc (.cells #[.int .i64 k, .int .i64 n', .string s'] 23) = W0 at *
  have c0 := A1.out.1
  have c1 := A1.out.2.1
  have c2 := A1.out.2.2
  have d0 := A2.out.1
  have d1 := A2.out.2.1
  have d2 := A2.out.2.2
  go_wp2_with fail
  refine (HR.out _).mono ?_
  rintro e w1 ⟨rfl, hb⟩
  obtain ⟨A1, A2, Z1, Z2, B0⟩ := V3.on A1 A2 Z1 Z2 B0 hb
  clear hb c0 c1 c2 d0 d1 d2
  have c0 := A1.out.1
  have c1 := A1.out.2.1
  have c2 := A1.out.2.2
  have d0 := A2.out.1
  have d1 := A2.out.2.1
  have d2 := A2.out.2.2
  go_wp2_with fail
  refine (HR2.out _).mono ?_
  rintro e w2 ⟨rfl, hb⟩
  obtain ⟨A1, A2, Z1, Z2, B0⟩ := V3.on A1 A2 Z1 Z2 B0 hb
  clear hb c0 c1 c2 d0 d1 d2
  have c0 := A1.out.1
  have c1 := A1.out.2.1
  have c2 := A1.out.2.2
  have d0 := A2.out.1
  have d1 := A2.out.2.1
  have d2 := A2.out.2.2
  go_wp2_with fail
  refine (HC.out _).mono ?_
  rintro e w3 ⟨rfl, hb⟩
  obtain ⟨A1, A2, Z1, Z2, B0⟩ := V3.on A1 A2 Z1 Z2 B0 hb
  clear hb c0 c1 c2 d0 d1 d2
  have c0 := A1.out.1
  have c1 := A1.out.2.1
  have c2 := A1.out.2.2
  have d0 := A2.out.1
  have d1 := A2.out.2.1
  have d2 := A2.out.2.2
  go_wp2
  go_ret2
  exact ⟨rfl, B0.out⟩

set_option maxRecDepth 100000 in
set_option maxHeartbeats 2000000 in
theorem reft_4z  (k n : Int) (s : ByteArray) (n' : Int) (s' : ByteArray) (w : World) (hr : Rt k n s = true) (hr' : Rt k n' s' = true) (hk : (k == 1) = false) (hk2 : (k == 2) = false) (hc : cmpV k n s k n' s' = 0) : Calls Try.prog 22 #[.int .i64 4, .agg #[.int .i64 k, .int .i64 n, .string s], .agg #[.int .i64 k, .int .i64 n', .string s']] w (Told w (b2i (tcmp 4 0)) 0) := by
  obtain ⟨A1, A2, Z1, Z2, B0⟩ := V3.two (w := w) (k := k) (n := n) (s := s) (k' := k) (n' := n') (s' := s') rfl
  have e1 : (k != k) = false := by simp
  have HR := Lib.hid (fun w => right_any k n s w)
  rw [hr] at HR
  clear hr
  have HR2 := Lib.hid (fun w => right_any k n' s' w)
  rw [hr'] at HR2
  clear hr'
  have HC := Lib.hid (fun w => refcompare_any k n s k n' s' w)
  rw [hc] at HC
  clear hc
  rw [show b2i (tcmp 4 0) = 1 by decide]
  unfold Told
  go_enter Try.func22, Try.ntmps22
  go_upto_region 1 with (fail)
  generalize (w.alloc (.cells #[.int .i64 k, .int .i64 n, .string s] 23)).alloc (.cells #[.int .i64 k, .int .i64 n', .string s'] 23) = W0 at *
  have c0 := A1.out.1
  have c1 := A1.out.2.1
  have c2 := A1.out.2.2
  have d0 := A2.out.1
  have d1 := A2.out.2.1
  have d2 := A2.out.2.2
  go_wp2_with fail
  refine (HR.out _).mono ?_
  rintro e w1 ⟨rfl, hb⟩
  obtain ⟨A1, A2, Z1, Z2, B0⟩ := V3.on A1 A2 Z1 Z2 B0 hb
  clear hb c0 c1 c2 d0 d1 d2
  have c0 := A1.out.1
  have c1 := A1.out.2.1
  have c2 := A1.out.2.2
  have d0 := A2.out.1
  have d1 := A2.out.2.1
  have d2 := A2.out.2.2
  go_wp2_with fail
  refine (HR2.out _).mono ?_
  rintro e w2 ⟨rfl, hb⟩
  obtain ⟨A1, A2, Z1, Z2, B0⟩ := V3.on A1 A2 Z1 Z2 B0 hb
  clear hb c0 c1 c2 d0 d1 d2
  have c0 := A1.out.1
  have c1 := A1.out.2.1
  have c2 := A1.out.2.2
  have d0 := A2.out.1
  have d1 := A2.out.2.1
  have d2 := A2.out.2.2
  go_wp2_with fail
  refine (HC.out _).mono ?_
  rintro e w3 ⟨rfl, hb⟩
  obtain ⟨A1, A2, Z1, Z2, B0⟩ := V3.on A1 A2 Z1 Z2 B0 hb
  clear hb c0 c1 c2 d0 d1 d2
  have c0 := A1.out.1
  have c1 := A1.out.2.1
  have c2 := A1.out.2.2
  have d0 := A2.out.1
  have d1 := A2.out.2.1
  have d2 := A2.out.2.2
  go_wp2
  go_ret2
  exact ⟨rfl, B0.out⟩

set_option maxRecDepth 100000 in
set_option maxHeartbeats 2000000 in
theorem reft_4p  (k n : Int) (s : ByteArray) (n' : Int) (s' : ByteArray) (w : World) (hr : Rt k n s = true) (hr' : Rt k n' s' = true) (hk : (k == 1) = false) (hk2 : (k == 2) = false) (hc : cmpV k n s k n' s' = 1) : Calls Try.prog 22 #[.int .i64 4, .agg #[.int .i64 k, .int .i64 n, .string s], .agg #[.int .i64 k, .int .i64 n', .string s']] w (Told w (b2i (tcmp 4 1)) 0) := by
  obtain ⟨A1, A2, Z1, Z2, B0⟩ := V3.two (w := w) (k := k) (n := n) (s := s) (k' := k) (n' := n') (s' := s') rfl
  have e1 : (k != k) = false := by simp
  have HR := Lib.hid (fun w => right_any k n s w)
  rw [hr] at HR
  clear hr
  have HR2 := Lib.hid (fun w => right_any k n' s' w)
  rw [hr'] at HR2
  clear hr'
  have HC := Lib.hid (fun w => refcompare_any k n s k n' s' w)
  rw [hc] at HC
  clear hc
  rw [show b2i (tcmp 4 1) = 0 by decide]
  unfold Told
  go_enter Try.func22, Try.ntmps22
  go_upto_region 1 with (fail)
  generalize (w.alloc (.cells #[.int .i64 k, .int .i64 n, .string s] 23)).alloc (.cells #[.int .i64 k, .int .i64 n', .string s'] 23) = W0 at *
  have c0 := A1.out.1
  have c1 := A1.out.2.1
  have c2 := A1.out.2.2
  have d0 := A2.out.1
  have d1 := A2.out.2.1
  have d2 := A2.out.2.2
  go_wp2_with fail
  refine (HR.out _).mono ?_
  rintro e w1 ⟨rfl, hb⟩
  obtain ⟨A1, A2, Z1, Z2, B0⟩ := V3.on A1 A2 Z1 Z2 B0 hb
  clear hb c0 c1 c2 d0 d1 d2
  have c0 := A1.out.1
  have c1 := A1.out.2.1
  have c2 := A1.out.2.2
  have d0 := A2.out.1
  have d1 := A2.out.2.1
  have d2 := A2.out.2.2
  go_wp2_with fail
  refine (HR2.out _).mono ?_
  rintro e w2 ⟨rfl, hb⟩
  obtain ⟨A1, A2, Z1, Z2, B0⟩ := V3.on A1 A2 Z1 Z2 B0 hb
  clear hb c0 c1 c2 d0 d1 d2
  have c0 := A1.out.1
  have c1 := A1.out.2.1
  have c2 := A1.out.2.2
  have d0 := A2.out.1
  have d1 := A2.out.2.1
  have d2 := A2.out.2.2
  go_wp2_with fail
  refine (HC.out _).mono ?_
  rintro e w3 ⟨rfl, hb⟩
  obtain ⟨A1, A2, Z1, Z2, B0⟩ := V3.on A1 A2 Z1 Z2 B0 hb
  clear hb c0 c1 c2 d0 d1 d2
  have c0 := A1.out.1
  have c1 := A1.out.2.1
  have c2 := A1.out.2.2
  have d0 := A2.out.1
  have d1 := A2.out.2.1
  have d2 := A2.out.2.2
  go_wp2
  go_ret2
  exact ⟨rfl, B0.out⟩

set_option maxRecDepth 100000 in
set_option maxHeartbeats 2000000 in
theorem reft_5m  (k n : Int) (s : ByteArray) (n' : Int) (s' : ByteArray) (w : World) (hr : Rt k n s = true) (hr' : Rt k n' s' = true) (hk : (k == 1) = false) (hk2 : (k == 2) = false) (hc : cmpV k n s k n' s' = (-1)) : Calls Try.prog 22 #[.int .i64 5, .agg #[.int .i64 k, .int .i64 n, .string s], .agg #[.int .i64 k, .int .i64 n', .string s']] w (Told w (b2i (tcmp 5 (-1))) 0) := by
  obtain ⟨A1, A2, Z1, Z2, B0⟩ := V3.two (w := w) (k := k) (n := n) (s := s) (k' := k) (n' := n') (s' := s') rfl
  have e1 : (k != k) = false := by simp
  have HR := Lib.hid (fun w => right_any k n s w)
  rw [hr] at HR
  clear hr
  have HR2 := Lib.hid (fun w => right_any k n' s' w)
  rw [hr'] at HR2
  clear hr'
  have HC := Lib.hid (fun w => refcompare_any k n s k n' s' w)
  rw [hc] at HC
  clear hc
  rw [show b2i (tcmp 5 (-1)) = 0 by decide]
  unfold Told
  go_enter Try.func22, Try.ntmps22
  go_upto_region 1 with (fail)
  generalize (w.alloc (.cells #[.int .i64 k, .int .i64 n, .string s] 23)).alloc (.cells #[.int .i64 k, .int .i64 n', .string s'] 23) = W0 at *
  have c0 := A1.out.1
  have c1 := A1.out.2.1
  have c2 := A1.out.2.2
  have d0 := A2.out.1
  have d1 := A2.out.2.1
  have d2 := A2.out.2.2
  go_wp2_with fail
  refine (HR.out _).mono ?_
  rintro e w1 ⟨rfl, hb⟩
  obtain ⟨A1, A2, Z1, Z2, B0⟩ := V3.on A1 A2 Z1 Z2 B0 hb
  clear hb c0 c1 c2 d0 d1 d2
  have c0 := A1.out.1
  have c1 := A1.out.2.1
  have c2 := A1.out.2.2
  have d0 := A2.out.1
  have d1 := A2.out.2.1
  have d2 := A2.out.2.2
  go_wp2_with fail
  refine (HR2.out _).mono ?_
  rintro e w2 ⟨rfl, hb⟩
  obtain ⟨A1, A2, Z1, Z2, B0⟩ := V3.on A1 A2 Z1 Z2 B0 hb
  clear hb c0 c1 c2 d0 d1 d2
  have c0 := A1.out.1
  have c1 := A1.out.2.1
  have c2 := A1.out.2.2
  have d0 := A2.out.1
  have d1 := A2.out.2.1
  have d2 := A2.out.2.2
  go_wp2_with fail
  refine (HC.out _).mono ?_
  rintro e w3 ⟨rfl, hb⟩
  obtain ⟨A1, A2, Z1, Z2, B0⟩ := V3.on A1 A2 Z1 Z2 B0 hb
  clear hb c0 c1 c2 d0 d1 d2
  have c0 := A1.out.1
  have c1 := A1.out.2.1
  have c2 := A1.out.2.2
  have d0 := A2.out.1
  have d1 := A2.out.2.1
  have d2 := A2.out.2.2
  go_wp2
  go_ret2
  exact ⟨rfl, B0.out⟩

set_option maxRecDepth 100000 in
set_option maxHeartbeats 2000000 in
theorem reft_5z  (k n : Int) (s : ByteArray) (n' : Int) (s' : ByteArray) (w : World) (hr : Rt k n s = true) (hr' : Rt k n' s' = true) (hk : (k == 1) = false) (hk2 : (k == 2) = false) (hc : cmpV k n s k n' s' = 0) : Calls Try.prog 22 #[.int .i64 5, .agg #[.int .i64 k, .int .i64 n, .string s], .agg #[.int .i64 k, .int .i64 n', .string s']] w (Told w (b2i (tcmp 5 0)) 0) := by
  obtain ⟨A1, A2, Z1, Z2, B0⟩ := V3.two (w := w) (k := k) (n := n) (s := s) (k' := k) (n' := n') (s' := s') rfl
  have e1 : (k != k) = false := by simp
  have HR := Lib.hid (fun w => right_any k n s w)
  rw [hr] at HR
  clear hr
  have HR2 := Lib.hid (fun w => right_any k n' s' w)
  rw [hr'] at HR2
  clear hr'
  have HC := Lib.hid (fun w => refcompare_any k n s k n' s' w)
  rw [hc] at HC
  clear hc
  rw [show b2i (tcmp 5 0) = 0 by decide]
  unfold Told
  go_enter Try.func22, Try.ntmps22
  go_upto_region 1 with (fail)
  generalize (w.alloc (.cells #[.int .i64 k, .int .i64 n, .string s] 23)).alloc (.cells #[.int .i64 k, .int .i64 n', .string s'] 23) = W0 at *
  have c0 := A1.out.1
  have c1 := A1.out.2.1
  have c2 := A1.out.2.2
  have d0 := A2.out.1
  have d1 := A2.out.2.1
  have d2 := A2.out.2.2
  go_wp2_with fail
  refine (HR.out _).mono ?_
  rintro e w1 ⟨rfl, hb⟩
  obtain ⟨A1, A2, Z1, Z2, B0⟩ := V3.on A1 A2 Z1 Z2 B0 hb
  clear hb c0 c1 c2 d0 d1 d2
  have c0 := A1.out.1
  have c1 := A1.out.2.1
  have c2 := A1.out.2.2
  have d0 := A2.out.1
  have d1 := A2.out.2.1
  have d2 := A2.out.2.2
  go_wp2_with fail
  refine (HR2.out _).mono ?_
  rintro e w2 ⟨rfl, hb⟩
  obtain ⟨A1, A2, Z1, Z2, B0⟩ := V3.on A1 A2 Z1 Z2 B0 hb
  clear hb c0 c1 c2 d0 d1 d2
  have c0 := A1.out.1
  have c1 := A1.out.2.1
  have c2 := A1.out.2.2
  have d0 := A2.out.1
  have d1 := A2.out.2.1
  have d2 := A2.out.2.2
  go_wp2_with fail
  refine (HC.out _).mono ?_
  rintro e w3 ⟨rfl, hb⟩
  obtain ⟨A1, A2, Z1, Z2, B0⟩ := V3.on A1 A2 Z1 Z2 B0 hb
  clear hb c0 c1 c2 d0 d1 d2
  have c0 := A1.out.1
  have c1 := A1.out.2.1
  have c2 := A1.out.2.2
  have d0 := A2.out.1
  have d1 := A2.out.2.1
  have d2 := A2.out.2.2
  go_wp2
  go_ret2
  exact ⟨rfl, B0.out⟩

set_option maxRecDepth 100000 in
set_option maxHeartbeats 2000000 in
theorem reft_5p  (k n : Int) (s : ByteArray) (n' : Int) (s' : ByteArray) (w : World) (hr : Rt k n s = true) (hr' : Rt k n' s' = true) (hk : (k == 1) = false) (hk2 : (k == 2) = false) (hc : cmpV k n s k n' s' = 1) : Calls Try.prog 22 #[.int .i64 5, .agg #[.int .i64 k, .int .i64 n, .string s], .agg #[.int .i64 k, .int .i64 n', .string s']] w (Told w (b2i (tcmp 5 1)) 0) := by
  obtain ⟨A1, A2, Z1, Z2, B0⟩ := V3.two (w := w) (k := k) (n := n) (s := s) (k' := k) (n' := n') (s' := s') rfl
  have e1 : (k != k) = false := by simp
  have HR := Lib.hid (fun w => right_any k n s w)
  rw [hr] at HR
  clear hr
  have HR2 := Lib.hid (fun w => right_any k n' s' w)
  rw [hr'] at HR2
  clear hr'
  have HC := Lib.hid (fun w => refcompare_any k n s k n' s' w)
  rw [hc] at HC
  clear hc
  rw [show b2i (tcmp 5 1) = 1 by decide]
  unfold Told
  go_enter Try.func22, Try.ntmps22
  go_upto_region 1 with (fail)
  generalize (w.alloc (.cells #[.int .i64 k, .int .i64 n, .string s] 23)).alloc (.cells #[.int .i64 k, .int .i64 n', .string s'] 23) = W0 at *
  have c0 := A1.out.1
  have c1 := A1.out.2.1
  have c2 := A1.out.2.2
  have d0 := A2.out.1
  have d1 := A2.out.2.1
  have d2 := A2.out.2.2
  go_wp2_with fail
  refine (HR.out _).mono ?_
  rintro e w1 ⟨rfl, hb⟩
  obtain ⟨A1, A2, Z1, Z2, B0⟩ := V3.on A1 A2 Z1 Z2 B0 hb
  clear hb c0 c1 c2 d0 d1 d2
  have c0 := A1.out.1
  have c1 := A1.out.2.1
  have c2 := A1.out.2.2
  have d0 := A2.out.1
  have d1 := A2.out.2.1
  have d2 := A2.out.2.2
  go_wp2_with fail
  refine (HR2.out _).mono ?_
  rintro e w2 ⟨rfl, hb⟩
  obtain ⟨A1, A2, Z1, Z2, B0⟩ := V3.on A1 A2 Z1 Z2 B0 hb
  clear hb c0 c1 c2 d0 d1 d2
  have c0 := A1.out.1
  have c1 := A1.out.2.1
  have c2 := A1.out.2.2
  have d0 := A2.out.1
  have d1 := A2.out.2.1
  have d2 := A2.out.2.2
  go_wp2_with fail
  refine (HC.out _).mono ?_
  rintro e w3 ⟨rfl, hb⟩
  obtain ⟨A1, A2, Z1, Z2, B0⟩ := V3.on A1 A2 Z1 Z2 B0 hb
  clear hb c0 c1 c2 d0 d1 d2
  have c0 := A1.out.1
  have c1 := A1.out.2.1
  have c2 := A1.out.2.2
  have d0 := A2.out.1
  have d1 := A2.out.2.1
  have d2 := A2.out.2.2
  go_wp2
  go_ret2
  exact ⟨rfl, B0.out⟩

set_option maxRecDepth 100000 in
set_option maxHeartbeats 2000000 in
theorem reft_6m  (k n : Int) (s : ByteArray) (n' : Int) (s' : ByteArray) (w : World) (hr : Rt k n s = true) (hr' : Rt k n' s' = true) (hk : (k == 1) = false) (hk2 : (k == 2) = false) (hc : cmpV k n s k n' s' = (-1)) : Calls Try.prog 22 #[.int .i64 6, .agg #[.int .i64 k, .int .i64 n, .string s], .agg #[.int .i64 k, .int .i64 n', .string s']] w (Told w (b2i (tcmp 6 (-1))) 0) := by
  obtain ⟨A1, A2, Z1, Z2, B0⟩ := V3.two (w := w) (k := k) (n := n) (s := s) (k' := k) (n' := n') (s' := s') rfl
  have e1 : (k != k) = false := by simp
  have HR := Lib.hid (fun w => right_any k n s w)
  rw [hr] at HR
  clear hr
  have HR2 := Lib.hid (fun w => right_any k n' s' w)
  rw [hr'] at HR2
  clear hr'
  have HC := Lib.hid (fun w => refcompare_any k n s k n' s' w)
  rw [hc] at HC
  clear hc
  rw [show b2i (tcmp 6 (-1)) = 0 by decide]
  unfold Told
  go_enter Try.func22, Try.ntmps22
  go_upto_region 1 with (fail)
  generalize (w.alloc (.cells #[.int .i64 k, .int .i64 n, .string s] 23)).alloc (.cells #[.int .i64 k, .int .i64 n', .string s'] 23) = W0 at *
  have c0 := A1.out.1
  have c1 := A1.out.2.1
  have c2 := A1.out.2.2
  have d0 := A2.out.1
  have d1 := A2.out.2.1
  have d2 := A2.out.2.2
  go_wp2_with fail
  refine (HR.out _).mono ?_
  rintro e w1 ⟨rfl, hb⟩
  obtain ⟨A1, A2, Z1, Z2, B0⟩ := V3.on A1 A2 Z1 Z2 B0 hb
  clear hb c0 c1 c2 d0 d1 d2
  have c0 := A1.out.1
  have c1 := A1.out.2.1
  have c2 := A1.out.2.2
  have d0 := A2.out.1
  have d1 := A2.out.2.1
  have d2 := A2.out.2.2
  go_wp2_with fail
  refine (HR2.out _).mono ?_
  rintro e w2 ⟨rfl, hb⟩
  obtain ⟨A1, A2, Z1, Z2, B0⟩ := V3.on A1 A2 Z1 Z2 B0 hb
  clear hb c0 c1 c2 d0 d1 d2
  have c0 := A1.out.1
  have c1 := A1.out.2.1
  have c2 := A1.out.2.2
  have d0 := A2.out.1
  have d1 := A2.out.2.1
  have d2 := A2.out.2.2
  go_wp2_with fail
  refine (HC.out _).mono ?_
  rintro e w3 ⟨rfl, hb⟩
  obtain ⟨A1, A2, Z1, Z2, B0⟩ := V3.on A1 A2 Z1 Z2 B0 hb
  clear hb c0 c1 c2 d0 d1 d2
  have c0 := A1.out.1
  have c1 := A1.out.2.1
  have c2 := A1.out.2.2
  have d0 := A2.out.1
  have d1 := A2.out.2.1
  have d2 := A2.out.2.2
  go_wp2
  go_ret2
  exact ⟨rfl, B0.out⟩

set_option maxRecDepth 100000 in
set_option maxHeartbeats 2000000 in
theorem reft_6z  (k n : Int) (s : ByteArray) (n' : Int) (s' : ByteArray) (w : World) (hr : Rt k n s = true) (hr' : Rt k n' s' = true) (hk : (k == 1) = false) (hk2 : (k == 2) = false) (hc : cmpV k n s k n' s' = 0) : Calls Try.prog 22 #[.int .i64 6, .agg #[.int .i64 k, .int .i64 n, .string s], .agg #[.int .i64 k, .int .i64 n', .string s']] w (Told w (b2i (tcmp 6 0)) 0) := by
  obtain ⟨A1, A2, Z1, Z2, B0⟩ := V3.two (w := w) (k := k) (n := n) (s := s) (k' := k) (n' := n') (s' := s') rfl
  have e1 : (k != k) = false := by simp
  have HR := Lib.hid (fun w => right_any k n s w)
  rw [hr] at HR
  clear hr
  have HR2 := Lib.hid (fun w => right_any k n' s' w)
  rw [hr'] at HR2
  clear hr'
  have HC := Lib.hid (fun w => refcompare_any k n s k n' s' w)
  rw [hc] at HC
  clear hc
  rw [show b2i (tcmp 6 0) = 1 by decide]
  unfold Told
  go_enter Try.func22, Try.ntmps22
  go_upto_region 1 with (fail)
  generalize (w.alloc (.cells #[.int .i64 k, .int .i64 n, .string s] 23)).alloc (.cells #[.int .i64 k, .int .i64 n', .string s'] 23) = W0 at *
  have c0 := A1.out.1
  have c1 := A1.out.2.1
  have c2 := A1.out.2.2
  have d0 := A2.out.1
  have d1 := A2.out.2.1
  have d2 := A2.out.2.2
  go_wp2_with fail
  refine (HR.out _).mono ?_
  rintro e w1 ⟨rfl, hb⟩
  obtain ⟨A1, A2, Z1, Z2, B0⟩ := V3.on A1 A2 Z1 Z2 B0 hb
  clear hb c0 c1 c2 d0 d1 d2
  have c0 := A1.out.1
  have c1 := A1.out.2.1
  have c2 := A1.out.2.2
  have d0 := A2.out.1
  have d1 := A2.out.2.1
  have d2 := A2.out.2.2
  go_wp2_with fail
  refine (HR2.out _).mono ?_
  rintro e w2 ⟨rfl, hb⟩
  obtain ⟨A1, A2, Z1, Z2, B0⟩ := V3.on A1 A2 Z1 Z2 B0 hb
  clear hb c0 c1 c2 d0 d1 d2
  have c0 := A1.out.1
  have c1 := A1.out.2.1
  have c2 := A1.out.2.2
  have d0 := A2.out.1
  have d1 := A2.out.2.1
  have d2 := A2.out.2.2
  go_wp2_with fail
  refine (HC.out _).mono ?_
  rintro e w3 ⟨rfl, hb⟩
  obtain ⟨A1, A2, Z1, Z2, B0⟩ := V3.on A1 A2 Z1 Z2 B0 hb
  clear hb c0 c1 c2 d0 d1 d2
  have c0 := A1.out.1
  have c1 := A1.out.2.1
  have c2 := A1.out.2.2
  have d0 := A2.out.1
  have d1 := A2.out.2.1
  have d2 := A2.out.2.2
  go_wp2
  go_ret2
  exact ⟨rfl, B0.out⟩

set_option maxRecDepth 100000 in
set_option maxHeartbeats 2000000 in
theorem reft_6p  (k n : Int) (s : ByteArray) (n' : Int) (s' : ByteArray) (w : World) (hr : Rt k n s = true) (hr' : Rt k n' s' = true) (hk : (k == 1) = false) (hk2 : (k == 2) = false) (hc : cmpV k n s k n' s' = 1) : Calls Try.prog 22 #[.int .i64 6, .agg #[.int .i64 k, .int .i64 n, .string s], .agg #[.int .i64 k, .int .i64 n', .string s']] w (Told w (b2i (tcmp 6 1)) 0) := by
  obtain ⟨A1, A2, Z1, Z2, B0⟩ := V3.two (w := w) (k := k) (n := n) (s := s) (k' := k) (n' := n') (s' := s') rfl
  have e1 : (k != k) = false := by simp
  have HR := Lib.hid (fun w => right_any k n s w)
  rw [hr] at HR
  clear hr
  have HR2 := Lib.hid (fun w => right_any k n' s' w)
  rw [hr'] at HR2
  clear hr'
  have HC := Lib.hid (fun w => refcompare_any k n s k n' s' w)
  rw [hc] at HC
  clear hc
  rw [show b2i (tcmp 6 1) = 1 by decide]
  unfold Told
  go_enter Try.func22, Try.ntmps22
  go_upto_region 1 with (fail)
  generalize (w.alloc (.cells #[.int .i64 k, .int .i64 n, .string s] 23)).alloc (.cells #[.int .i64 k, .int .i64 n', .string s'] 23) = W0 at *
  have c0 := A1.out.1
  have c1 := A1.out.2.1
  have c2 := A1.out.2.2
  have d0 := A2.out.1
  have d1 := A2.out.2.1
  have d2 := A2.out.2.2
  go_wp2_with fail
  refine (HR.out _).mono ?_
  rintro e w1 ⟨rfl, hb⟩
  obtain ⟨A1, A2, Z1, Z2, B0⟩ := V3.on A1 A2 Z1 Z2 B0 hb
  clear hb c0 c1 c2 d0 d1 d2
  have c0 := A1.out.1
  have c1 := A1.out.2.1
  have c2 := A1.out.2.2
  have d0 := A2.out.1
  have d1 := A2.out.2.1
  have d2 := A2.out.2.2
  go_wp2_with fail
  refine (HR2.out _).mono ?_
  rintro e w2 ⟨rfl, hb⟩
  obtain ⟨A1, A2, Z1, Z2, B0⟩ := V3.on A1 A2 Z1 Z2 B0 hb
  clear hb c0 c1 c2 d0 d1 d2
  have c0 := A1.out.1
  have c1 := A1.out.2.1
  have c2 := A1.out.2.2
  have d0 := A2.out.1
  have d1 := A2.out.2.1
  have d2 := A2.out.2.2
  go_wp2_with fail
  refine (HC.out _).mono ?_
  rintro e w3 ⟨rfl, hb⟩
  obtain ⟨A1, A2, Z1, Z2, B0⟩ := V3.on A1 A2 Z1 Z2 B0 hb
  clear hb c0 c1 c2 d0 d1 d2
  have c0 := A1.out.1
  have c1 := A1.out.2.1
  have c2 := A1.out.2.2
  have d0 := A2.out.1
  have d1 := A2.out.2.1
  have d2 := A2.out.2.2
  go_wp2
  go_ret2
  exact ⟨rfl, B0.out⟩

theorem cmpV_vals (k n : Int) (s : ByteArray) (k' n' : Int) (s' : ByteArray) : cmpV k n s k' n' s' = -1 ∨ cmpV k n s k' n' s' = 0 ∨ cmpV k n s k' n' s' = 1 := by
  unfold cmpV
  rcases cmp3_three k k' with ⟨_, h⟩ | ⟨_, h⟩ | ⟨_, h⟩ <;> rcases cmp3_three n n' with ⟨_, h'⟩ | ⟨_, h'⟩ | ⟨_, h'⟩ <;> rcases cmpS_three s s' with ⟨_, h'', _⟩ | ⟨_, h'', _⟩ | ⟨_, h'', _⟩ <;> rw [h, h', h''] <;> decide

theorem reftest_any (op k n : Int) (s : ByteArray) (k' n' : Int) (s' : ByteArray) (w : World) : Calls Try.prog 22 #[.int .i64 op, .agg #[.int .i64 k, .int .i64 n, .string s], .agg #[.int .i64 k', .int .i64 n', .string s']] w (Told w (tstT op k n s k' n' s') (tstE op k n s k' n' s')) := by
  unfold tstT tstE
  by_cases hz : askd op 7 k n s k' n' s' = 0
  · obtain ⟨o1, o2, r1, r2⟩ := askd_zero hz
    have q0 : ¬ (askd op 7 k n s k' n' s' ≠ 0) := fun h => h hz
    rw [if_neg q0, if_neg q0]
    have b0 : ¬ op < 1 := by omega
    have b6 : ¬ 6 < op := by omega
    by_cases h1 : k = 1
    · subst h1
      rw [if_pos (.inl rfl), if_pos (.inl rfl)]
      exact reft_null1 op n s k' n' s' w b0 b6 r1 r2
    · by_cases h2 : k' = 1
      · subst h2
        rw [if_pos (.inr rfl), if_pos (.inr rfl)]
        exact reft_null2 op k n s n' s' w b0 b6 r1 r2 (by simp [h1])
      · have q : ¬ (k = 1 ∨ k' = 1) := by omega
        rw [if_neg q, if_neg q]
        by_cases h3 : k = k'
        · subst h3
          by_cases h4 : k = 2
          · subst h4
            by_cases h5 : 2 < op
            · have q : ((2 : Int) ≠ 2 ∨ ((2 : Int) = 2 ∧ op ≠ 1 ∧ op ≠ 2)) := by omega
              rw [if_pos q, if_pos q]
              exact reft_type2 op n s n' s' w b0 b6 h5 r1 r2
            · have q : ¬ ((2 : Int) ≠ 2 ∨ ((2 : Int) = 2 ∧ op ≠ 1 ∧ op ≠ 2)) := by omega
              rw [if_neg q, if_neg q]
              rcases (show op = 1 ∨ op = 2 by omega) with rfl | rfl <;> rcases cmpV_vals 2 n s 2 n' s' with hc | hc | hc
              · rw [hc]; exact reft_1mb n s n' s' w r1 r2 hc
              · rw [hc]; exact reft_1zb n s n' s' w r1 r2 hc
              · rw [hc]; exact reft_1pb n s n' s' w r1 r2 hc
              · rw [hc]; exact reft_2mb n s n' s' w r1 r2 hc
              · rw [hc]; exact reft_2zb n s n' s' w r1 r2 hc
              · rw [hc]; exact reft_2pb n s n' s' w r1 r2 hc
          · have q : ¬ (k ≠ k ∨ (k = 2 ∧ op ≠ 1 ∧ op ≠ 2)) := by omega
            rw [if_neg q, if_neg q]
            have h4' : (k == 2) = false := by simp [h4]
            have h1' : (k == 1) = false := by simp [h1]
            rcases (show op = 1 ∨ op = 2 ∨ op = 3 ∨ op = 4 ∨ op = 5 ∨ op = 6 by omega) with rfl | rfl | rfl | rfl | rfl | rfl <;> rcases cmpV_vals k n s k n' s' with hc | hc | hc
            · rw [hc]; exact reft_1m k n s n' s' w r1 r2 h1' h4' hc
            · rw [hc]; exact reft_1z k n s n' s' w r1 r2 h1' h4' hc
            · rw [hc]; exact reft_1p k n s n' s' w r1 r2 h1' h4' hc
            · rw [hc]; exact reft_2m k n s n' s' w r1 r2 h1' h4' hc
            · rw [hc]; exact reft_2z k n s n' s' w r1 r2 h1' h4' hc
            · rw [hc]; exact reft_2p k n s n' s' w r1 r2 h1' h4' hc
            · rw [hc]; exact reft_3m k n s n' s' w r1 r2 h1' h4' hc
            · rw [hc]; exact reft_3z k n s n' s' w r1 r2 h1' h4' hc
            · rw [hc]; exact reft_3p k n s n' s' w r1 r2 h1' h4' hc
            · rw [hc]; exact reft_4m k n s n' s' w r1 r2 h1' h4' hc
            · rw [hc]; exact reft_4z k n s n' s' w r1 r2 h1' h4' hc
            · rw [hc]; exact reft_4p k n s n' s' w r1 r2 h1' h4' hc
            · rw [hc]; exact reft_5m k n s n' s' w r1 r2 h1' h4' hc
            · rw [hc]; exact reft_5z k n s n' s' w r1 r2 h1' h4' hc
            · rw [hc]; exact reft_5p k n s n' s' w r1 r2 h1' h4' hc
            · rw [hc]; exact reft_6m k n s n' s' w r1 r2 h1' h4' hc
            · rw [hc]; exact reft_6z k n s n' s' w r1 r2 h1' h4' hc
            · rw [hc]; exact reft_6p k n s n' s' w r1 r2 h1' h4' hc
        · have q : (k ≠ k' ∨ (k = 2 ∧ op ≠ 1 ∧ op ≠ 2)) := .inl h3
          rw [if_pos q, if_pos q]
          exact reft_type1 op k n s k' n' s' w b0 b6 r1 r2 (by simp [h1]) (by simp [h2]) (by simp [h3])
  · rw [if_pos hz, if_pos hz]
    unfold askd chk
    by_cases h1 : op < 1
    · rw [if_pos (.inl h1)]
      exact reft_low op k n s k' n' s' w h1
    · by_cases h2 : 7 ≤ op
      · rw [if_pos (.inr h2)]
        exact reft_high op k n s k' n' s' w h1 (by omega)
      · rw [if_neg (by omega)]
        cases r1 : Rt k n s with
        | false => rw [if_neg (by decide)]; exact reft_bad1 op k n s k' n' s' w h1 (by omega) r1
        | true =>
          rw [if_pos rfl]
          cases r2 : Rt k' n' s' with
          | false => rw [if_neg (by decide)]; exact reft_bad2 op k n s k' n' s' w h1 (by omega) r1 r2
          | true => exact absurd (show askd op 7 k n s k' n' s' = 0 by unfold askd chk; rw [if_neg (by omega), if_pos r1, if_pos r2]) hz

end Go.Proofs.Ytndkoefchlclkaa
