/-
  The document's Reckon: numbers.
-/
import Derived.Test.YtndkoefchlclkaaY1
namespace Go.Proofs.Ytndkoefchlclkaa
open Go.RowKit
attribute [local go_sem ↓] eqV neV eqG

set_option maxRecDepth 100000 in
set_option maxHeartbeats 1000000 in
theorem rr_zero4 (n : Int) (s : ByteArray) (n' : Int) (s' : ByteArray) (w : World) (hr : Rt 3 n s = true) (hr' : Rt 3 n' s' = true) (hz : (n' == 0) = true) : Calls Try.prog 24 #[.int .i64 4, .agg #[.int .i64 3, .int .i64 n, .string s], .agg #[.int .i64 3, .int .i64 n', .string s']] w (Told3 w 0 0 152) := by
  have i3 := Lib.hid i23
  have HR := Lib.hid (fun w => right_any 3 n s w)
  rw [hr] at HR
  clear hr
  have HR2 := Lib.hid (fun w => right_any 3 n' s' w)
  rw [hr'] at HR2
  clear hr'
  unfold Told3
  go_enter Try.func24, Try.ntmps24
  go_upto_region 2 with (fail)
  have T0 := FourV.boxes (w := w) (k := 3) (n := n) (s := s) (k' := 3) (n' := n') (s' := s') rfl
  generalize (((w.alloc (.cells #[.int .i64 3, .int .i64 n, .string s] 23)).alloc (.cells #[.int .i64 3, .int .i64 n', .string s'] 23)).alloc (.cells #[.int .i64 0, .int .i64 0, .string { data := #[] }] 23)).alloc (.cells #[.int .i64 0, .int .i64 0, .string { data := #[] }] 23) = W0 at *
  obtain ⟨c0, c1, c2, d0, d1, d2⟩ := T0.six
  obtain ⟨g0, g1, g2, q0, q1, q2, z0, z1, z2⟩ := T0.rest
  go_wp2_with fail
  refine (HR.out _).mono ?_
  rintro e w1 ⟨rfl, hb⟩
  have T1 := T0.on hb
  clear hb T0 c0 c1 c2 d0 d1 d2 g0 g1 g2 q0 q1 q2 z0 z1 z2
  obtain ⟨c0, c1, c2, d0, d1, d2⟩ := T1.six
  obtain ⟨g0, g1, g2, q0, q1, q2, z0, z1, z2⟩ := T1.rest
  go_wp2_with fail
  refine (HR2.out _).mono ?_
  rintro e w2 ⟨rfl, hb⟩
  have T2 := T1.on hb
  clear hb T1 c0 c1 c2 d0 d1 d2 g0 g1 g2 q0 q1 q2 z0 z1 z2
  obtain ⟨c0, c1, c2, d0, d1, d2⟩ := T2.six
  obtain ⟨g0, g1, g2, q0, q1, q2, z0, z1, z2⟩ := T2.rest
  go_wp2_with fail
  go_quiet (fail)
  generalize hq : w2.drewN _ = w3
  have T3 := T2.drewN _ hq
  clear hq T2 c0 c1 c2 d0 d1 d2 g0 g1 g2 q0 q1 q2 z0 z1 z2
  obtain ⟨c0, c1, c2, d0, d1, d2⟩ := T3.six
  obtain ⟨g0, g1, g2, q0, q1, q2, z0, z1, z2⟩ := T3.rest
  go_wp2
  exact bodyPost_ret (ret_cell_tmp (p := 6) (u := 7) (ty := 23) rfl _ _ (w.heap.size + 1 + 1) 23 #[.int .i64 0, .int .i64 0, .string E0] _ rfl (((T3.out.set_ 0 (.int .i64 0)).set_ 1 (.int .i64 0)).set_ 2 (.string E0)) Try.underlying23 rfl i3.out) rfl ⟨rfl, (((T3.two.bel.setCell (le2 w) _).setCell (le2 w) _).setCell (le2 w) _)⟩

set_option maxRecDepth 100000 in
set_option maxHeartbeats 1000000 in
theorem rr_zero5 (n : Int) (s : ByteArray) (n' : Int) (s' : ByteArray) (w : World) (hr : Rt 3 n s = true) (hr' : Rt 3 n' s' = true) (hz : (n' == 0) = true) : Calls Try.prog 24 #[.int .i64 5, .agg #[.int .i64 3, .int .i64 n, .string s], .agg #[.int .i64 3, .int .i64 n', .string s']] w (Told3 w 0 0 152) := by
  have i3 := Lib.hid i23
  have HR := Lib.hid (fun w => right_any 3 n s w)
  rw [hr] at HR
  clear hr
  have HR2 := Lib.hid (fun w => right_any 3 n' s' w)
  rw [hr'] at HR2
  clear hr'
  unfold Told3
  go_enter Try.func24, Try.ntmps24
  go_upto_region 2 with (fail)
  have T0 := FourV.boxes (w := w) (k := 3) (n := n) (s := s) (k' := 3) (n' := n') (s' := s') rfl
  generalize (((w.alloc (.cells #[.int .i64 3, .int .i64 n, .string s] 23)).alloc (.cells #[.int .i64 3, .int .i64 n', .string s'] 23)).alloc (.cells #[.int .i64 0, .int .i64 0, .string { data := #[] }] 23)).alloc (.cells #[.int .i64 0, .int .i64 0, .string { data := #[] }] 23) = W0 at *
  obtain ⟨c0, c1, c2, d0, d1, d2⟩ := T0.six
  obtain ⟨g0, g1, g2, q0, q1, q2, z0, z1, z2⟩ := T0.rest
  go_wp2_with fail
  refine (HR.out _).mono ?_
  rintro e w1 ⟨rfl, hb⟩
  have T1 := T0.on hb
  clear hb T0 c0 c1 c2 d0 d1 d2 g0 g1 g2 q0 q1 q2 z0 z1 z2
  obtain ⟨c0, c1, c2, d0, d1, d2⟩ := T1.six
  obtain ⟨g0, g1, g2, q0, q1, q2, z0, z1, z2⟩ := T1.rest
  go_wp2_with fail
  refine (HR2.out _).mono ?_
  rintro e w2 ⟨rfl, hb⟩
  have T2 := T1.on hb
  clear hb T1 c0 c1 c2 d0 d1 d2 g0 g1 g2 q0 q1 q2 z0 z1 z2
  obtain ⟨c0, c1, c2, d0, d1, d2⟩ := T2.six
  obtain ⟨g0, g1, g2, q0, q1, q2, z0, z1, z2⟩ := T2.rest
  go_wp2_with fail
  go_quiet (fail)
  generalize hq : w2.drewN _ = w3
  have T3 := T2.drewN _ hq
  clear hq T2 c0 c1 c2 d0 d1 d2 g0 g1 g2 q0 q1 q2 z0 z1 z2
  obtain ⟨c0, c1, c2, d0, d1, d2⟩ := T3.six
  obtain ⟨g0, g1, g2, q0, q1, q2, z0, z1, z2⟩ := T3.rest
  go_wp2
  exact bodyPost_ret (ret_cell_tmp (p := 6) (u := 7) (ty := 23) rfl _ _ (w.heap.size + 1 + 1) 23 #[.int .i64 0, .int .i64 0, .string E0] _ rfl (((T3.out.set_ 0 (.int .i64 0)).set_ 1 (.int .i64 0)).set_ 2 (.string E0)) Try.underlying23 rfl i3.out) rfl ⟨rfl, (((T3.two.bel.setCell (le2 w) _).setCell (le2 w) _).setCell (le2 w) _)⟩

set_option maxRecDepth 100000 in
set_option maxHeartbeats 1000000 in
theorem rr_1_00_0 (n : Int) (s : ByteArray) (n' : Int) (s' : ByteArray) (w : World) (a b S : Nat) (m : Int) (HS1 : Hid (∀ w, Calls Try.prog 48 #[.int .i64 n] w fun e w' => e = .returned (.int .u64 (a : Int)) ∧ w = w')) (HS2 : Hid (∀ w, Calls Try.prog 48 #[.int .i64 n'] w fun e w' => e = .returned (.int .u64 (b : Int)) ∧ w = w')) (hr : Rt 3 n s = true) (hr' : Rt 3 n' s' = true) (hs : decide (n < 0) = false) (ht : decide (n' < 0) = false) (hS : IntKind.u64.wrap ((a : Int) + (b : Int)) = (S : Int)) (hc : ¬ (S : Int) < (a : Int)) (HG : Hid (∀ w, Calls Try.prog 49 #[.int .u64 0, .int .u64 (S : Int), .bool false] w fun e w' => e = .returned (.tuple #[.int .i64 (ovN m), .bool (decide (I64 m))]) ∧ w = w')) : Calls Try.prog 24 #[.int .i64 1, .agg #[.int .i64 3, .int .i64 n, .string s], .agg #[.int .i64 3, .int .i64 n', .string s']] w (Told3 w (rK m) (rN m) (ovE m)) := by
  have i3 := Lib.hid i23
  have HR := Lib.hid (fun w => right_any 3 n s w)
  rw [hr] at HR
  clear hr
  have HR2 := Lib.hid (fun w => right_any 3 n' s' w)
  rw [hr'] at HR2
  clear hr'
  unfold Told3
  go_enter Try.func24, Try.ntmps24
  go_upto_region 2 with (fail)
  have T0 := FourV.boxes (w := w) (k := 3) (n := n) (s := s) (k' := 3) (n' := n') (s' := s') rfl
  generalize (((w.alloc (.cells #[.int .i64 3, .int .i64 n, .string s] 23)).alloc (.cells #[.int .i64 3, .int .i64 n', .string s'] 23)).alloc (.cells #[.int .i64 0, .int .i64 0, .string { data := #[] }] 23)).alloc (.cells #[.int .i64 0, .int .i64 0, .string { data := #[] }] 23) = W0 at *
  obtain ⟨c0, c1, c2, d0, d1, d2⟩ := T0.six
  obtain ⟨g0, g1, g2, q0, q1, q2, z0, z1, z2⟩ := T0.rest
  go_wp2_with fail
  refine (HR.out _).mono ?_
  rintro e w1 ⟨rfl, hb⟩
  have T1 := T0.on hb
  clear hb T0 c0 c1 c2 d0 d1 d2 g0 g1 g2 q0 q1 q2 z0 z1 z2
  obtain ⟨c0, c1, c2, d0, d1, d2⟩ := T1.six
  obtain ⟨g0, g1, g2, q0, q1, q2, z0, z1, z2⟩ := T1.rest
  go_wp2_with fail
  refine (HR2.out _).mono ?_
  rintro e w2 ⟨rfl, hb⟩
  have T2 := T1.on hb
  clear hb T1 c0 c1 c2 d0 d1 d2 g0 g1 g2 q0 q1 q2 z0 z1 z2
  obtain ⟨c0, c1, c2, d0, d1, d2⟩ := T2.six
  obtain ⟨g0, g1, g2, q0, q1, q2, z0, z1, z2⟩ := T2.rest
  go_wp2_with fail
  go_quiet (fail)
  generalize hq : w2.drewN _ = w3
  have T3 := T2.drewN _ hq
  clear hq T2 c0 c1 c2 d0 d1 d2 g0 g1 g2 q0 q1 q2 z0 z1 z2
  obtain ⟨c0, c1, c2, d0, d1, d2⟩ := T3.six
  obtain ⟨g0, g1, g2, q0, q1, q2, z0, z1, z2⟩ := T3.rest
  go_wp2_with (first | (go_at_call_of 48 (Value.int .i64 n); refine (HS1.out _).mono ?_; rintro e w' ⟨rfl, rfl⟩) | (go_at_call_of 48 (Value.int .i64 n'); refine (HS2.out _).mono ?_; rintro e w' ⟨rfl, rfl⟩))
  refine (HG.out _).mono ?_
  rintro e w4 ⟨rfl, rfl⟩
  by_cases hI : I64 m
  · have e1 := Lib.hid (show ovN m = m from if_pos hI)
    rw [e1.out, decide_eq_true hI]
    have HI := Lib.hid hI
    clear hI
    go_wp2
    exact bodyPost_ret (ret_cell_tmp (p := 6) (u := 7) (ty := 23) rfl _ _ (w.heap.size + 1 + 1) 23 #[.int .i64 3, .int .i64 m, .string E0] _ rfl (((T3.out.set_ 0 (.int .i64 3)).set_ 1 (.int .i64 m)).set_ 2 (.string E0)) Try.underlying23 rfl i3.out) rfl ⟨rk_yes HI.out, (((T3.two.bel.setCell (le2 w) _).setCell (le2 w) _).setCell (le2 w) _)⟩
  · rw [decide_eq_false hI]
    have HI := Lib.hid hI
    clear hI
    go_wp2
    exact bodyPost_ret (ret_cell_tmp (p := 6) (u := 7) (ty := 23) rfl _ _ (w.heap.size + 1 + 1) 23 #[.int .i64 0, .int .i64 0, .string E0] _ rfl (((T3.out.set_ 0 (.int .i64 0)).set_ 1 (.int .i64 0)).set_ 2 (.string E0)) Try.underlying23 rfl i3.out) rfl ⟨rk_no HI.out, (((T3.two.bel.setCell (le2 w) _).setCell (le2 w) _).setCell (le2 w) _)⟩

set_option maxRecDepth 100000 in
set_option maxHeartbeats 1000000 in
theorem rr_1_00_1 (n : Int) (s : ByteArray) (n' : Int) (s' : ByteArray) (w : World) (a b S : Nat) (m : Int) (HS1 : Hid (∀ w, Calls Try.prog 48 #[.int .i64 n] w fun e w' => e = .returned (.int .u64 (a : Int)) ∧ w = w')) (HS2 : Hid (∀ w, Calls Try.prog 48 #[.int .i64 n'] w fun e w' => e = .returned (.int .u64 (b : Int)) ∧ w = w')) (hr : Rt 3 n s = true) (hr' : Rt 3 n' s' = true) (hs : decide (n < 0) = false) (ht : decide (n' < 0) = false) (hS : IntKind.u64.wrap ((a : Int) + (b : Int)) = (S : Int)) (hc : (S : Int) < (a : Int)) (HG : Hid (∀ w, Calls Try.prog 49 #[.int .u64 1, .int .u64 (S : Int), .bool false] w fun e w' => e = .returned (.tuple #[.int .i64 (ovN m), .bool (decide (I64 m))]) ∧ w = w')) : Calls Try.prog 24 #[.int .i64 1, .agg #[.int .i64 3, .int .i64 n, .string s], .agg #[.int .i64 3, .int .i64 n', .string s']] w (Told3 w (rK m) (rN m) (ovE m)) := by
  have i3 := Lib.hid i23
  have HR := Lib.hid (fun w => right_any 3 n s w)
  rw [hr] at HR
  clear hr
  have HR2 := Lib.hid (fun w => right_any 3 n' s' w)
  rw [hr'] at HR2
  clear hr'
  unfold Told3
  go_enter Try.func24, Try.ntmps24
  go_upto_region 2 with (fail)
  have T0 := FourV.boxes (w := w) (k := 3) (n := n) (s := s) (k' := 3) (n' := n') (s' := s') rfl
  generalize (((w.alloc (.cells #[.int .i64 3, .int .i64 n, .string s] 23)).alloc (.cells #[.int .i64 3, .int .i64 n', .string s'] 23)).alloc (.cells #[.int .i64 0, .int .i64 0, .string { data := #[] }] 23)).alloc (.cells #[.int .i64 0, .int .i64 0, .string { data := #[] }] 23) = W0 at *
  obtain ⟨c0, c1, c2, d0, d1, d2⟩ := T0.six
  obtain ⟨g0, g1, g2, q0, q1, q2, z0, z1, z2⟩ := T0.rest
  go_wp2_with fail
  refine (HR.out _).mono ?_
  rintro e w1 ⟨rfl, hb⟩
  have T1 := T0.on hb
  clear hb T0 c0 c1 c2 d0 d1 d2 g0 g1 g2 q0 q1 q2 z0 z1 z2
  obtain ⟨c0, c1, c2, d0, d1, d2⟩ := T1.six
  obtain ⟨g0, g1, g2, q0, q1, q2, z0, z1, z2⟩ := T1.rest
  go_wp2_with fail
  refine (HR2.out _).mono ?_
  rintro e w2 ⟨rfl, hb⟩
  have T2 := T1.on hb
  clear hb T1 c0 c1 c2 d0 d1 d2 g0 g1 g2 q0 q1 q2 z0 z1 z2
  obtain ⟨c0, c1, c2, d0, d1, d2⟩ := T2.six
  obtain ⟨g0, g1, g2, q0, q1, q2, z0, z1, z2⟩ := T2.rest
  go_wp2_with fail
  go_quiet (fail)
  generalize hq : w2.drewN _ = w3
  have T3 := T2.drewN _ hq
  clear hq T2 c0 c1 c2 d0 d1 d2 g0 g1 g2 q0 q1 q2 z0 z1 z2
  obtain ⟨c0, c1, c2, d0, d1, d2⟩ := T3.six
  obtain ⟨g0, g1, g2, q0, q1, q2, z0, z1, z2⟩ := T3.rest
  go_wp2_with (first | (go_at_call_of 48 (Value.int .i64 n); refine (HS1.out _).mono ?_; rintro e w' ⟨rfl, rfl⟩) | (go_at_call_of 48 (Value.int .i64 n'); refine (HS2.out _).mono ?_; rintro e w' ⟨rfl, rfl⟩))
  refine (HG.out _).mono ?_
  rintro e w4 ⟨rfl, rfl⟩
  by_cases hI : I64 m
  · have e1 := Lib.hid (show ovN m = m from if_pos hI)
    rw [e1.out, decide_eq_true hI]
    have HI := Lib.hid hI
    clear hI
    go_wp2
    exact bodyPost_ret (ret_cell_tmp (p := 6) (u := 7) (ty := 23) rfl _ _ (w.heap.size + 1 + 1) 23 #[.int .i64 3, .int .i64 m, .string E0] _ rfl (((T3.out.set_ 0 (.int .i64 3)).set_ 1 (.int .i64 m)).set_ 2 (.string E0)) Try.underlying23 rfl i3.out) rfl ⟨rk_yes HI.out, (((T3.two.bel.setCell (le2 w) _).setCell (le2 w) _).setCell (le2 w) _)⟩
  · rw [decide_eq_false hI]
    have HI := Lib.hid hI
    clear hI
    go_wp2
    exact bodyPost_ret (ret_cell_tmp (p := 6) (u := 7) (ty := 23) rfl _ _ (w.heap.size + 1 + 1) 23 #[.int .i64 0, .int .i64 0, .string E0] _ rfl (((T3.out.set_ 0 (.int .i64 0)).set_ 1 (.int .i64 0)).set_ 2 (.string E0)) Try.underlying23 rfl i3.out) rfl ⟨rk_no HI.out, (((T3.two.bel.setCell (le2 w) _).setCell (le2 w) _).setCell (le2 w) _)⟩

set_option maxRecDepth 100000 in
set_option maxHeartbeats 1000000 in
theorem rr_1_01_g (n : Int) (s : ByteArray) (n' : Int) (s' : ByteArray) (w : World) (a b S : Nat) (m : Int) (HS1 : Hid (∀ w, Calls Try.prog 48 #[.int .i64 n] w fun e w' => e = .returned (.int .u64 (a : Int)) ∧ w = w')) (HS2 : Hid (∀ w, Calls Try.prog 48 #[.int .i64 n'] w fun e w' => e = .returned (.int .u64 (b : Int)) ∧ w = w')) (hr : Rt 3 n s = true) (hr' : Rt 3 n' s' = true) (hs : decide (n < 0) = false) (ht : decide (n' < 0) = true) (hS : IntKind.u64.wrap ((a : Int) - (b : Int)) = (S : Int)) (hc : (b : Int) ≤ (a : Int)) (HG : Hid (∀ w, Calls Try.prog 49 #[.int .u64 0, .int .u64 (S : Int), .bool false] w fun e w' => e = .returned (.tuple #[.int .i64 (ovN m), .bool (decide (I64 m))]) ∧ w = w')) : Calls Try.prog 24 #[.int .i64 1, .agg #[.int .i64 3, .int .i64 n, .string s], .agg #[.int .i64 3, .int .i64 n', .string s']] w (Told3 w (rK m) (rN m) (ovE m)) := by
  have i3 := Lib.hid i23
  have HR := Lib.hid (fun w => right_any 3 n s w)
  rw [hr] at HR
  clear hr
  have HR2 := Lib.hid (fun w => right_any 3 n' s' w)
  rw [hr'] at HR2
  clear hr'
  unfold Told3
  go_enter Try.func24, Try.ntmps24
  go_upto_region 2 with (fail)
  have T0 := FourV.boxes (w := w) (k := 3) (n := n) (s := s) (k' := 3) (n' := n') (s' := s') rfl
  generalize (((w.alloc (.cells #[.int .i64 3, .int .i64 n, .string s] 23)).alloc (.cells #[.int .i64 3, .int .i64 n', .string s'] 23)).alloc (.cells #[.int .i64 0, .int .i64 0, .string { data := #[] }] 23)).alloc (.cells #[.int .i64 0, .int .i64 0, .string { data := #[] }] 23) = W0 at *
  obtain ⟨c0, c1, c2, d0, d1, d2⟩ := T0.six
  obtain ⟨g0, g1, g2, q0, q1, q2, z0, z1, z2⟩ := T0.rest
  go_wp2_with fail
  refine (HR.out _).mono ?_
  rintro e w1 ⟨rfl, hb⟩
  have T1 := T0.on hb
  clear hb T0 c0 c1 c2 d0 d1 d2 g0 g1 g2 q0 q1 q2 z0 z1 z2
  obtain ⟨c0, c1, c2, d0, d1, d2⟩ := T1.six
  obtain ⟨g0, g1, g2, q0, q1, q2, z0, z1, z2⟩ := T1.rest
  go_wp2_with fail
  refine (HR2.out _).mono ?_
  rintro e w2 ⟨rfl, hb⟩
  have T2 := T1.on hb
  clear hb T1 c0 c1 c2 d0 d1 d2 g0 g1 g2 q0 q1 q2 z0 z1 z2
  obtain ⟨c0, c1, c2, d0, d1, d2⟩ := T2.six
  obtain ⟨g0, g1, g2, q0, q1, q2, z0, z1, z2⟩ := T2.rest
  go_wp2_with fail
  go_quiet (fail)
  generalize hq : w2.drewN _ = w3
  have T3 := T2.drewN _ hq
  clear hq T2 c0 c1 c2 d0 d1 d2 g0 g1 g2 q0 q1 q2 z0 z1 z2
  obtain ⟨c0, c1, c2, d0, d1, d2⟩ := T3.six
  obtain ⟨g0, g1, g2, q0, q1, q2, z0, z1, z2⟩ := T3.rest
  go_wp2_with (first | (go_at_call_of 48 (Value.int .i64 n); refine (HS1.out _).mono ?_; rintro e w' ⟨rfl, rfl⟩) | (go_at_call_of 48 (Value.int .i64 n'); refine (HS2.out _).mono ?_; rintro e w' ⟨rfl, rfl⟩))
  refine (HG.out _).mono ?_
  rintro e w4 ⟨rfl, rfl⟩
  by_cases hI : I64 m
  · have e1 := Lib.hid (show ovN m = m from if_pos hI)
    rw [e1.out, decide_eq_true hI]
    have HI := Lib.hid hI
    clear hI
    go_wp2
    exact bodyPost_ret (ret_cell_tmp (p := 6) (u := 7) (ty := 23) rfl _ _ (w.heap.size + 1 + 1) 23 #[.int .i64 3, .int .i64 m, .string E0] _ rfl (((T3.out.set_ 0 (.int .i64 3)).set_ 1 (.int .i64 m)).set_ 2 (.string E0)) Try.underlying23 rfl i3.out) rfl ⟨rk_yes HI.out, (((T3.two.bel.setCell (le2 w) _).setCell (le2 w) _).setCell (le2 w) _)⟩
  · rw [decide_eq_false hI]
    have HI := Lib.hid hI
    clear hI
    go_wp2
    exact bodyPost_ret (ret_cell_tmp (p := 6) (u := 7) (ty := 23) rfl _ _ (w.heap.size + 1 + 1) 23 #[.int .i64 0, .int .i64 0, .string E0] _ rfl (((T3.out.set_ 0 (.int .i64 0)).set_ 1 (.int .i64 0)).set_ 2 (.string E0)) Try.underlying23 rfl i3.out) rfl ⟨rk_no HI.out, (((T3.two.bel.setCell (le2 w) _).setCell (le2 w) _).setCell (le2 w) _)⟩

set_option maxRecDepth 100000 in
set_option maxHeartbeats 1000000 in
theorem rr_1_01_l (n : Int) (s : ByteArray) (n' : Int) (s' : ByteArray) (w : World) (a b S : Nat) (m : Int) (HS1 : Hid (∀ w, Calls Try.prog 48 #[.int .i64 n] w fun e w' => e = .returned (.int .u64 (a : Int)) ∧ w = w')) (HS2 : Hid (∀ w, Calls Try.prog 48 #[.int .i64 n'] w fun e w' => e = .returned (.int .u64 (b : Int)) ∧ w = w')) (hr : Rt 3 n s = true) (hr' : Rt 3 n' s' = true) (hs : decide (n < 0) = false) (ht : decide (n' < 0) = true) (hS : IntKind.u64.wrap ((b : Int) - (a : Int)) = (S : Int)) (hc : ¬ (b : Int) ≤ (a : Int)) (HG : Hid (∀ w, Calls Try.prog 49 #[.int .u64 0, .int .u64 (S : Int), .bool true] w fun e w' => e = .returned (.tuple #[.int .i64 (ovN m), .bool (decide (I64 m))]) ∧ w = w')) : Calls Try.prog 24 #[.int .i64 1, .agg #[.int .i64 3, .int .i64 n, .string s], .agg #[.int .i64 3, .int .i64 n', .string s']] w (Told3 w (rK m) (rN m) (ovE m)) := by
  have i3 := Lib.hid i23
  have HR := Lib.hid (fun w => right_any 3 n s w)
  rw [hr] at HR
  clear hr
  have HR2 := Lib.hid (fun w => right_any 3 n' s' w)
  rw [hr'] at HR2
  clear hr'
  unfold Told3
  go_enter Try.func24, Try.ntmps24
  go_upto_region 2 with (fail)
  have T0 := FourV.boxes (w := w) (k := 3) (n := n) (s := s) (k' := 3) (n' := n') (s' := s') rfl
  generalize (((w.alloc (.cells #[.int .i64 3, .int .i64 n, .string s] 23)).alloc (.cells #[.int .i64 3, .int .i64 n', .string s'] 23)).alloc (.cells #[.int .i64 0, .int .i64 0, .string { data := #[] }] 23)).alloc (.cells #[.int .i64 0, .int .i64 0, .string { data := #[] }] 23) = W0 at *
  obtain ⟨c0, c1, c2, d0, d1, d2⟩ := T0.six
  obtain ⟨g0, g1, g2, q0, q1, q2, z0, z1, z2⟩ := T0.rest
  go_wp2_with fail
  refine (HR.out _).mono ?_
  rintro e w1 ⟨rfl, hb⟩
  have T1 := T0.on hb
  clear hb T0 c0 c1 c2 d0 d1 d2 g0 g1 g2 q0 q1 q2 z0 z1 z2
  obtain ⟨c0, c1, c2, d0, d1, d2⟩ := T1.six
  obtain ⟨g0, g1, g2, q0, q1, q2, z0, z1, z2⟩ := T1.rest
  go_wp2_with fail
  refine (HR2.out _).mono ?_
  rintro e w2 ⟨rfl, hb⟩
  have T2 := T1.on hb
  clear hb T1 c0 c1 c2 d0 d1 d2 g0 g1 g2 q0 q1 q2 z0 z1 z2
  obtain ⟨c0, c1, c2, d0, d1, d2⟩ := T2.six
  obtain ⟨g0, g1, g2, q0, q1, q2, z0, z1, z2⟩ := T2.rest
  go_wp2_with fail
  go_quiet (fail)
  generalize hq : w2.drewN _ = w3
  have T3 := T2.drewN _ hq
  clear hq T2 c0 c1 c2 d0 d1 d2 g0 g1 g2 q0 q1 q2 z0 z1 z2
  obtain ⟨c0, c1, c2, d0, d1, d2⟩ := T3.six
  obtain ⟨g0, g1, g2, q0, q1, q2, z0, z1, z2⟩ := T3.rest
  go_wp2_with (first | (go_at_call_of 48 (Value.int .i64 n); refine (HS1.out _).mono ?_; rintro e w' ⟨rfl, rfl⟩) | (go_at_call_of 48 (Value.int .i64 n'); refine (HS2.out _).mono ?_; rintro e w' ⟨rfl, rfl⟩))
  refine (HG.out _).mono ?_
  rintro e w4 ⟨rfl, rfl⟩
  by_cases hI : I64 m
  · have e1 := Lib.hid (show ovN m = m from if_pos hI)
    rw [e1.out, decide_eq_true hI]
    have HI := Lib.hid hI
    clear hI
    go_wp2
    exact bodyPost_ret (ret_cell_tmp (p := 6) (u := 7) (ty := 23) rfl _ _ (w.heap.size + 1 + 1) 23 #[.int .i64 3, .int .i64 m, .string E0] _ rfl (((T3.out.set_ 0 (.int .i64 3)).set_ 1 (.int .i64 m)).set_ 2 (.string E0)) Try.underlying23 rfl i3.out) rfl ⟨rk_yes HI.out, (((T3.two.bel.setCell (le2 w) _).setCell (le2 w) _).setCell (le2 w) _)⟩
  · rw [decide_eq_false hI]
    have HI := Lib.hid hI
    clear hI
    go_wp2
    exact bodyPost_ret (ret_cell_tmp (p := 6) (u := 7) (ty := 23) rfl _ _ (w.heap.size + 1 + 1) 23 #[.int .i64 0, .int .i64 0, .string E0] _ rfl (((T3.out.set_ 0 (.int .i64 0)).set_ 1 (.int .i64 0)).set_ 2 (.string E0)) Try.underlying23 rfl i3.out) rfl ⟨rk_no HI.out, (((T3.two.bel.setCell (le2 w) _).setCell (le2 w) _).setCell (le2 w) _)⟩

set_option maxRecDepth 100000 in
set_option maxHeartbeats 1000000 in
theorem rr_1_10_g (n : Int) (s : ByteArray) (n' : Int) (s' : ByteArray) (w : World) (a b S : Nat) (m : Int) (HS1 : Hid (∀ w, Calls Try.prog 48 #[.int .i64 n] w fun e w' => e = .returned (.int .u64 (a : Int)) ∧ w = w')) (HS2 : Hid (∀ w, Calls Try.prog 48 #[.int .i64 n'] w fun e w' => e = .returned (.int .u64 (b : Int)) ∧ w = w')) (hr : Rt 3 n s = true) (hr' : Rt 3 n' s' = true) (hs : decide (n < 0) = true) (ht : decide (n' < 0) = false) (hS : IntKind.u64.wrap ((a : Int) - (b : Int)) = (S : Int)) (hc : (b : Int) ≤ (a : Int)) (HG : Hid (∀ w, Calls Try.prog 49 #[.int .u64 0, .int .u64 (S : Int), .bool true] w fun e w' => e = .returned (.tuple #[.int .i64 (ovN m), .bool (decide (I64 m))]) ∧ w = w')) : Calls Try.prog 24 #[.int .i64 1, .agg #[.int .i64 3, .int .i64 n, .string s], .agg #[.int .i64 3, .int .i64 n', .string s']] w (Told3 w (rK m) (rN m) (ovE m)) := by
  have i3 := Lib.hid i23
  have HR := Lib.hid (fun w => right_any 3 n s w)
  rw [hr] at HR
  clear hr
  have HR2 := Lib.hid (fun w => right_any 3 n' s' w)
  rw [hr'] at HR2
  clear hr'
  unfold Told3
  go_enter Try.func24, Try.ntmps24
  go_upto_region 2 with (fail)
  have T0 := FourV.boxes (w := w) (k := 3) (n := n) (s := s) (k' := 3) (n' := n') (s' := s') rfl
  generalize (((w.alloc (.cells #[.int .i64 3, .int .i64 n, .string s] 23)).alloc (.cells #[.int .i64 3, .int .i64 n', .string s'] 23)).alloc (.cells #[.int .i64 0, .int .i64 0, .string { data := #[] }] 23)).alloc (.cells #[.int .i64 0, .int .i64 0, .string { data := #[] }] 23) = W0 at *
  obtain ⟨c0, c1, c2, d0, d1, d2⟩ := T0.six
  obtain ⟨g0, g1, g2, q0, q1, q2, z0, z1, z2⟩ := T0.rest
  go_wp2_with fail
  refine (HR.out _).mono ?_
  rintro e w1 ⟨rfl, hb⟩
  have T1 := T0.on hb
  clear hb T0 c0 c1 c2 d0 d1 d2 g0 g1 g2 q0 q1 q2 z0 z1 z2
  obtain ⟨c0, c1, c2, d0, d1, d2⟩ := T1.six
  obtain ⟨g0, g1, g2, q0, q1, q2, z0, z1, z2⟩ := T1.rest
  go_wp2_with fail
  refine (HR2.out _).mono ?_
  rintro e w2 ⟨rfl, hb⟩
  have T2 := T1.on hb
  clear hb T1 c0 c1 c2 d0 d1 d2 g0 g1 g2 q0 q1 q2 z0 z1 z2
  obtain ⟨c0, c1, c2, d0, d1, d2⟩ := T2.six
  obtain ⟨g0, g1, g2, q0, q1, q2, z0, z1, z2⟩ := T2.rest
  go_wp2_with fail
  go_quiet (fail)
  generalize hq : w2.drewN _ = w3
  have T3 := T2.drewN _ hq
  clear hq T2 c0 c1 c2 d0 d1 d2 g0 g1 g2 q0 q1 q2 z0 z1 z2
  obtain ⟨c0, c1, c2, d0, d1, d2⟩ := T3.six
  obtain ⟨g0, g1, g2, q0, q1, q2, z0, z1, z2⟩ := T3.rest
  go_wp2_with (first | (go_at_call_of 48 (Value.int .i64 n); refine (HS1.out _).mono ?_; rintro e w' ⟨rfl, rfl⟩) | (go_at_call_of 48 (Value.int .i64 n'); refine (HS2.out _).mono ?_; rintro e w' ⟨rfl, rfl⟩))
  refine (HG.out _).mono ?_
  rintro e w4 ⟨rfl, rfl⟩
  by_cases hI : I64 m
  · have e1 := Lib.hid (show ovN m = m from if_pos hI)
    rw [e1.out, decide_eq_true hI]
    have HI := Lib.hid hI
    clear hI
    go_wp2
    exact bodyPost_ret (ret_cell_tmp (p := 6) (u := 7) (ty := 23) rfl _ _ (w.heap.size + 1 + 1) 23 #[.int .i64 3, .int .i64 m, .string E0] _ rfl (((T3.out.set_ 0 (.int .i64 3)).set_ 1 (.int .i64 m)).set_ 2 (.string E0)) Try.underlying23 rfl i3.out) rfl ⟨rk_yes HI.out, (((T3.two.bel.setCell (le2 w) _).setCell (le2 w) _).setCell (le2 w) _)⟩
  · rw [decide_eq_false hI]
    have HI := Lib.hid hI
    clear hI
    go_wp2
    exact bodyPost_ret (ret_cell_tmp (p := 6) (u := 7) (ty := 23) rfl _ _ (w.heap.size + 1 + 1) 23 #[.int .i64 0, .int .i64 0, .string E0] _ rfl (((T3.out.set_ 0 (.int .i64 0)).set_ 1 (.int .i64 0)).set_ 2 (.string E0)) Try.underlying23 rfl i3.out) rfl ⟨rk_no HI.out, (((T3.two.bel.setCell (le2 w) _).setCell (le2 w) _).setCell (le2 w) _)⟩

set_option maxRecDepth 100000 in
set_option maxHeartbeats 1000000 in
theorem rr_1_10_l (n : Int) (s : ByteArray) (n' : Int) (s' : ByteArray) (w : World) (a b S : Nat) (m : Int) (HS1 : Hid (∀ w, Calls Try.prog 48 #[.int .i64 n] w fun e w' => e = .returned (.int .u64 (a : Int)) ∧ w = w')) (HS2 : Hid (∀ w, Calls Try.prog 48 #[.int .i64 n'] w fun e w' => e = .returned (.int .u64 (b : Int)) ∧ w = w')) (hr : Rt 3 n s = true) (hr' : Rt 3 n' s' = true) (hs : decide (n < 0) = true) (ht : decide (n' < 0) = false) (hS : IntKind.u64.wrap ((b : Int) - (a : Int)) = (S : Int)) (hc : ¬ (b : Int) ≤ (a : Int)) (HG : Hid (∀ w, Calls Try.prog 49 #[.int .u64 0, .int .u64 (S : Int), .bool false] w fun e w' => e = .returned (.tuple #[.int .i64 (ovN m), .bool (decide (I64 m))]) ∧ w = w')) : Calls Try.prog 24 #[.int .i64 1, .agg #[.int .i64 3, .int .i64 n, .string s], .agg #[.int .i64 3, .int .i64 n', .string s']] w (Told3 w (rK m) (rN m) (ovE m)) := by
  have i3 := Lib.hid i23
  have HR := Lib.hid (fun w => right_any 3 n s w)
  rw [hr] at HR
  clear hr
  have HR2 := Lib.hid (fun w => right_any 3 n' s' w)
  rw [hr'] at HR2
  clear hr'
  unfold Told3
  go_enter Try.func24, Try.ntmps24
  go_upto_region 2 with (fail)
  have T0 := FourV.boxes (w := w) (k := 3) (n := n) (s := s) (k' := 3) (n' := n') (s' := s') rfl
  generalize (((w.alloc (.cells #[.int .i64 3, .int .i64 n, .string s] 23)).alloc (.cells #[.int .i64 3, .int .i64 n', .string s'] 23)).alloc (.cells #[.int .i64 0, .int .i64 0, .string { data := #[] }] 23)).alloc (.cells #[.int .i64 0, .int .i64 0, .string { data := #[] }] 23) = W0 at *
  obtain ⟨c0, c1, c2, d0, d1, d2⟩ := T0.six
  obtain ⟨g0, g1, g2, q0, q1, q2, z0, z1, z2⟩ := T0.rest
  go_wp2_with fail
  refine (HR.out _).mono ?_
  rintro e w1 ⟨rfl, hb⟩
  have T1 := T0.on hb
  clear hb T0 c0 c1 c2 d0 d1 d2 g0 g1 g2 q0 q1 q2 z0 z1 z2
  obtain ⟨c0, c1, c2, d0, d1, d2⟩ := T1.six
  obtain ⟨g0, g1, g2, q0, q1, q2, z0, z1, z2⟩ := T1.rest
  go_wp2_with fail
  refine (HR2.out _).mono ?_
  rintro e w2 ⟨rfl, hb⟩
  have T2 := T1.on hb
  clear hb T1 c0 c1 c2 d0 d1 d2 g0 g1 g2 q0 q1 q2 z0 z1 z2
  obtain ⟨c0, c1, c2, d0, d1, d2⟩ := T2.six
  obtain ⟨g0, g1, g2, q0, q1, q2, z0, z1, z2⟩ := T2.rest
  go_wp2_with fail
  go_quiet (fail)
  generalize hq : w2.drewN _ = w3
  have T3 := T2.drewN _ hq
  clear hq T2 c0 c1 c2 d0 d1 d2 g0 g1 g2 q0 q1 q2 z0 z1 z2
  obtain ⟨c0, c1, c2, d0, d1, d2⟩ := T3.six
  obtain ⟨g0, g1, g2, q0, q1, q2, z0, z1, z2⟩ := T3.rest
  go_wp2_with (first | (go_at_call_of 48 (Value.int .i64 n); refine (HS1.out _).mono ?_; rintro e w' ⟨rfl, rfl⟩) | (go_at_call_of 48 (Value.int .i64 n'); refine (HS2.out _).mono ?_; rintro e w' ⟨rfl, rfl⟩))
  refine (HG.out _).mono ?_
  rintro e w4 ⟨rfl, rfl⟩
  by_cases hI : I64 m
  · have e1 := Lib.hid (show ovN m = m from if_pos hI)
    rw [e1.out, decide_eq_true hI]
    have HI := Lib.hid hI
    clear hI
    go_wp2
    exact bodyPost_ret (ret_cell_tmp (p := 6) (u := 7) (ty := 23) rfl _ _ (w.heap.size + 1 + 1) 23 #[.int .i64 3, .int .i64 m, .string E0] _ rfl (((T3.out.set_ 0 (.int .i64 3)).set_ 1 (.int .i64 m)).set_ 2 (.string E0)) Try.underlying23 rfl i3.out) rfl ⟨rk_yes HI.out, (((T3.two.bel.setCell (le2 w) _).setCell (le2 w) _).setCell (le2 w) _)⟩
  · rw [decide_eq_false hI]
    have HI := Lib.hid hI
    clear hI
    go_wp2
    exact bodyPost_ret (ret_cell_tmp (p := 6) (u := 7) (ty := 23) rfl _ _ (w.heap.size + 1 + 1) 23 #[.int .i64 0, .int .i64 0, .string E0] _ rfl (((T3.out.set_ 0 (.int .i64 0)).set_ 1 (.int .i64 0)).set_ 2 (.string E0)) Try.underlying23 rfl i3.out) rfl ⟨rk_no HI.out, (((T3.two.bel.setCell (le2 w) _).setCell (le2 w) _).setCell (le2 w) _)⟩

set_option maxRecDepth 100000 in
set_option maxHeartbeats 1000000 in
theorem rr_1_11_0 (n : Int) (s : ByteArray) (n' : Int) (s' : ByteArray) (w : World) (a b S : Nat) (m : Int) (HS1 : Hid (∀ w, Calls Try.prog 48 #[.int .i64 n] w fun e w' => e = .returned (.int .u64 (a : Int)) ∧ w = w')) (HS2 : Hid (∀ w, Calls Try.prog 48 #[.int .i64 n'] w fun e w' => e = .returned (.int .u64 (b : Int)) ∧ w = w')) (hr : Rt 3 n s = true) (hr' : Rt 3 n' s' = true) (hs : decide (n < 0) = true) (ht : decide (n' < 0) = true) (hS : IntKind.u64.wrap ((a : Int) + (b : Int)) = (S : Int)) (hc : ¬ (S : Int) < (a : Int)) (HG : Hid (∀ w, Calls Try.prog 49 #[.int .u64 0, .int .u64 (S : Int), .bool true] w fun e w' => e = .returned (.tuple #[.int .i64 (ovN m), .bool (decide (I64 m))]) ∧ w = w')) : Calls Try.prog 24 #[.int .i64 1, .agg #[.int .i64 3, .int .i64 n, .string s], .agg #[.int .i64 3, .int .i64 n', .string s']] w (Told3 w (rK m) (rN m) (ovE m)) := by
  have i3 := Lib.hid i23
  have HR := Lib.hid (fun w => right_any 3 n s w)
  rw [hr] at HR
  clear hr
  have HR2 := Lib.hid (fun w => right_any 3 n' s' w)
  rw [hr'] at HR2
  clear hr'
  unfold Told3
  go_enter Try.func24, Try.ntmps24
  go_upto_region 2 with (fail)
  have T0 := FourV.boxes (w := w) (k := 3) (n := n) (s := s) (k' := 3) (n' := n') (s' := s') rfl
  generalize (((w.alloc (.cells #[.int .i64 3, .int .i64 n, .string s] 23)).alloc (.cells #[.int .i64 3, .int .i64 n', .string s'] 23)).alloc (.cells #[.int .i64 0, .int .i64 0, .string { data := #[] }] 23)).alloc (.cells #[.int .i64 0, .int .i64 0, .string { data := #[] }] 23) = W0 at *
  obtain ⟨c0, c1, c2, d0, d1, d2⟩ := T0.six
  obtain ⟨g0, g1, g2, q0, q1, q2, z0, z1, z2⟩ := T0.rest
  go_wp2_with fail
  refine (HR.out _).mono ?_
  rintro e w1 ⟨rfl, hb⟩
  have T1 := T0.on hb
  clear hb T0 c0 c1 c2 d0 d1 d2 g0 g1 g2 q0 q1 q2 z0 z1 z2
  obtain ⟨c0, c1, c2, d0, d1, d2⟩ := T1.six
  obtain ⟨g0, g1, g2, q0, q1, q2, z0, z1, z2⟩ := T1.rest
  go_wp2_with fail
  refine (HR2.out _).mono ?_
  rintro e w2 ⟨rfl, hb⟩
  have T2 := T1.on hb
  clear hb T1 c0 c1 c2 d0 d1 d2 g0 g1 g2 q0 q1 q2 z0 z1 z2
  obtain ⟨c0, c1, c2, d0, d1, d2⟩ := T2.six
  obtain ⟨g0, g1, g2, q0, q1, q2, z0, z1, z2⟩ := T2.rest
  go_wp2_with fail
  go_quiet (fail)
  generalize hq : w2.drewN _ = w3
  have T3 := T2.drewN _ hq
  clear hq T2 c0 c1 c2 d0 d1 d2 g0 g1 g2 q0 q1 q2 z0 z1 z2
  obtain ⟨c0, c1, c2, d0, d1, d2⟩ := T3.six
  obtain ⟨g0, g1, g2, q0, q1, q2, z0, z1, z2⟩ := T3.rest
  go_wp2_with (first | (go_at_call_of 48 (Value.int .i64 n); refine (HS1.out _).mono ?_; rintro e w' ⟨rfl, rfl⟩) | (go_at_call_of 48 (Value.int .i64 n'); refine (HS2.out _).mono ?_; rintro e w' ⟨rfl, rfl⟩))
  refine (HG.out _).mono ?_
  rintro e w4 ⟨rfl, rfl⟩
  by_cases hI : I64 m
  · have e1 := Lib.hid (show ovN m = m from if_pos hI)
    rw [e1.out, decide_eq_true hI]
    have HI := Lib.hid hI
    clear hI
    go_wp2
    exact bodyPost_ret (ret_cell_tmp (p := 6) (u := 7) (ty := 23) rfl _ _ (w.heap.size + 1 + 1) 23 #[.int .i64 3, .int .i64 m, .string E0] _ rfl (((T3.out.set_ 0 (.int .i64 3)).set_ 1 (.int .i64 m)).set_ 2 (.string E0)) Try.underlying23 rfl i3.out) rfl ⟨rk_yes HI.out, (((T3.two.bel.setCell (le2 w) _).setCell (le2 w) _).setCell (le2 w) _)⟩
  · rw [decide_eq_false hI]
    have HI := Lib.hid hI
    clear hI
    go_wp2
    exact bodyPost_ret (ret_cell_tmp (p := 6) (u := 7) (ty := 23) rfl _ _ (w.heap.size + 1 + 1) 23 #[.int .i64 0, .int .i64 0, .string E0] _ rfl (((T3.out.set_ 0 (.int .i64 0)).set_ 1 (.int .i64 0)).set_ 2 (.string E0)) Try.underlying23 rfl i3.out) rfl ⟨rk_no HI.out, (((T3.two.bel.setCell (le2 w) _).setCell (le2 w) _).setCell (le2 w) _)⟩

set_option maxRecDepth 100000 in
set_option maxHeartbeats 1000000 in
theorem rr_1_11_1 (n : Int) (s : ByteArray) (n' : Int) (s' : ByteArray) (w : World) (a b S : Nat) (m : Int) (HS1 : Hid (∀ w, Calls Try.prog 48 #[.int .i64 n] w fun e w' => e = .returned (.int .u64 (a : Int)) ∧ w = w')) (HS2 : Hid (∀ w, Calls Try.prog 48 #[.int .i64 n'] w fun e w' => e = .returned (.int .u64 (b : Int)) ∧ w = w')) (hr : Rt 3 n s = true) (hr' : Rt 3 n' s' = true) (hs : decide (n < 0) = true) (ht : decide (n' < 0) = true) (hS : IntKind.u64.wrap ((a : Int) + (b : Int)) = (S : Int)) (hc : (S : Int) < (a : Int)) (HG : Hid (∀ w, Calls Try.prog 49 #[.int .u64 1, .int .u64 (S : Int), .bool true] w fun e w' => e = .returned (.tuple #[.int .i64 (ovN m), .bool (decide (I64 m))]) ∧ w = w')) : Calls Try.prog 24 #[.int .i64 1, .agg #[.int .i64 3, .int .i64 n, .string s], .agg #[.int .i64 3, .int .i64 n', .string s']] w (Told3 w (rK m) (rN m) (ovE m)) := by
  have i3 := Lib.hid i23
  have HR := Lib.hid (fun w => right_any 3 n s w)
  rw [hr] at HR
  clear hr
  have HR2 := Lib.hid (fun w => right_any 3 n' s' w)
  rw [hr'] at HR2
  clear hr'
  unfold Told3
  go_enter Try.func24, Try.ntmps24
  go_upto_region 2 with (fail)
  have T0 := FourV.boxes (w := w) (k := 3) (n := n) (s := s) (k' := 3) (n' := n') (s' := s') rfl
  generalize (((w.alloc (.cells #[.int .i64 3, .int .i64 n, .string s] 23)).alloc (.cells #[.int .i64 3, .int .i64 n', .string s'] 23)).alloc (.cells #[.int .i64 0, .int .i64 0, .string { data := #[] }] 23)).alloc (.cells #[.int .i64 0, .int .i64 0, .string { data := #[] }] 23) = W0 at *
  obtain ⟨c0, c1, c2, d0, d1, d2⟩ := T0.six
  obtain ⟨g0, g1, g2, q0, q1, q2, z0, z1, z2⟩ := T0.rest
  go_wp2_with fail
  refine (HR.out _).mono ?_
  rintro e w1 ⟨rfl, hb⟩
  have T1 := T0.on hb
  clear hb T0 c0 c1 c2 d0 d1 d2 g0 g1 g2 q0 q1 q2 z0 z1 z2
  obtain ⟨c0, c1, c2, d0, d1, d2⟩ := T1.six
  obtain ⟨g0, g1, g2, q0, q1, q2, z0, z1, z2⟩ := T1.rest
  go_wp2_with fail
  refine (HR2.out _).mono ?_
  rintro e w2 ⟨rfl, hb⟩
  have T2 := T1.on hb
  clear hb T1 c0 c1 c2 d0 d1 d2 g0 g1 g2 q0 q1 q2 z0 z1 z2
  obtain ⟨c0, c1, c2, d0, d1, d2⟩ := T2.six
  obtain ⟨g0, g1, g2, q0, q1, q2, z0, z1, z2⟩ := T2.rest
  go_wp2_with fail
  go_quiet (fail)
  generalize hq : w2.drewN _ = w3
  have T3 := T2.drewN _ hq
  clear hq T2 c0 c1 c2 d0 d1 d2 g0 g1 g2 q0 q1 q2 z0 z1 z2
  obtain ⟨c0, c1, c2, d0, d1, d2⟩ := T3.six
  obtain ⟨g0, g1, g2, q0, q1, q2, z0, z1, z2⟩ := T3.rest
  go_wp2_with (first | (go_at_call_of 48 (Value.int .i64 n); refine (HS1.out _).mono ?_; rintro e w' ⟨rfl, rfl⟩) | (go_at_call_of 48 (Value.int .i64 n'); refine (HS2.out _).mono ?_; rintro e w' ⟨rfl, rfl⟩))
  refine (HG.out _).mono ?_
  rintro e w4 ⟨rfl, rfl⟩
  by_cases hI : I64 m
  · have e1 := Lib.hid (show ovN m = m from if_pos hI)
    rw [e1.out, decide_eq_true hI]
    have HI := Lib.hid hI
    clear hI
    go_wp2
    exact bodyPost_ret (ret_cell_tmp (p := 6) (u := 7) (ty := 23) rfl _ _ (w.heap.size + 1 + 1) 23 #[.int .i64 3, .int .i64 m, .string E0] _ rfl (((T3.out.set_ 0 (.int .i64 3)).set_ 1 (.int .i64 m)).set_ 2 (.string E0)) Try.underlying23 rfl i3.out) rfl ⟨rk_yes HI.out, (((T3.two.bel.setCell (le2 w) _).setCell (le2 w) _).setCell (le2 w) _)⟩
  · rw [decide_eq_false hI]
    have HI := Lib.hid hI
    clear hI
    go_wp2
    exact bodyPost_ret (ret_cell_tmp (p := 6) (u := 7) (ty := 23) rfl _ _ (w.heap.size + 1 + 1) 23 #[.int .i64 0, .int .i64 0, .string E0] _ rfl (((T3.out.set_ 0 (.int .i64 0)).set_ 1 (.int .i64 0)).set_ 2 (.string E0)) Try.underlying23 rfl i3.out) rfl ⟨rk_no HI.out, (((T3.two.bel.setCell (le2 w) _).setCell (le2 w) _).setCell (le2 w) _)⟩

set_option maxRecDepth 100000 in
set_option maxHeartbeats 1000000 in
theorem rr_2_00_g (n : Int) (s : ByteArray) (n' : Int) (s' : ByteArray) (w : World) (a b S : Nat) (m : Int) (HS1 : Hid (∀ w, Calls Try.prog 48 #[.int .i64 n] w fun e w' => e = .returned (.int .u64 (a : Int)) ∧ w = w')) (HS2 : Hid (∀ w, Calls Try.prog 48 #[.int .i64 n'] w fun e w' => e = .returned (.int .u64 (b : Int)) ∧ w = w')) (hr : Rt 3 n s = true) (hr' : Rt 3 n' s' = true) (hs : decide (n < 0) = false) (ht : decide (n' < 0) = false) (hS : IntKind.u64.wrap ((a : Int) - (b : Int)) = (S : Int)) (hc : (b : Int) ≤ (a : Int)) (HG : Hid (∀ w, Calls Try.prog 49 #[.int .u64 0, .int .u64 (S : Int), .bool false] w fun e w' => e = .returned (.tuple #[.int .i64 (ovN m), .bool (decide (I64 m))]) ∧ w = w')) : Calls Try.prog 24 #[.int .i64 2, .agg #[.int .i64 3, .int .i64 n, .string s], .agg #[.int .i64 3, .int .i64 n', .string s']] w (Told3 w (rK m) (rN m) (ovE m)) := by
  have i3 := Lib.hid i23
  have HR := Lib.hid (fun w => right_any 3 n s w)
  rw [hr] at HR
  clear hr
  have HR2 := Lib.hid (fun w => right_any 3 n' s' w)
  rw [hr'] at HR2
  clear hr'
  unfold Told3
  go_enter Try.func24, Try.ntmps24
  go_upto_region 2 with (fail)
  have T0 := FourV.boxes (w := w) (k := 3) (n := n) (s := s) (k' := 3) (n' := n') (s' := s') rfl
  generalize (((w.alloc (.cells #[.int .i64 3, .int .i64 n, .string s] 23)).alloc (.cells #[.int .i64 3, .int .i64 n', .string s'] 23)).alloc (.cells #[.int .i64 0, .int .i64 0, .string { data := #[] }] 23)).alloc (.cells #[.int .i64 0, .int .i64 0, .string { data := #[] }] 23) = W0 at *
  obtain ⟨c0, c1, c2, d0, d1, d2⟩ := T0.six
  obtain ⟨g0, g1, g2, q0, q1, q2, z0, z1, z2⟩ := T0.rest
  go_wp2_with fail
  refine (HR.out _).mono ?_
  rintro e w1 ⟨rfl, hb⟩
  have T1 := T0.on hb
  clear hb T0 c0 c1 c2 d0 d1 d2 g0 g1 g2 q0 q1 q2 z0 z1 z2
  obtain ⟨c0, c1, c2, d0, d1, d2⟩ := T1.six
  obtain ⟨g0, g1, g2, q0, q1, q2, z0, z1, z2⟩ := T1.rest
  go_wp2_with fail
  refine (HR2.out _).mono ?_
  rintro e w2 ⟨rfl, hb⟩
  have T2 := T1.on hb
  clear hb T1 c0 c1 c2 d0 d1 d2 g0 g1 g2 q0 q1 q2 z0 z1 z2
  obtain ⟨c0, c1, c2, d0, d1, d2⟩ := T2.six
  obtain ⟨g0, g1, g2, q0, q1, q2, z0, z1, z2⟩ := T2.rest
  go_wp2_with fail
  go_quiet (fail)
  generalize hq : w2.drewN _ = w3
  have T3 := T2.drewN _ hq
  clear hq T2 c0 c1 c2 d0 d1 d2 g0 g1 g2 q0 q1 q2 z0 z1 z2
  obtain ⟨c0, c1, c2, d0, d1, d2⟩ := T3.six
  obtain ⟨g0, g1, g2, q0, q1, q2, z0, z1, z2⟩ := T3.rest
  go_wp2_with (first | (go_at_call_of 48 (Value.int .i64 n); refine (HS1.out _).mono ?_; rintro e w' ⟨rfl, rfl⟩) | (go_at_call_of 48 (Value.int .i64 n'); refine (HS2.out _).mono ?_; rintro e w' ⟨rfl, rfl⟩))
  refine (HG.out _).mono ?_
  rintro e w4 ⟨rfl, rfl⟩
  by_cases hI : I64 m
  · have e1 := Lib.hid (show ovN m = m from if_pos hI)
    rw [e1.out, decide_eq_true hI]
    have HI := Lib.hid hI
    clear hI
    go_wp2
    exact bodyPost_ret (ret_cell_tmp (p := 6) (u := 7) (ty := 23) rfl _ _ (w.heap.size + 1 + 1) 23 #[.int .i64 3, .int .i64 m, .string E0] _ rfl (((T3.out.set_ 0 (.int .i64 3)).set_ 1 (.int .i64 m)).set_ 2 (.string E0)) Try.underlying23 rfl i3.out) rfl ⟨rk_yes HI.out, (((T3.two.bel.setCell (le2 w) _).setCell (le2 w) _).setCell (le2 w) _)⟩
  · rw [decide_eq_false hI]
    have HI := Lib.hid hI
    clear hI
    go_wp2
    exact bodyPost_ret (ret_cell_tmp (p := 6) (u := 7) (ty := 23) rfl _ _ (w.heap.size + 1 + 1) 23 #[.int .i64 0, .int .i64 0, .string E0] _ rfl (((T3.out.set_ 0 (.int .i64 0)).set_ 1 (.int .i64 0)).set_ 2 (.string E0)) Try.underlying23 rfl i3.out) rfl ⟨rk_no HI.out, (((T3.two.bel.setCell (le2 w) _).setCell (le2 w) _).setCell (le2 w) _)⟩

set_option maxRecDepth 100000 in
set_option maxHeartbeats 1000000 in
theorem rr_2_00_l (n : Int) (s : ByteArray) (n' : Int) (s' : ByteArray) (w : World) (a b S : Nat) (m : Int) (HS1 : Hid (∀ w, Calls Try.prog 48 #[.int .i64 n] w fun e w' => e = .returned (.int .u64 (a : Int)) ∧ w = w')) (HS2 : Hid (∀ w, Calls Try.prog 48 #[.int .i64 n'] w fun e w' => e = .returned (.int .u64 (b : Int)) ∧ w = w')) (hr : Rt 3 n s = true) (hr' : Rt 3 n' s' = true) (hs : decide (n < 0) = false) (ht : decide (n' < 0) = false) (hS : IntKind.u64.wrap ((b : Int) - (a : Int)) = (S : Int)) (hc : ¬ (b : Int) ≤ (a : Int)) (HG : Hid (∀ w, Calls Try.prog 49 #[.int .u64 0, .int .u64 (S : Int), .bool true] w fun e w' => e = .returned (.tuple #[.int .i64 (ovN m), .bool (decide (I64 m))]) ∧ w = w')) : Calls Try.prog 24 #[.int .i64 2, .agg #[.int .i64 3, .int .i64 n, .string s], .agg #[.int .i64 3, .int .i64 n', .string s']] w (Told3 w (rK m) (rN m) (ovE m)) := by
  have i3 := Lib.hid i23
  have HR := Lib.hid (fun w => right_any 3 n s w)
  rw [hr] at HR
  clear hr
  have HR2 := Lib.hid (fun w => right_any 3 n' s' w)
  rw [hr'] at HR2
  clear hr'
  unfold Told3
  go_enter Try.func24, Try.ntmps24
  go_upto_region 2 with (fail)
  have T0 := FourV.boxes (w := w) (k := 3) (n := n) (s := s) (k' := 3) (n' := n') (s' := s') rfl
  generalize (((w.alloc (.cells #[.int .i64 3, .int .i64 n, .string s] 23)).alloc (.cells #[.int .i64 3, .int .i64 n', .string s'] 23)).alloc (.cells #[.int .i64 0, .int .i64 0, .string { data := #[] }] 23)).alloc (.cells #[.int .i64 0, .int .i64 0, .string { data := #[] }] 23) = W0 at *
  obtain ⟨c0, c1, c2, d0, d1, d2⟩ := T0.six
  obtain ⟨g0, g1, g2, q0, q1, q2, z0, z1, z2⟩ := T0.rest
  go_wp2_with fail
  refine (HR.out _).mono ?_
  rintro e w1 ⟨rfl, hb⟩
  have T1 := T0.on hb
  clear hb T0 c0 c1 c2 d0 d1 d2 g0 g1 g2 q0 q1 q2 z0 z1 z2
  obtain ⟨c0, c1, c2, d0, d1, d2⟩ := T1.six
  obtain ⟨g0, g1, g2, q0, q1, q2, z0, z1, z2⟩ := T1.rest
  go_wp2_with fail
  refine (HR2.out _).mono ?_
  rintro e w2 ⟨rfl, hb⟩
  have T2 := T1.on hb
  clear hb T1 c0 c1 c2 d0 d1 d2 g0 g1 g2 q0 q1 q2 z0 z1 z2
  obtain ⟨c0, c1, c2, d0, d1, d2⟩ := T2.six
  obtain ⟨g0, g1, g2, q0, q1, q2, z0, z1, z2⟩ := T2.rest
  go_wp2_with fail
  go_quiet (fail)
  generalize hq : w2.drewN _ = w3
  have T3 := T2.drewN _ hq
  clear hq T2 c0 c1 c2 d0 d1 d2 g0 g1 g2 q0 q1 q2 z0 z1 z2
  obtain ⟨c0, c1, c2, d0, d1, d2⟩ := T3.six
  obtain ⟨g0, g1, g2, q0, q1, q2, z0, z1, z2⟩ := T3.rest
  go_wp2_with (first | (go_at_call_of 48 (Value.int .i64 n); refine (HS1.out _).mono ?_; rintro e w' ⟨rfl, rfl⟩) | (go_at_call_of 48 (Value.int .i64 n'); refine (HS2.out _).mono ?_; rintro e w' ⟨rfl, rfl⟩))
  refine (HG.out _).mono ?_
  rintro e w4 ⟨rfl, rfl⟩
  by_cases hI : I64 m
  · have e1 := Lib.hid (show ovN m = m from if_pos hI)
    rw [e1.out, decide_eq_true hI]
    have HI := Lib.hid hI
    clear hI
    go_wp2
    exact bodyPost_ret (ret_cell_tmp (p := 6) (u := 7) (ty := 23) rfl _ _ (w.heap.size + 1 + 1) 23 #[.int .i64 3, .int .i64 m, .string E0] _ rfl (((T3.out.set_ 0 (.int .i64 3)).set_ 1 (.int .i64 m)).set_ 2 (.string E0)) Try.underlying23 rfl i3.out) rfl ⟨rk_yes HI.out, (((T3.two.bel.setCell (le2 w) _).setCell (le2 w) _).setCell (le2 w) _)⟩
  · rw [decide_eq_false hI]
    have HI := Lib.hid hI
    clear hI
    go_wp2
    exact bodyPost_ret (ret_cell_tmp (p := 6) (u := 7) (ty := 23) rfl _ _ (w.heap.size + 1 + 1) 23 #[.int .i64 0, .int .i64 0, .string E0] _ rfl (((T3.out.set_ 0 (.int .i64 0)).set_ 1 (.int .i64 0)).set_ 2 (.string E0)) Try.underlying23 rfl i3.out) rfl ⟨rk_no HI.out, (((T3.two.bel.setCell (le2 w) _).setCell (le2 w) _).setCell (le2 w) _)⟩

set_option maxRecDepth 100000 in
set_option maxHeartbeats 1000000 in
theorem rr_2_01_0 (n : Int) (s : ByteArray) (n' : Int) (s' : ByteArray) (w : World) (a b S : Nat) (m : Int) (HS1 : Hid (∀ w, Calls Try.prog 48 #[.int .i64 n] w fun e w' => e = .returned (.int .u64 (a : Int)) ∧ w = w')) (HS2 : Hid (∀ w, Calls Try.prog 48 #[.int .i64 n'] w fun e w' => e = .returned (.int .u64 (b : Int)) ∧ w = w')) (hr : Rt 3 n s = true) (hr' : Rt 3 n' s' = true) (hs : decide (n < 0) = false) (ht : decide (n' < 0) = true) (hS : IntKind.u64.wrap ((a : Int) + (b : Int)) = (S : Int)) (hc : ¬ (S : Int) < (a : Int)) (HG : Hid (∀ w, Calls Try.prog 49 #[.int .u64 0, .int .u64 (S : Int), .bool false] w fun e w' => e = .returned (.tuple #[.int .i64 (ovN m), .bool (decide (I64 m))]) ∧ w = w')) : Calls Try.prog 24 #[.int .i64 2, .agg #[.int .i64 3, .int .i64 n, .string s], .agg #[.int .i64 3, .int .i64 n', .string s']] w (Told3 w (rK m) (rN m) (ovE m)) := by
  have i3 := Lib.hid i23
  have HR := Lib.hid (fun w => right_any 3 n s w)
  rw [hr] at HR
  clear hr
  have HR2 := Lib.hid (fun w => right_any 3 n' s' w)
  rw [hr'] at HR2
  clear hr'
  unfold Told3
  go_enter Try.func24, Try.ntmps24
  go_upto_region 2 with (fail)
  have T0 := FourV.boxes (w := w) (k := 3) (n := n) (s := s) (k' := 3) (n' := n') (s' := s') rfl
  generalize (((w.alloc (.cells #[.int .i64 3, .int .i64 n, .string s] 23)).alloc (.cells #[.int .i64 3, .int .i64 n', .string s'] 23)).alloc (.cells #[.int .i64 0, .int .i64 0, .string { data := #[] }] 23)).alloc (.cells #[.int .i64 0, .int .i64 0, .string { data := #[] }] 23) = W0 at *
  obtain ⟨c0, c1, c2, d0, d1, d2⟩ := T0.six
  obtain ⟨g0, g1, g2, q0, q1, q2, z0, z1, z2⟩ := T0.rest
  go_wp2_with fail
  refine (HR.out _).mono ?_
  rintro e w1 ⟨rfl, hb⟩
  have T1 := T0.on hb
  clear hb T0 c0 c1 c2 d0 d1 d2 g0 g1 g2 q0 q1 q2 z0 z1 z2
  obtain ⟨c0, c1, c2, d0, d1, d2⟩ := T1.six
  obtain ⟨g0, g1, g2, q0, q1, q2, z0, z1, z2⟩ := T1.rest
  go_wp2_with fail
  refine (HR2.out _).mono ?_
  rintro e w2 ⟨rfl, hb⟩
  have T2 := T1.on hb
  clear hb T1 c0 c1 c2 d0 d1 d2 g0 g1 g2 q0 q1 q2 z0 z1 z2
  obtain ⟨c0, c1, c2, d0, d1, d2⟩ := T2.six
  obtain ⟨g0, g1, g2, q0, q1, q2, z0, z1, z2⟩ := T2.rest
  go_wp2_with fail
  go_quiet (fail)
  generalize hq : w2.drewN _ = w3
  have T3 := T2.drewN _ hq
  clear hq T2 c0 c1 c2 d0 d1 d2 g0 g1 g2 q0 q1 q2 z0 z1 z2
  obtain ⟨c0, c1, c2, d0, d1, d2⟩ := T3.six
  obtain ⟨g0, g1, g2, q0, q1, q2, z0, z1, z2⟩ := T3.rest
  go_wp2_with (first | (go_at_call_of 48 (Value.int .i64 n); refine (HS1.out _).mono ?_; rintro e w' ⟨rfl, rfl⟩) | (go_at_call_of 48 (Value.int .i64 n'); refine (HS2.out _).mono ?_; rintro e w' ⟨rfl, rfl⟩))
  refine (HG.out _).mono ?_
  rintro e w4 ⟨rfl, rfl⟩
  by_cases hI : I64 m
  · have e1 := Lib.hid (show ovN m = m from if_pos hI)
    rw [e1.out, decide_eq_true hI]
    have HI := Lib.hid hI
    clear hI
    go_wp2
    exact bodyPost_ret (ret_cell_tmp (p := 6) (u := 7) (ty := 23) rfl _ _ (w.heap.size + 1 + 1) 23 #[.int .i64 3, .int .i64 m, .string E0] _ rfl (((T3.out.set_ 0 (.int .i64 3)).set_ 1 (.int .i64 m)).set_ 2 (.string E0)) Try.underlying23 rfl i3.out) rfl ⟨rk_yes HI.out, (((T3.two.bel.setCell (le2 w) _).setCell (le2 w) _).setCell (le2 w) _)⟩
  · rw [decide_eq_false hI]
    have HI := Lib.hid hI
    clear hI
    go_wp2
    exact bodyPost_ret (ret_cell_tmp (p := 6) (u := 7) (ty := 23) rfl _ _ (w.heap.size + 1 + 1) 23 #[.int .i64 0, .int .i64 0, .string E0] _ rfl (((T3.out.set_ 0 (.int .i64 0)).set_ 1 (.int .i64 0)).set_ 2 (.string E0)) Try.underlying23 rfl i3.out) rfl ⟨rk_no HI.out, (((T3.two.bel.setCell (le2 w) _).setCell (le2 w) _).setCell (le2 w) _)⟩

set_option maxRecDepth 100000 in
set_option maxHeartbeats 1000000 in
theorem rr_2_01_1 (n : Int) (s : ByteArray) (n' : Int) (s' : ByteArray) (w : World) (a b S : Nat) (m : Int) (HS1 : Hid (∀ w, Calls Try.prog 48 #[.int .i64 n] w fun e w' => e = .returned (.int .u64 (a : Int)) ∧ w = w')) (HS2 : Hid (∀ w, Calls Try.prog 48 #[.int .i64 n'] w fun e w' => e = .returned (.int .u64 (b : Int)) ∧ w = w')) (hr : Rt 3 n s = true) (hr' : Rt 3 n' s' = true) (hs : decide (n < 0) = false) (ht : decide (n' < 0) = true) (hS : IntKind.u64.wrap ((a : Int) + (b : Int)) = (S : Int)) (hc : (S : Int) < (a : Int)) (HG : Hid (∀ w, Calls Try.prog 49 #[.int .u64 1, .int .u64 (S : Int), .bool false] w fun e w' => e = .returned (.tuple #[.int .i64 (ovN m), .bool (decide (I64 m))]) ∧ w = w')) : Calls Try.prog 24 #[.int .i64 2, .agg #[.int .i64 3, .int .i64 n, .string s], .agg #[.int .i64 3, .int .i64 n', .string s']] w (Told3 w (rK m) (rN m) (ovE m)) := by
  have i3 := Lib.hid i23
  have HR := Lib.hid (fun w => right_any 3 n s w)
  rw [hr] at HR
  clear hr
  have HR2 := Lib.hid (fun w => right_any 3 n' s' w)
  rw [hr'] at HR2
  clear hr'
  unfold Told3
  go_enter Try.func24, Try.ntmps24
  go_upto_region 2 with (fail)
  have T0 := FourV.boxes (w := w) (k := 3) (n := n) (s := s) (k' := 3) (n' := n') (s' := s') rfl
  generalize (((w.alloc (.cells #[.int .i64 3, .int .i64 n, .string s] 23)).alloc (.cells #[.int .i64 3, .int .i64 n', .string s'] 23)).alloc (.cells #[.int .i64 0, .int .i64 0, .string { data := #[] }] 23)).alloc (.cells #[.int .i64 0, .int .i64 0, .string { data := #[] }] 23) = W0 at *
  obtain ⟨c0, c1, c2, d0, d1, d2⟩ := T0.six
  obtain ⟨g0, g1, g2, q0, q1, q2, z0, z1, z2⟩ := T0.rest
  go_wp2_with fail
  refine (HR.out _).mono ?_
  rintro e w1 ⟨rfl, hb⟩
  have T1 := T0.on hb
  clear hb T0 c0 c1 c2 d0 d1 d2 g0 g1 g2 q0 q1 q2 z0 z1 z2
  obtain ⟨c0, c1, c2, d0, d1, d2⟩ := T1.six
  obtain ⟨g0, g1, g2, q0, q1, q2, z0, z1, z2⟩ := T1.rest
  go_wp2_with fail
  refine (HR2.out _).mono ?_
  rintro e w2 ⟨rfl, hb⟩
  have T2 := T1.on hb
  clear hb T1 c0 c1 c2 d0 d1 d2 g0 g1 g2 q0 q1 q2 z0 z1 z2
  obtain ⟨c0, c1, c2, d0, d1, d2⟩ := T2.six
  obtain ⟨g0, g1, g2, q0, q1, q2, z0, z1, z2⟩ := T2.rest
  go_wp2_with fail
  go_quiet (fail)
  generalize hq : w2.drewN _ = w3
  have T3 := T2.drewN _ hq
  clear hq T2 c0 c1 c2 d0 d1 d2 g0 g1 g2 q0 q1 q2 z0 z1 z2
  obtain ⟨c0, c1, c2, d0, d1, d2⟩ := T3.six
  obtain ⟨g0, g1, g2, q0, q1, q2, z0, z1, z2⟩ := T3.rest
  go_wp2_with (first | (go_at_call_of 48 (Value.int .i64 n); refine (HS1.out _).mono ?_; rintro e w' ⟨rfl, rfl⟩) | (go_at_call_of 48 (Value.int .i64 n'); refine (HS2.out _).mono ?_; rintro e w' ⟨rfl, rfl⟩))
  refine (HG.out _).mono ?_
  rintro e w4 ⟨rfl, rfl⟩
  by_cases hI : I64 m
  · have e1 := Lib.hid (show ovN m = m from if_pos hI)
    rw [e1.out, decide_eq_true hI]
    have HI := Lib.hid hI
    clear hI
    go_wp2
    exact bodyPost_ret (ret_cell_tmp (p := 6) (u := 7) (ty := 23) rfl _ _ (w.heap.size + 1 + 1) 23 #[.int .i64 3, .int .i64 m, .string E0] _ rfl (((T3.out.set_ 0 (.int .i64 3)).set_ 1 (.int .i64 m)).set_ 2 (.string E0)) Try.underlying23 rfl i3.out) rfl ⟨rk_yes HI.out, (((T3.two.bel.setCell (le2 w) _).setCell (le2 w) _).setCell (le2 w) _)⟩
  · rw [decide_eq_false hI]
    have HI := Lib.hid hI
    clear hI
    go_wp2
    exact bodyPost_ret (ret_cell_tmp (p := 6) (u := 7) (ty := 23) rfl _ _ (w.heap.size + 1 + 1) 23 #[.int .i64 0, .int .i64 0, .string E0] _ rfl (((T3.out.set_ 0 (.int .i64 0)).set_ 1 (.int .i64 0)).set_ 2 (.string E0)) Try.underlying23 rfl i3.out) rfl ⟨rk_no HI.out, (((T3.two.bel.setCell (le2 w) _).setCell (le2 w) _).setCell (le2 w) _)⟩

set_option maxRecDepth 100000 in
set_option maxHeartbeats 1000000 in
theorem rr_2_10_0 (n : Int) (s : ByteArray) (n' : Int) (s' : ByteArray) (w : World) (a b S : Nat) (m : Int) (HS1 : Hid (∀ w, Calls Try.prog 48 #[.int .i64 n] w fun e w' => e = .returned (.int .u64 (a : Int)) ∧ w = w')) (HS2 : Hid (∀ w, Calls Try.prog 48 #[.int .i64 n'] w fun e w' => e = .returned (.int .u64 (b : Int)) ∧ w = w')) (hr : Rt 3 n s = true) (hr' : Rt 3 n' s' = true) (hs : decide (n < 0) = true) (ht : decide (n' < 0) = false) (hS : IntKind.u64.wrap ((a : Int) + (b : Int)) = (S : Int)) (hc : ¬ (S : Int) < (a : Int)) (HG : Hid (∀ w, Calls Try.prog 49 #[.int .u64 0, .int .u64 (S : Int), .bool true] w fun e w' => e = .returned (.tuple #[.int .i64 (ovN m), .bool (decide (I64 m))]) ∧ w = w')) : Calls Try.prog 24 #[.int .i64 2, .agg #[.int .i64 3, .int .i64 n, .string s], .agg #[.int .i64 3, .int .i64 n', .string s']] w (Told3 w (rK m) (rN m) (ovE m)) := by
  have i3 := Lib.hid i23
  have HR := Lib.hid (fun w => right_any 3 n s w)
  rw [hr] at HR
  clear hr
  have HR2 := Lib.hid (fun w => right_any 3 n' s' w)
  rw [hr'] at HR2
  clear hr'
  unfold Told3
  go_enter Try.func24, Try.ntmps24
  go_upto_region 2 with (fail)
  have T0 := FourV.boxes (w := w) (k := 3) (n := n) (s := s) (k' := 3) (n' := n') (s' := s') rfl
  generalize (((w.alloc (.cells #[.int .i64 3, .int .i64 n, .string s] 23)).alloc (.cells #[.int .i64 3, .int .i64 n', .string s'] 23)).alloc (.cells #[.int .i64 0, .int .i64 0, .string { data := #[] }] 23)).alloc (.cells #[.int .i64 0, .int .i64 0, .string { data := #[] }] 23) = W0 at *
  obtain ⟨c0, c1, c2, d0, d1, d2⟩ := T0.six
  obtain ⟨g0, g1, g2, q0, q1, q2, z0, z1, z2⟩ := T0.rest
  go_wp2_with fail
  refine (HR.out _).mono ?_
  rintro e w1 ⟨rfl, hb⟩
  have T1 := T0.on hb
  clear hb T0 c0 c1 c2 d0 d1 d2 g0 g1 g2 q0 q1 q2 z0 z1 z2
  obtain ⟨c0, c1, c2, d0, d1, d2⟩ := T1.six
  obtain ⟨g0, g1, g2, q0, q1, q2, z0, z1, z2⟩ := T1.rest
  go_wp2_with fail
  refine (HR2.out _).mono ?_
  rintro e w2 ⟨rfl, hb⟩
  have T2 := T1.on hb
  clear hb T1 c0 c1 c2 d0 d1 d2 g0 g1 g2 q0 q1 q2 z0 z1 z2
  obtain ⟨c0, c1, c2, d0, d1, d2⟩ := T2.six
  obtain ⟨g0, g1, g2, q0, q1, q2, z0, z1, z2⟩ := T2.rest
  go_wp2_with fail
  go_quiet (fail)
  generalize hq : w2.drewN _ = w3
  have T3 := T2.drewN _ hq
  clear hq T2 c0 c1 c2 d0 d1 d2 g0 g1 g2 q0 q1 q2 z0 z1 z2
  obtain ⟨c0, c1, c2, d0, d1, d2⟩ := T3.six
  obtain ⟨g0, g1, g2, q0, q1, q2, z0, z1, z2⟩ := T3.rest
  go_wp2_with (first | (go_at_call_of 48 (Value.int .i64 n); refine (HS1.out _).mono ?_; rintro e w' ⟨rfl, rfl⟩) | (go_at_call_of 48 (Value.int .i64 n'); refine (HS2.out _).mono ?_; rintro e w' ⟨rfl, rfl⟩))
  refine (HG.out _).mono ?_
  rintro e w4 ⟨rfl, rfl⟩
  by_cases hI : I64 m
  · have e1 := Lib.hid (show ovN m = m from if_pos hI)
    rw [e1.out, decide_eq_true hI]
    have HI := Lib.hid hI
    clear hI
    go_wp2
    exact bodyPost_ret (ret_cell_tmp (p := 6) (u := 7) (ty := 23) rfl _ _ (w.heap.size + 1 + 1) 23 #[.int .i64 3, .int .i64 m, .string E0] _ rfl (((T3.out.set_ 0 (.int .i64 3)).set_ 1 (.int .i64 m)).set_ 2 (.string E0)) Try.underlying23 rfl i3.out) rfl ⟨rk_yes HI.out, (((T3.two.bel.setCell (le2 w) _).setCell (le2 w) _).setCell (le2 w) _)⟩
  · rw [decide_eq_false hI]
    have HI := Lib.hid hI
    clear hI
    go_wp2
    exact bodyPost_ret (ret_cell_tmp (p := 6) (u := 7) (ty := 23) rfl _ _ (w.heap.size + 1 + 1) 23 #[.int .i64 0, .int .i64 0, .string E0] _ rfl (((T3.out.set_ 0 (.int .i64 0)).set_ 1 (.int .i64 0)).set_ 2 (.string E0)) Try.underlying23 rfl i3.out) rfl ⟨rk_no HI.out, (((T3.two.bel.setCell (le2 w) _).setCell (le2 w) _).setCell (le2 w) _)⟩

set_option maxRecDepth 100000 in
set_option maxHeartbeats 1000000 in
theorem rr_2_10_1 (n : Int) (s : ByteArray) (n' : Int) (s' : ByteArray) (w : World) (a b S : Nat) (m : Int) (HS1 : Hid (∀ w, Calls Try.prog 48 #[.int .i64 n] w fun e w' => e = .returned (.int .u64 (a : Int)) ∧ w = w')) (HS2 : Hid (∀ w, Calls Try.prog 48 #[.int .i64 n'] w fun e w' => e = .returned (.int .u64 (b : Int)) ∧ w = w')) (hr : Rt 3 n s = true) (hr' : Rt 3 n' s' = true) (hs : decide (n < 0) = true) (ht : decide (n' < 0) = false) (hS : IntKind.u64.wrap ((a : Int) + (b : Int)) = (S : Int)) (hc : (S : Int) < (a : Int)) (HG : Hid (∀ w, Calls Try.prog 49 #[.int .u64 1, .int .u64 (S : Int), .bool true] w fun e w' => e = .returned (.tuple #[.int .i64 (ovN m), .bool (decide (I64 m))]) ∧ w = w')) : Calls Try.prog 24 #[.int .i64 2, .agg #[.int .i64 3, .int .i64 n, .string s], .agg #[.int .i64 3, .int .i64 n', .string s']] w (Told3 w (rK m) (rN m) (ovE m)) := by
  have i3 := Lib.hid i23
  have HR := Lib.hid (fun w => right_any 3 n s w)
  rw [hr] at HR
  clear hr
  have HR2 := Lib.hid (fun w => right_any 3 n' s' w)
  rw [hr'] at HR2
  clear hr'
  unfold Told3
  go_enter Try.func24, Try.ntmps24
  go_upto_region 2 with (fail)
  have T0 := FourV.boxes (w := w) (k := 3) (n := n) (s := s) (k' := 3) (n' := n') (s' := s') rfl
  generalize (((w.alloc (.cells #[.int .i64 3, .int .i64 n, .string s] 23)).alloc (.cells #[.int .i64 3, .int .i64 n', .string s'] 23)).alloc (.cells #[.int .i64 0, .int .i64 0, .string { data := #[] }] 23)).alloc (.cells #[.int .i64 0, .int .i64 0, .string { data := #[] }] 23) = W0 at *
  obtain ⟨c0, c1, c2, d0, d1, d2⟩ := T0.six
  obtain ⟨g0, g1, g2, q0, q1, q2, z0, z1, z2⟩ := T0.rest
  go_wp2_with fail
  refine (HR.out _).mono ?_
  rintro e w1 ⟨rfl, hb⟩
  have T1 := T0.on hb
  clear hb T0 c0 c1 c2 d0 d1 d2 g0 g1 g2 q0 q1 q2 z0 z1 z2
  obtain ⟨c0, c1, c2, d0, d1, d2⟩ := T1.six
  obtain ⟨g0, g1, g2, q0, q1, q2, z0, z1, z2⟩ := T1.rest
  go_wp2_with fail
  refine (HR2.out _).mono ?_
  rintro e w2 ⟨rfl, hb⟩
  have T2 := T1.on hb
  clear hb T1 c0 c1 c2 d0 d1 d2 g0 g1 g2 q0 q1 q2 z0 z1 z2
  obtain ⟨c0, c1, c2, d0, d1, d2⟩ := T2.six
  obtain ⟨g0, g1, g2, q0, q1, q2, z0, z1, z2⟩ := T2.rest
  go_wp2_with fail
  go_quiet (fail)
  generalize hq : w2.drewN _ = w3
  have T3 := T2.drewN _ hq
  clear hq T2 c0 c1 c2 d0 d1 d2 g0 g1 g2 q0 q1 q2 z0 z1 z2
  obtain ⟨c0, c1, c2, d0, d1, d2⟩ := T3.six
  obtain ⟨g0, g1, g2, q0, q1, q2, z0, z1, z2⟩ := T3.rest
  go_wp2_with (first | (go_at_call_of 48 (Value.int .i64 n); refine (HS1.out _).mono ?_; rintro e w' ⟨rfl, rfl⟩) | (go_at_call_of 48 (Value.int .i64 n'); refine (HS2.out _).mono ?_; rintro e w' ⟨rfl, rfl⟩))
  refine (HG.out _).mono ?_
  rintro e w4 ⟨rfl, rfl⟩
  by_cases hI : I64 m
  · have e1 := Lib.hid (show ovN m = m from if_pos hI)
    rw [e1.out, decide_eq_true hI]
    have HI := Lib.hid hI
    clear hI
    go_wp2
    exact bodyPost_ret (ret_cell_tmp (p := 6) (u := 7) (ty := 23) rfl _ _ (w.heap.size + 1 + 1) 23 #[.int .i64 3, .int .i64 m, .string E0] _ rfl (((T3.out.set_ 0 (.int .i64 3)).set_ 1 (.int .i64 m)).set_ 2 (.string E0)) Try.underlying23 rfl i3.out) rfl ⟨rk_yes HI.out, (((T3.two.bel.setCell (le2 w) _).setCell (le2 w) _).setCell (le2 w) _)⟩
  · rw [decide_eq_false hI]
    have HI := Lib.hid hI
    clear hI
    go_wp2
    exact bodyPost_ret (ret_cell_tmp (p := 6) (u := 7) (ty := 23) rfl _ _ (w.heap.size + 1 + 1) 23 #[.int .i64 0, .int .i64 0, .string E0] _ rfl (((T3.out.set_ 0 (.int .i64 0)).set_ 1 (.int .i64 0)).set_ 2 (.string E0)) Try.underlying23 rfl i3.out) rfl ⟨rk_no HI.out, (((T3.two.bel.setCell (le2 w) _).setCell (le2 w) _).setCell (le2 w) _)⟩

set_option maxRecDepth 100000 in
set_option maxHeartbeats 1000000 in
theorem rr_2_11_g (n : Int) (s : ByteArray) (n' : Int) (s' : ByteArray) (w : World) (a b S : Nat) (m : Int) (HS1 : Hid (∀ w, Calls Try.prog 48 #[.int .i64 n] w fun e w' => e = .returned (.int .u64 (a : Int)) ∧ w = w')) (HS2 : Hid (∀ w, Calls Try.prog 48 #[.int .i64 n'] w fun e w' => e = .returned (.int .u64 (b : Int)) ∧ w = w')) (hr : Rt 3 n s = true) (hr' : Rt 3 n' s' = true) (hs : decide (n < 0) = true) (ht : decide (n' < 0) = true) (hS : IntKind.u64.wrap ((a : Int) - (b : Int)) = (S : Int)) (hc : (b : Int) ≤ (a : Int)) (HG : Hid (∀ w, Calls Try.prog 49 #[.int .u64 0, .int .u64 (S : Int), .bool true] w fun e w' => e = .returned (.tuple #[.int .i64 (ovN m), .bool (decide (I64 m))]) ∧ w = w')) : Calls Try.prog 24 #[.int .i64 2, .agg #[.int .i64 3, .int .i64 n, .string s], .agg #[.int .i64 3, .int .i64 n', .string s']] w (Told3 w (rK m) (rN m) (ovE m)) := by
  have i3 := Lib.hid i23
  have HR := Lib.hid (fun w => right_any 3 n s w)
  rw [hr] at HR
  clear hr
  have HR2 := Lib.hid (fun w => right_any 3 n' s' w)
  rw [hr'] at HR2
  clear hr'
  unfold Told3
  go_enter Try.func24, Try.ntmps24
  go_upto_region 2 with (fail)
  have T0 := FourV.boxes (w := w) (k := 3) (n := n) (s := s) (k' := 3) (n' := n') (s' := s') rfl
  generalize (((w.alloc (.cells #[.int .i64 3, .int .i64 n, .string s] 23)).alloc (.cells #[.int .i64 3, .int .i64 n', .string s'] 23)).alloc (.cells #[.int .i64 0, .int .i64 0, .string { data := #[] }] 23)).alloc (.cells #[.int .i64 0, .int .i64 0, .string { data := #[] }] 23) = W0 at *
  obtain ⟨c0, c1, c2, d0, d1, d2⟩ := T0.six
  obtain ⟨g0, g1, g2, q0, q1, q2, z0, z1, z2⟩ := T0.rest
  go_wp2_with fail
  refine (HR.out _).mono ?_
  rintro e w1 ⟨rfl, hb⟩
  have T1 := T0.on hb
  clear hb T0 c0 c1 c2 d0 d1 d2 g0 g1 g2 q0 q1 q2 z0 z1 z2
  obtain ⟨c0, c1, c2, d0, d1, d2⟩ := T1.six
  obtain ⟨g0, g1, g2, q0, q1, q2, z0, z1, z2⟩ := T1.rest
  go_wp2_with fail
  refine (HR2.out _).mono ?_
  rintro e w2 ⟨rfl, hb⟩
  have T2 := T1.on hb
  clear hb T1 c0 c1 c2 d0 d1 d2 g0 g1 g2 q0 q1 q2 z0 z1 z2
  obtain ⟨c0, c1, c2, d0, d1, d2⟩ := T2.six
  obtain ⟨g0, g1, g2, q0, q1, q2, z0, z1, z2⟩ := T2.rest
  go_wp2_with fail
  go_quiet (fail)
  generalize hq : w2.drewN _ = w3
  have T3 := T2.drewN _ hq
  clear hq T2 c0 c1 c2 d0 d1 d2 g0 g1 g2 q0 q1 q2 z0 z1 z2
  obtain ⟨c0, c1, c2, d0, d1, d2⟩ := T3.six
  obtain ⟨g0, g1, g2, q0, q1, q2, z0, z1, z2⟩ := T3.rest
  go_wp2_with (first | (go_at_call_of 48 (Value.int .i64 n); refine (HS1.out _).mono ?_; rintro e w' ⟨rfl, rfl⟩) | (go_at_call_of 48 (Value.int .i64 n'); refine (HS2.out _).mono ?_; rintro e w' ⟨rfl, rfl⟩))
  refine (HG.out _).mono ?_
  rintro e w4 ⟨rfl, rfl⟩
  by_cases hI : I64 m
  · have e1 := Lib.hid (show ovN m = m from if_pos hI)
    rw [e1.out, decide_eq_true hI]
    have HI := Lib.hid hI
    clear hI
    go_wp2
    exact bodyPost_ret (ret_cell_tmp (p := 6) (u := 7) (ty := 23) rfl _ _ (w.heap.size + 1 + 1) 23 #[.int .i64 3, .int .i64 m, .string E0] _ rfl (((T3.out.set_ 0 (.int .i64 3)).set_ 1 (.int .i64 m)).set_ 2 (.string E0)) Try.underlying23 rfl i3.out) rfl ⟨rk_yes HI.out, (((T3.two.bel.setCell (le2 w) _).setCell (le2 w) _).setCell (le2 w) _)⟩
  · rw [decide_eq_false hI]
    have HI := Lib.hid hI
    clear hI
    go_wp2
    exact bodyPost_ret (ret_cell_tmp (p := 6) (u := 7) (ty := 23) rfl _ _ (w.heap.size + 1 + 1) 23 #[.int .i64 0, .int .i64 0, .string E0] _ rfl (((T3.out.set_ 0 (.int .i64 0)).set_ 1 (.int .i64 0)).set_ 2 (.string E0)) Try.underlying23 rfl i3.out) rfl ⟨rk_no HI.out, (((T3.two.bel.setCell (le2 w) _).setCell (le2 w) _).setCell (le2 w) _)⟩

set_option maxRecDepth 100000 in
set_option maxHeartbeats 1000000 in
theorem rr_2_11_l (n : Int) (s : ByteArray) (n' : Int) (s' : ByteArray) (w : World) (a b S : Nat) (m : Int) (HS1 : Hid (∀ w, Calls Try.prog 48 #[.int .i64 n] w fun e w' => e = .returned (.int .u64 (a : Int)) ∧ w = w')) (HS2 : Hid (∀ w, Calls Try.prog 48 #[.int .i64 n'] w fun e w' => e = .returned (.int .u64 (b : Int)) ∧ w = w')) (hr : Rt 3 n s = true) (hr' : Rt 3 n' s' = true) (hs : decide (n < 0) = true) (ht : decide (n' < 0) = true) (hS : IntKind.u64.wrap ((b : Int) - (a : Int)) = (S : Int)) (hc : ¬ (b : Int) ≤ (a : Int)) (HG : Hid (∀ w, Calls Try.prog 49 #[.int .u64 0, .int .u64 (S : Int), .bool false] w fun e w' => e = .returned (.tuple #[.int .i64 (ovN m), .bool (decide (I64 m))]) ∧ w = w')) : Calls Try.prog 24 #[.int .i64 2, .agg #[.int .i64 3, .int .i64 n, .string s], .agg #[.int .i64 3, .int .i64 n', .string s']] w (Told3 w (rK m) (rN m) (ovE m)) := by
  have i3 := Lib.hid i23
  have HR := Lib.hid (fun w => right_any 3 n s w)
  rw [hr] at HR
  clear hr
  have HR2 := Lib.hid (fun w => right_any 3 n' s' w)
  rw [hr'] at HR2
  clear hr'
  unfold Told3
  go_enter Try.func24, Try.ntmps24
  go_upto_region 2 with (fail)
  have T0 := FourV.boxes (w := w) (k := 3) (n := n) (s := s) (k' := 3) (n' := n') (s' := s') rfl
  generalize (((w.alloc (.cells #[.int .i64 3, .int .i64 n, .string s] 23)).alloc (.cells #[.int .i64 3, .int .i64 n', .string s'] 23)).alloc (.cells #[.int .i64 0, .int .i64 0, .string { data := #[] }] 23)).alloc (.cells #[.int .i64 0, .int .i64 0, .string { data := #[] }] 23) = W0 at *
  obtain ⟨c0, c1, c2, d0, d1, d2⟩ := T0.six
  obtain ⟨g0, g1, g2, q0, q1, q2, z0, z1, z2⟩ := T0.rest
  go_wp2_with fail
  refine (HR.out _).mono ?_
  rintro e w1 ⟨rfl, hb⟩
  have T1 := T0.on hb
  clear hb T0 c0 c1 c2 d0 d1 d2 g0 g1 g2 q0 q1 q2 z0 z1 z2
  obtain ⟨c0, c1, c2, d0, d1, d2⟩ := T1.six
  obtain ⟨g0, g1, g2, q0, q1, q2, z0, z1, z2⟩ := T1.rest
  go_wp2_with fail
  refine (HR2.out _).mono ?_
  rintro e w2 ⟨rfl, hb⟩
  have T2 := T1.on hb
  clear hb T1 c0 c1 c2 d0 d1 d2 g0 g1 g2 q0 q1 q2 z0 z1 z2
  obtain ⟨c0, c1, c2, d0, d1, d2⟩ := T2.six
  obtain ⟨g0, g1, g2, q0, q1, q2, z0, z1, z2⟩ := T2.rest
  go_wp2_with fail
  go_quiet (fail)
  generalize hq : w2.drewN _ = w3
  have T3 := T2.drewN _ hq
  clear hq T2 c0 c1 c2 d0 d1 d2 g0 g1 g2 q0 q1 q2 z0 z1 z2
  obtain ⟨c0, c1, c2, d0, d1, d2⟩ := T3.six
  obtain ⟨g0, g1, g2, q0, q1, q2, z0, z1, z2⟩ := T3.rest
  go_wp2_with (first | (go_at_call_of 48 (Value.int .i64 n); refine (HS1.out _).mono ?_; rintro e w' ⟨rfl, rfl⟩) | (go_at_call_of 48 (Value.int .i64 n'); refine (HS2.out _).mono ?_; rintro e w' ⟨rfl, rfl⟩))
  refine (HG.out _).mono ?_
  rintro e w4 ⟨rfl, rfl⟩
  by_cases hI : I64 m
  · have e1 := Lib.hid (show ovN m = m from if_pos hI)
    rw [e1.out, decide_eq_true hI]
    have HI := Lib.hid hI
    clear hI
    go_wp2
    exact bodyPost_ret (ret_cell_tmp (p := 6) (u := 7) (ty := 23) rfl _ _ (w.heap.size + 1 + 1) 23 #[.int .i64 3, .int .i64 m, .string E0] _ rfl (((T3.out.set_ 0 (.int .i64 3)).set_ 1 (.int .i64 m)).set_ 2 (.string E0)) Try.underlying23 rfl i3.out) rfl ⟨rk_yes HI.out, (((T3.two.bel.setCell (le2 w) _).setCell (le2 w) _).setCell (le2 w) _)⟩
  · rw [decide_eq_false hI]
    have HI := Lib.hid hI
    clear hI
    go_wp2
    exact bodyPost_ret (ret_cell_tmp (p := 6) (u := 7) (ty := 23) rfl _ _ (w.heap.size + 1 + 1) 23 #[.int .i64 0, .int .i64 0, .string E0] _ rfl (((T3.out.set_ 0 (.int .i64 0)).set_ 1 (.int .i64 0)).set_ 2 (.string E0)) Try.underlying23 rfl i3.out) rfl ⟨rk_no HI.out, (((T3.two.bel.setCell (le2 w) _).setCell (le2 w) _).setCell (le2 w) _)⟩

set_option maxRecDepth 100000 in
set_option maxHeartbeats 1000000 in
theorem rr_3_00 (n : Int) (s : ByteArray) (n' : Int) (s' : ByteArray) (w : World) (a b S : Nat) (m : Int) (HS1 : Hid (∀ w, Calls Try.prog 48 #[.int .i64 n] w fun e w' => e = .returned (.int .u64 (a : Int)) ∧ w = w')) (HS2 : Hid (∀ w, Calls Try.prog 48 #[.int .i64 n'] w fun e w' => e = .returned (.int .u64 (b : Int)) ∧ w = w')) (hr : Rt 3 n s = true) (hr' : Rt 3 n' s' = true) (hs : decide (n < 0) = false) (ht : decide (n' < 0) = false) (R : Nat) (HW : Hid (∀ w, Calls Try.prog 50 #[.int .u64 (a : Int), .int .u64 (b : Int)] w fun e w' => e = .returned (.tuple #[.int .u64 (R : Int), .int .u64 (S : Int)]) ∧ w = w')) (HG : Hid (∀ w, Calls Try.prog 49 #[.int .u64 (R : Int), .int .u64 (S : Int), .bool false] w fun e w' => e = .returned (.tuple #[.int .i64 (ovN m), .bool (decide (I64 m))]) ∧ w = w')) : Calls Try.prog 24 #[.int .i64 3, .agg #[.int .i64 3, .int .i64 n, .string s], .agg #[.int .i64 3, .int .i64 n', .string s']] w (Told3 w (rK m) (rN m) (ovE m)) := by
  have i3 := Lib.hid i23
  have HR := Lib.hid (fun w => right_any 3 n s w)
  rw [hr] at HR
  clear hr
  have HR2 := Lib.hid (fun w => right_any 3 n' s' w)
  rw [hr'] at HR2
  clear hr'
  unfold Told3
  go_enter Try.func24, Try.ntmps24
  go_upto_region 2 with (fail)
  have T0 := FourV.boxes (w := w) (k := 3) (n := n) (s := s) (k' := 3) (n' := n') (s' := s') rfl
  generalize (((w.alloc (.cells #[.int .i64 3, .int .i64 n, .string s] 23)).alloc (.cells #[.int .i64 3, .int .i64 n', .string s'] 23)).alloc (.cells #[.int .i64 0, .int .i64 0, .string { data := #[] }] 23)).alloc (.cells #[.int .i64 0, .int .i64 0, .string { data := #[] }] 23) = W0 at *
  obtain ⟨c0, c1, c2, d0, d1, d2⟩ := T0.six
  obtain ⟨g0, g1, g2, q0, q1, q2, z0, z1, z2⟩ := T0.rest
  go_wp2_with fail
  refine (HR.out _).mono ?_
  rintro e w1 ⟨rfl, hb⟩
  have T1 := T0.on hb
  clear hb T0 c0 c1 c2 d0 d1 d2 g0 g1 g2 q0 q1 q2 z0 z1 z2
  obtain ⟨c0, c1, c2, d0, d1, d2⟩ := T1.six
  obtain ⟨g0, g1, g2, q0, q1, q2, z0, z1, z2⟩ := T1.rest
  go_wp2_with fail
  refine (HR2.out _).mono ?_
  rintro e w2 ⟨rfl, hb⟩
  have T2 := T1.on hb
  clear hb T1 c0 c1 c2 d0 d1 d2 g0 g1 g2 q0 q1 q2 z0 z1 z2
  obtain ⟨c0, c1, c2, d0, d1, d2⟩ := T2.six
  obtain ⟨g0, g1, g2, q0, q1, q2, z0, z1, z2⟩ := T2.rest
  go_wp2_with fail
  go_quiet (fail)
  generalize hq : w2.drewN _ = w3
  have T3 := T2.drewN _ hq
  clear hq T2 c0 c1 c2 d0 d1 d2 g0 g1 g2 q0 q1 q2 z0 z1 z2
  obtain ⟨c0, c1, c2, d0, d1, d2⟩ := T3.six
  obtain ⟨g0, g1, g2, q0, q1, q2, z0, z1, z2⟩ := T3.rest
  go_wp2_with (first | (go_at_call_of 48 (Value.int .i64 n); refine (HS1.out _).mono ?_; rintro e w' ⟨rfl, rfl⟩) | (go_at_call_of 48 (Value.int .i64 n'); refine (HS2.out _).mono ?_; rintro e w' ⟨rfl, rfl⟩) | (go_at_call 50; refine (HW.out _).mono ?_; rintro e w' ⟨rfl, rfl⟩))
  refine (HG.out _).mono ?_
  rintro e w4 ⟨rfl, rfl⟩
  by_cases hI : I64 m
  · have e1 := Lib.hid (show ovN m = m from if_pos hI)
    rw [e1.out, decide_eq_true hI]
    have HI := Lib.hid hI
    clear hI
    go_wp2
    exact bodyPost_ret (ret_cell_tmp (p := 6) (u := 7) (ty := 23) rfl _ _ (w.heap.size + 1 + 1) 23 #[.int .i64 3, .int .i64 m, .string E0] _ rfl (((T3.out.set_ 0 (.int .i64 3)).set_ 1 (.int .i64 m)).set_ 2 (.string E0)) Try.underlying23 rfl i3.out) rfl ⟨rk_yes HI.out, (((T3.two.bel.setCell (le2 w) _).setCell (le2 w) _).setCell (le2 w) _)⟩
  · rw [decide_eq_false hI]
    have HI := Lib.hid hI
    clear hI
    go_wp2
    exact bodyPost_ret (ret_cell_tmp (p := 6) (u := 7) (ty := 23) rfl _ _ (w.heap.size + 1 + 1) 23 #[.int .i64 0, .int .i64 0, .string E0] _ rfl (((T3.out.set_ 0 (.int .i64 0)).set_ 1 (.int .i64 0)).set_ 2 (.string E0)) Try.underlying23 rfl i3.out) rfl ⟨rk_no HI.out, (((T3.two.bel.setCell (le2 w) _).setCell (le2 w) _).setCell (le2 w) _)⟩

set_option maxRecDepth 100000 in
set_option maxHeartbeats 1000000 in
theorem rr_4_00 (n : Int) (s : ByteArray) (n' : Int) (s' : ByteArray) (w : World) (a b S : Nat) (m : Int) (HS1 : Hid (∀ w, Calls Try.prog 48 #[.int .i64 n] w fun e w' => e = .returned (.int .u64 (a : Int)) ∧ w = w')) (HS2 : Hid (∀ w, Calls Try.prog 48 #[.int .i64 n'] w fun e w' => e = .returned (.int .u64 (b : Int)) ∧ w = w')) (hr : Rt 3 n s = true) (hr' : Rt 3 n' s' = true) (hs : decide (n < 0) = false) (ht : decide (n' < 0) = false) (hz : (n' == 0) = false) (hb0 : ¬ b = 0) (hS : ((a : Int).tdiv (b : Int)) = (S : Int)) (hw : IntKind.u64.wrap (S : Int) = (S : Int)) (HG : Hid (∀ w, Calls Try.prog 49 #[.int .u64 0, .int .u64 (S : Int), .bool false] w fun e w' => e = .returned (.tuple #[.int .i64 (ovN m), .bool (decide (I64 m))]) ∧ w = w')) : Calls Try.prog 24 #[.int .i64 4, .agg #[.int .i64 3, .int .i64 n, .string s], .agg #[.int .i64 3, .int .i64 n', .string s']] w (Told3 w (rK m) (rN m) (ovE m)) := by
  have i3 := Lib.hid i23
  have HR := Lib.hid (fun w => right_any 3 n s w)
  rw [hr] at HR
  clear hr
  have HR2 := Lib.hid (fun w => right_any 3 n' s' w)
  rw [hr'] at HR2
  clear hr'
  unfold Told3
  go_enter Try.func24, Try.ntmps24
  go_upto_region 2 with (fail)
  have T0 := FourV.boxes (w := w) (k := 3) (n := n) (s := s) (k' := 3) (n' := n') (s' := s') rfl
  generalize (((w.alloc (.cells #[.int .i64 3, .int .i64 n, .string s] 23)).alloc (.cells #[.int .i64 3, .int .i64 n', .string s'] 23)).alloc (.cells #[.int .i64 0, .int .i64 0, .string { data := #[] }] 23)).alloc (.cells #[.int .i64 0, .int .i64 0, .string { data := #[] }] 23) = W0 at *
  obtain ⟨c0, c1, c2, d0, d1, d2⟩ := T0.six
  obtain ⟨g0, g1, g2, q0, q1, q2, z0, z1, z2⟩ := T0.rest
  go_wp2_with fail
  refine (HR.out _).mono ?_
  rintro e w1 ⟨rfl, hb⟩
  have T1 := T0.on hb
  clear hb T0 c0 c1 c2 d0 d1 d2 g0 g1 g2 q0 q1 q2 z0 z1 z2
  obtain ⟨c0, c1, c2, d0, d1, d2⟩ := T1.six
  obtain ⟨g0, g1, g2, q0, q1, q2, z0, z1, z2⟩ := T1.rest
  go_wp2_with fail
  refine (HR2.out _).mono ?_
  rintro e w2 ⟨rfl, hb⟩
  have T2 := T1.on hb
  clear hb T1 c0 c1 c2 d0 d1 d2 g0 g1 g2 q0 q1 q2 z0 z1 z2
  obtain ⟨c0, c1, c2, d0, d1, d2⟩ := T2.six
  obtain ⟨g0, g1, g2, q0, q1, q2, z0, z1, z2⟩ := T2.rest
  go_wp2_with fail
  go_quiet (fail)
  generalize hq : w2.drewN _ = w3
  have T3 := T2.drewN _ hq
  clear hq T2 c0 c1 c2 d0 d1 d2 g0 g1 g2 q0 q1 q2 z0 z1 z2
  obtain ⟨c0, c1, c2, d0, d1, d2⟩ := T3.six
  obtain ⟨g0, g1, g2, q0, q1, q2, z0, z1, z2⟩ := T3.rest
  go_wp2_with (first | (go_at_call_of 48 (Value.int .i64 n); refine (HS1.out _).mono ?_; rintro e w' ⟨rfl, rfl⟩) | (go_at_call_of 48 (Value.int .i64 n'); refine (HS2.out _).mono ?_; rintro e w' ⟨rfl, rfl⟩))
  refine (HG.out _).mono ?_
  rintro e w4 ⟨rfl, rfl⟩
  by_cases hI : I64 m
  · have e1 := Lib.hid (show ovN m = m from if_pos hI)
    rw [e1.out, decide_eq_true hI]
    have HI := Lib.hid hI
    clear hI
    go_wp2
    exact bodyPost_ret (ret_cell_tmp (p := 6) (u := 7) (ty := 23) rfl _ _ (w.heap.size + 1 + 1) 23 #[.int .i64 3, .int .i64 m, .string E0] _ rfl (((T3.out.set_ 0 (.int .i64 3)).set_ 1 (.int .i64 m)).set_ 2 (.string E0)) Try.underlying23 rfl i3.out) rfl ⟨rk_yes HI.out, (((T3.two.bel.setCell (le2 w) _).setCell (le2 w) _).setCell (le2 w) _)⟩
  · rw [decide_eq_false hI]
    have HI := Lib.hid hI
    clear hI
    go_wp2
    exact bodyPost_ret (ret_cell_tmp (p := 6) (u := 7) (ty := 23) rfl _ _ (w.heap.size + 1 + 1) 23 #[.int .i64 0, .int .i64 0, .string E0] _ rfl (((T3.out.set_ 0 (.int .i64 0)).set_ 1 (.int .i64 0)).set_ 2 (.string E0)) Try.underlying23 rfl i3.out) rfl ⟨rk_no HI.out, (((T3.two.bel.setCell (le2 w) _).setCell (le2 w) _).setCell (le2 w) _)⟩

set_option maxRecDepth 100000 in
set_option maxHeartbeats 1000000 in
theorem rr_3_01 (n : Int) (s : ByteArray) (n' : Int) (s' : ByteArray) (w : World) (a b S : Nat) (m : Int) (HS1 : Hid (∀ w, Calls Try.prog 48 #[.int .i64 n] w fun e w' => e = .returned (.int .u64 (a : Int)) ∧ w = w')) (HS2 : Hid (∀ w, Calls Try.prog 48 #[.int .i64 n'] w fun e w' => e = .returned (.int .u64 (b : Int)) ∧ w = w')) (hr : Rt 3 n s = true) (hr' : Rt 3 n' s' = true) (hs : decide (n < 0) = false) (ht : decide (n' < 0) = true) (R : Nat) (HW : Hid (∀ w, Calls Try.prog 50 #[.int .u64 (a : Int), .int .u64 (b : Int)] w fun e w' => e = .returned (.tuple #[.int .u64 (R : Int), .int .u64 (S : Int)]) ∧ w = w')) (HG : Hid (∀ w, Calls Try.prog 49 #[.int .u64 (R : Int), .int .u64 (S : Int), .bool true] w fun e w' => e = .returned (.tuple #[.int .i64 (ovN m), .bool (decide (I64 m))]) ∧ w = w')) : Calls Try.prog 24 #[.int .i64 3, .agg #[.int .i64 3, .int .i64 n, .string s], .agg #[.int .i64 3, .int .i64 n', .string s']] w (Told3 w (rK m) (rN m) (ovE m)) := by
  have i3 := Lib.hid i23
  have HR := Lib.hid (fun w => right_any 3 n s w)
  rw [hr] at HR
  clear hr
  have HR2 := Lib.hid (fun w => right_any 3 n' s' w)
  rw [hr'] at HR2
  clear hr'
  unfold Told3
  go_enter Try.func24, Try.ntmps24
  go_upto_region 2 with (fail)
  have T0 := FourV.boxes (w := w) (k := 3) (n := n) (s := s) (k' := 3) (n' := n') (s' := s') rfl
  generalize (((w.alloc (.cells #[.int .i64 3, .int .i64 n, .string s] 23)).alloc (.cells #[.int .i64 3, .int .i64 n', .string s'] 23)).alloc (.cells #[.int .i64 0, .int .i64 0, .string { data := #[] }] 23)).alloc (.cells #[.int .i64 0, .int .i64 0, .string { data := #[] }] 23) = W0 at *
  obtain ⟨c0, c1, c2, d0, d1, d2⟩ := T0.six
  obtain ⟨g0, g1, g2, q0, q1, q2, z0, z1, z2⟩ := T0.rest
  go_wp2_with fail
  refine (HR.out _).mono ?_
  rintro e w1 ⟨rfl, hb⟩
  have T1 := T0.on hb
  clear hb T0 c0 c1 c2 d0 d1 d2 g0 g1 g2 q0 q1 q2 z0 z1 z2
  obtain ⟨c0, c1, c2, d0, d1, d2⟩ := T1.six
  obtain ⟨g0, g1, g2, q0, q1, q2, z0, z1, z2⟩ := T1.rest
  go_wp2_with fail
  refine (HR2.out _).mono ?_
  rintro e w2 ⟨rfl, hb⟩
  have T2 := T1.on hb
  clear hb T1 c0 c1 c2 d0 d1 d2 g0 g1 g2 q0 q1 q2 z0 z1 z2
  obtain ⟨c0, c1, c2, d0, d1, d2⟩ := T2.six
  obtain ⟨g0, g1, g2, q0, q1, q2, z0, z1, z2⟩ := T2.rest
  go_wp2_with fail
  go_quiet (fail)
  generalize hq : w2.drewN _ = w3
  have T3 := T2.drewN _ hq
  clear hq T2 c0 c1 c2 d0 d1 d2 g0 g1 g2 q0 q1 q2 z0 z1 z2
  obtain ⟨c0, c1, c2, d0, d1, d2⟩ := T3.six
  obtain ⟨g0, g1, g2, q0, q1, q2, z0, z1, z2⟩ := T3.rest
  go_wp2_with (first | (go_at_call_of 48 (Value.int .i64 n); refine (HS1.out _).mono ?_; rintro e w' ⟨rfl, rfl⟩) | (go_at_call_of 48 (Value.int .i64 n'); refine (HS2.out _).mono ?_; rintro e w' ⟨rfl, rfl⟩) | (go_at_call 50; refine (HW.out _).mono ?_; rintro e w' ⟨rfl, rfl⟩))
  refine (HG.out _).mono ?_
  rintro e w4 ⟨rfl, rfl⟩
  by_cases hI : I64 m
  · have e1 := Lib.hid (show ovN m = m from if_pos hI)
    rw [e1.out, decide_eq_true hI]
    have HI := Lib.hid hI
    clear hI
    go_wp2
    exact bodyPost_ret (ret_cell_tmp (p := 6) (u := 7) (ty := 23) rfl _ _ (w.heap.size + 1 + 1) 23 #[.int .i64 3, .int .i64 m, .string E0] _ rfl (((T3.out.set_ 0 (.int .i64 3)).set_ 1 (.int .i64 m)).set_ 2 (.string E0)) Try.underlying23 rfl i3.out) rfl ⟨rk_yes HI.out, (((T3.two.bel.setCell (le2 w) _).setCell (le2 w) _).setCell (le2 w) _)⟩
  · rw [decide_eq_false hI]
    have HI := Lib.hid hI
    clear hI
    go_wp2
    exact bodyPost_ret (ret_cell_tmp (p := 6) (u := 7) (ty := 23) rfl _ _ (w.heap.size + 1 + 1) 23 #[.int .i64 0, .int .i64 0, .string E0] _ rfl (((T3.out.set_ 0 (.int .i64 0)).set_ 1 (.int .i64 0)).set_ 2 (.string E0)) Try.underlying23 rfl i3.out) rfl ⟨rk_no HI.out, (((T3.two.bel.setCell (le2 w) _).setCell (le2 w) _).setCell (le2 w) _)⟩

set_option maxRecDepth 100000 in
set_option maxHeartbeats 1000000 in
theorem rr_4_01 (n : Int) (s : ByteArray) (n' : Int) (s' : ByteArray) (w : World) (a b S : Nat) (m : Int) (HS1 : Hid (∀ w, Calls Try.prog 48 #[.int .i64 n] w fun e w' => e = .returned (.int .u64 (a : Int)) ∧ w = w')) (HS2 : Hid (∀ w, Calls Try.prog 48 #[.int .i64 n'] w fun e w' => e = .returned (.int .u64 (b : Int)) ∧ w = w')) (hr : Rt 3 n s = true) (hr' : Rt 3 n' s' = true) (hs : decide (n < 0) = false) (ht : decide (n' < 0) = true) (hz : (n' == 0) = false) (hb0 : ¬ b = 0) (hS : ((a : Int).tdiv (b : Int)) = (S : Int)) (hw : IntKind.u64.wrap (S : Int) = (S : Int)) (HG : Hid (∀ w, Calls Try.prog 49 #[.int .u64 0, .int .u64 (S : Int), .bool true] w fun e w' => e = .returned (.tuple #[.int .i64 (ovN m), .bool (decide (I64 m))]) ∧ w = w')) : Calls Try.prog 24 #[.int .i64 4, .agg #[.int .i64 3, .int .i64 n, .string s], .agg #[.int .i64 3, .int .i64 n', .string s']] w (Told3 w (rK m) (rN m) (ovE m)) := by
  have i3 := Lib.hid i23
  have HR := Lib.hid (fun w => right_any 3 n s w)
  rw [hr] at HR
  clear hr
  have HR2 := Lib.hid (fun w => right_any 3 n' s' w)
  rw [hr'] at HR2
  clear hr'
  unfold Told3
  go_enter Try.func24, Try.ntmps24
  go_upto_region 2 with (fail)
  have T0 := FourV.boxes (w := w) (k := 3) (n := n) (s := s) (k' := 3) (n' := n') (s' := s') rfl
  generalize (((w.alloc (.cells #[.int .i64 3, .int .i64 n, .string s] 23)).alloc (.cells #[.int .i64 3, .int .i64 n', .string s'] 23)).alloc (.cells #[.int .i64 0, .int .i64 0, .string { data := #[] }] 23)).alloc (.cells #[.int .i64 0, .int .i64 0, .string { data := #[] }] 23) = W0 at *
  obtain ⟨c0, c1, c2, d0, d1, d2⟩ := T0.six
  obtain ⟨g0, g1, g2, q0, q1, q2, z0, z1, z2⟩ := T0.rest
  go_wp2_with fail
  refine (HR.out _).mono ?_
  rintro e w1 ⟨rfl, hb⟩
  have T1 := T0.on hb
  clear hb T0 c0 c1 c2 d0 d1 d2 g0 g1 g2 q0 q1 q2 z0 z1 z2
  obtain ⟨c0, c1, c2, d0, d1, d2⟩ := T1.six
  obtain ⟨g0, g1, g2, q0, q1, q2, z0, z1, z2⟩ := T1.rest
  go_wp2_with fail
  refine (HR2.out _).mono ?_
  rintro e w2 ⟨rfl, hb⟩
  have T2 := T1.on hb
  clear hb T1 c0 c1 c2 d0 d1 d2 g0 g1 g2 q0 q1 q2 z0 z1 z2
  obtain ⟨c0, c1, c2, d0, d1, d2⟩ := T2.six
  obtain ⟨g0, g1, g2, q0, q1, q2, z0, z1, z2⟩ := T2.rest
  go_wp2_with fail
  go_quiet (fail)
  generalize hq : w2.drewN _ = w3
  have T3 := T2.drewN _ hq
  clear hq T2 c0 c1 c2 d0 d1 d2 g0 g1 g2 q0 q1 q2 z0 z1 z2
  obtain ⟨c0, c1, c2, d0, d1, d2⟩ := T3.six
  obtain ⟨g0, g1, g2, q0, q1, q2, z0, z1, z2⟩ := T3.rest
  go_wp2_with (first | (go_at_call_of 48 (Value.int .i64 n); refine (HS1.out _).mono ?_; rintro e w' ⟨rfl, rfl⟩) | (go_at_call_of 48 (Value.int .i64 n'); refine (HS2.out _).mono ?_; rintro e w' ⟨rfl, rfl⟩))
  refine (HG.out _).mono ?_
  rintro e w4 ⟨rfl, rfl⟩
  by_cases hI : I64 m
  · have e1 := Lib.hid (show ovN m = m from if_pos hI)
    rw [e1.out, decide_eq_true hI]
    have HI := Lib.hid hI
    clear hI
    go_wp2
    exact bodyPost_ret (ret_cell_tmp (p := 6) (u := 7) (ty := 23) rfl _ _ (w.heap.size + 1 + 1) 23 #[.int .i64 3, .int .i64 m, .string E0] _ rfl (((T3.out.set_ 0 (.int .i64 3)).set_ 1 (.int .i64 m)).set_ 2 (.string E0)) Try.underlying23 rfl i3.out) rfl ⟨rk_yes HI.out, (((T3.two.bel.setCell (le2 w) _).setCell (le2 w) _).setCell (le2 w) _)⟩
  · rw [decide_eq_false hI]
    have HI := Lib.hid hI
    clear hI
    go_wp2
    exact bodyPost_ret (ret_cell_tmp (p := 6) (u := 7) (ty := 23) rfl _ _ (w.heap.size + 1 + 1) 23 #[.int .i64 0, .int .i64 0, .string E0] _ rfl (((T3.out.set_ 0 (.int .i64 0)).set_ 1 (.int .i64 0)).set_ 2 (.string E0)) Try.underlying23 rfl i3.out) rfl ⟨rk_no HI.out, (((T3.two.bel.setCell (le2 w) _).setCell (le2 w) _).setCell (le2 w) _)⟩

set_option maxRecDepth 100000 in
set_option maxHeartbeats 1000000 in
theorem rr_5_0 (n : Int) (s : ByteArray) (n' : Int) (s' : ByteArray) (w : World) (a b S : Nat) (m : Int) (HS1 : Hid (∀ w, Calls Try.prog 48 #[.int .i64 n] w fun e w' => e = .returned (.int .u64 (a : Int)) ∧ w = w')) (HS2 : Hid (∀ w, Calls Try.prog 48 #[.int .i64 n'] w fun e w' => e = .returned (.int .u64 (b : Int)) ∧ w = w')) (hr : Rt 3 n s = true) (hr' : Rt 3 n' s' = true) (hs : decide (n < 0) = false) (hz : (n' == 0) = false) (hb0 : ¬ b = 0) (hS : ((a : Int).tmod (b : Int)) = (S : Int)) (HG : Hid (∀ w, Calls Try.prog 49 #[.int .u64 0, .int .u64 (S : Int), .bool false] w fun e w' => e = .returned (.tuple #[.int .i64 (ovN m), .bool (decide (I64 m))]) ∧ w = w')) : Calls Try.prog 24 #[.int .i64 5, .agg #[.int .i64 3, .int .i64 n, .string s], .agg #[.int .i64 3, .int .i64 n', .string s']] w (Told3 w (rK m) (rN m) (ovE m)) := by
  have i3 := Lib.hid i23
  have HR := Lib.hid (fun w => right_any 3 n s w)
  rw [hr] at HR
  clear hr
  have HR2 := Lib.hid (fun w => right_any 3 n' s' w)
  rw [hr'] at HR2
  clear hr'
  unfold Told3
  go_enter Try.func24, Try.ntmps24
  go_upto_region 2 with (fail)
  have T0 := FourV.boxes (w := w) (k := 3) (n := n) (s := s) (k' := 3) (n' := n') (s' := s') rfl
  generalize (((w.alloc (.cells #[.int .i64 3, .int .i64 n, .string s] 23)).alloc (.cells #[.int .i64 3, .int .i64 n', .string s'] 23)).alloc (.cells #[.int .i64 0, .int .i64 0, .string { data := #[] }] 23)).alloc (.cells #[.int .i64 0, .int .i64 0, .string { data := #[] }] 23) = W0 at *
  obtain ⟨c0, c1, c2, d0, d1, d2⟩ := T0.six
  obtain ⟨g0, g1, g2, q0, q1, q2, z0, z1, z2⟩ := T0.rest
  go_wp2_with fail
  refine (HR.out _).mono ?_
  rintro e w1 ⟨rfl, hb⟩
  have T1 := T0.on hb
  clear hb T0 c0 c1 c2 d0 d1 d2 g0 g1 g2 q0 q1 q2 z0 z1 z2
  obtain ⟨c0, c1, c2, d0, d1, d2⟩ := T1.six
  obtain ⟨g0, g1, g2, q0, q1, q2, z0, z1, z2⟩ := T1.rest
  go_wp2_with fail
  refine (HR2.out _).mono ?_
  rintro e w2 ⟨rfl, hb⟩
  have T2 := T1.on hb
  clear hb T1 c0 c1 c2 d0 d1 d2 g0 g1 g2 q0 q1 q2 z0 z1 z2
  obtain ⟨c0, c1, c2, d0, d1, d2⟩ := T2.six
  obtain ⟨g0, g1, g2, q0, q1, q2, z0, z1, z2⟩ := T2.rest
  go_wp2_with fail
  go_quiet (fail)
  generalize hq : w2.drewN _ = w3
  have T3 := T2.drewN _ hq
  clear hq T2 c0 c1 c2 d0 d1 d2 g0 g1 g2 q0 q1 q2 z0 z1 z2
  obtain ⟨c0, c1, c2, d0, d1, d2⟩ := T3.six
  obtain ⟨g0, g1, g2, q0, q1, q2, z0, z1, z2⟩ := T3.rest
  go_wp2_with (first | (go_at_call_of 48 (Value.int .i64 n); refine (HS1.out _).mono ?_; rintro e w' ⟨rfl, rfl⟩) | (go_at_call_of 48 (Value.int .i64 n'); refine (HS2.out _).mono ?_; rintro e w' ⟨rfl, rfl⟩))
  refine (HG.out _).mono ?_
  rintro e w4 ⟨rfl, rfl⟩
  by_cases hI : I64 m
  · have e1 := Lib.hid (show ovN m = m from if_pos hI)
    rw [e1.out, decide_eq_true hI]
    have HI := Lib.hid hI
    clear hI
    go_wp2
    exact bodyPost_ret (ret_cell_tmp (p := 6) (u := 7) (ty := 23) rfl _ _ (w.heap.size + 1 + 1) 23 #[.int .i64 3, .int .i64 m, .string E0] _ rfl (((T3.out.set_ 0 (.int .i64 3)).set_ 1 (.int .i64 m)).set_ 2 (.string E0)) Try.underlying23 rfl i3.out) rfl ⟨rk_yes HI.out, (((T3.two.bel.setCell (le2 w) _).setCell (le2 w) _).setCell (le2 w) _)⟩
  · rw [decide_eq_false hI]
    have HI := Lib.hid hI
    clear hI
    go_wp2
    exact bodyPost_ret (ret_cell_tmp (p := 6) (u := 7) (ty := 23) rfl _ _ (w.heap.size + 1 + 1) 23 #[.int .i64 0, .int .i64 0, .string E0] _ rfl (((T3.out.set_ 0 (.int .i64 0)).set_ 1 (.int .i64 0)).set_ 2 (.string E0)) Try.underlying23 rfl i3.out) rfl ⟨rk_no HI.out, (((T3.two.bel.setCell (le2 w) _).setCell (le2 w) _).setCell (le2 w) _)⟩

set_option maxRecDepth 100000 in
set_option maxHeartbeats 1000000 in
theorem rr_3_10 (n : Int) (s : ByteArray) (n' : Int) (s' : ByteArray) (w : World) (a b S : Nat) (m : Int) (HS1 : Hid (∀ w, Calls Try.prog 48 #[.int .i64 n] w fun e w' => e = .returned (.int .u64 (a : Int)) ∧ w = w')) (HS2 : Hid (∀ w, Calls Try.prog 48 #[.int .i64 n'] w fun e w' => e = .returned (.int .u64 (b : Int)) ∧ w = w')) (hr : Rt 3 n s = true) (hr' : Rt 3 n' s' = true) (hs : decide (n < 0) = true) (ht : decide (n' < 0) = false) (R : Nat) (HW : Hid (∀ w, Calls Try.prog 50 #[.int .u64 (a : Int), .int .u64 (b : Int)] w fun e w' => e = .returned (.tuple #[.int .u64 (R : Int), .int .u64 (S : Int)]) ∧ w = w')) (HG : Hid (∀ w, Calls Try.prog 49 #[.int .u64 (R : Int), .int .u64 (S : Int), .bool true] w fun e w' => e = .returned (.tuple #[.int .i64 (ovN m), .bool (decide (I64 m))]) ∧ w = w')) : Calls Try.prog 24 #[.int .i64 3, .agg #[.int .i64 3, .int .i64 n, .string s], .agg #[.int .i64 3, .int .i64 n', .string s']] w (Told3 w (rK m) (rN m) (ovE m)) := by
  have i3 := Lib.hid i23
  have HR := Lib.hid (fun w => right_any 3 n s w)
  rw [hr] at HR
  clear hr
  have HR2 := Lib.hid (fun w => right_any 3 n' s' w)
  rw [hr'] at HR2
  clear hr'
  unfold Told3
  go_enter Try.func24, Try.ntmps24
  go_upto_region 2 with (fail)
  have T0 := FourV.boxes (w := w) (k := 3) (n := n) (s := s) (k' := 3) (n' := n') (s' := s') rfl
  generalize (((w.alloc (.cells #[.int .i64 3, .int .i64 n, .string s] 23)).alloc (.cells #[.int .i64 3, .int .i64 n', .string s'] 23)).alloc (.cells #[.int .i64 0, .int .i64 0, .string { data := #[] }] 23)).alloc (.cells #[.int .i64 0, .int .i64 0, .string { data := #[] }] 23) = W0 at *
  obtain ⟨c0, c1, c2, d0, d1, d2⟩ := T0.six
  obtain ⟨g0, g1, g2, q0, q1, q2, z0, z1, z2⟩ := T0.rest
  go_wp2_with fail
  refine (HR.out _).mono ?_
  rintro e w1 ⟨rfl, hb⟩
  have T1 := T0.on hb
  clear hb T0 c0 c1 c2 d0 d1 d2 g0 g1 g2 q0 q1 q2 z0 z1 z2
  obtain ⟨c0, c1, c2, d0, d1, d2⟩ := T1.six
  obtain ⟨g0, g1, g2, q0, q1, q2, z0, z1, z2⟩ := T1.rest
  go_wp2_with fail
  refine (HR2.out _).mono ?_
  rintro e w2 ⟨rfl, hb⟩
  have T2 := T1.on hb
  clear hb T1 c0 c1 c2 d0 d1 d2 g0 g1 g2 q0 q1 q2 z0 z1 z2
  obtain ⟨c0, c1, c2, d0, d1, d2⟩ := T2.six
  obtain ⟨g0, g1, g2, q0, q1, q2, z0, z1, z2⟩ := T2.rest
  go_wp2_with fail
  go_quiet (fail)
  generalize hq : w2.drewN _ = w3
  have T3 := T2.drewN _ hq
  clear hq T2 c0 c1 c2 d0 d1 d2 g0 g1 g2 q0 q1 q2 z0 z1 z2
  obtain ⟨c0, c1, c2, d0, d1, d2⟩ := T3.six
  obtain ⟨g0, g1, g2, q0, q1, q2, z0, z1, z2⟩ := T3.rest
  go_wp2_with (first | (go_at_call_of 48 (Value.int .i64 n); refine (HS1.out _).mono ?_; rintro e w' ⟨rfl, rfl⟩) | (go_at_call_of 48 (Value.int .i64 n'); refine (HS2.out _).mono ?_; rintro e w' ⟨rfl, rfl⟩) | (go_at_call 50; refine (HW.out _).mono ?_; rintro e w' ⟨rfl, rfl⟩))
  refine (HG.out _).mono ?_
  rintro e w4 ⟨rfl, rfl⟩
  by_cases hI : I64 m
  · have e1 := Lib.hid (show ovN m = m from if_pos hI)
    rw [e1.out, decide_eq_true hI]
    have HI := Lib.hid hI
    clear hI
    go_wp2
    exact bodyPost_ret (ret_cell_tmp (p := 6) (u := 7) (ty := 23) rfl _ _ (w.heap.size + 1 + 1) 23 #[.int .i64 3, .int .i64 m, .string E0] _ rfl (((T3.out.set_ 0 (.int .i64 3)).set_ 1 (.int .i64 m)).set_ 2 (.string E0)) Try.underlying23 rfl i3.out) rfl ⟨rk_yes HI.out, (((T3.two.bel.setCell (le2 w) _).setCell (le2 w) _).setCell (le2 w) _)⟩
  · rw [decide_eq_false hI]
    have HI := Lib.hid hI
    clear hI
    go_wp2
    exact bodyPost_ret (ret_cell_tmp (p := 6) (u := 7) (ty := 23) rfl _ _ (w.heap.size + 1 + 1) 23 #[.int .i64 0, .int .i64 0, .string E0] _ rfl (((T3.out.set_ 0 (.int .i64 0)).set_ 1 (.int .i64 0)).set_ 2 (.string E0)) Try.underlying23 rfl i3.out) rfl ⟨rk_no HI.out, (((T3.two.bel.setCell (le2 w) _).setCell (le2 w) _).setCell (le2 w) _)⟩

set_option maxRecDepth 100000 in
set_option maxHeartbeats 1000000 in
theorem rr_4_10 (n : Int) (s : ByteArray) (n' : Int) (s' : ByteArray) (w : World) (a b S : Nat) (m : Int) (HS1 : Hid (∀ w, Calls Try.prog 48 #[.int .i64 n] w fun e w' => e = .returned (.int .u64 (a : Int)) ∧ w = w')) (HS2 : Hid (∀ w, Calls Try.prog 48 #[.int .i64 n'] w fun e w' => e = .returned (.int .u64 (b : Int)) ∧ w = w')) (hr : Rt 3 n s = true) (hr' : Rt 3 n' s' = true) (hs : decide (n < 0) = true) (ht : decide (n' < 0) = false) (hz : (n' == 0) = false) (hb0 : ¬ b = 0) (hS : ((a : Int).tdiv (b : Int)) = (S : Int)) (hw : IntKind.u64.wrap (S : Int) = (S : Int)) (HG : Hid (∀ w, Calls Try.prog 49 #[.int .u64 0, .int .u64 (S : Int), .bool true] w fun e w' => e = .returned (.tuple #[.int .i64 (ovN m), .bool (decide (I64 m))]) ∧ w = w')) : Calls Try.prog 24 #[.int .i64 4, .agg #[.int .i64 3, .int .i64 n, .string s], .agg #[.int .i64 3, .int .i64 n', .string s']] w (Told3 w (rK m) (rN m) (ovE m)) := by
  have i3 := Lib.hid i23
  have HR := Lib.hid (fun w => right_any 3 n s w)
  rw [hr] at HR
  clear hr
  have HR2 := Lib.hid (fun w => right_any 3 n' s' w)
  rw [hr'] at HR2
  clear hr'
  unfold Told3
  go_enter Try.func24, Try.ntmps24
  go_upto_region 2 with (fail)
  have T0 := FourV.boxes (w := w) (k := 3) (n := n) (s := s) (k' := 3) (n' := n') (s' := s') rfl
  generalize (((w.alloc (.cells #[.int .i64 3, .int .i64 n, .string s] 23)).alloc (.cells #[.int .i64 3, .int .i64 n', .string s'] 23)).alloc (.cells #[.int .i64 0, .int .i64 0, .string { data := #[] }] 23)).alloc (.cells #[.int .i64 0, .int .i64 0, .string { data := #[] }] 23) = W0 at *
  obtain ⟨c0, c1, c2, d0, d1, d2⟩ := T0.six
  obtain ⟨g0, g1, g2, q0, q1, q2, z0, z1, z2⟩ := T0.rest
  go_wp2_with fail
  refine (HR.out _).mono ?_
  rintro e w1 ⟨rfl, hb⟩
  have T1 := T0.on hb
  clear hb T0 c0 c1 c2 d0 d1 d2 g0 g1 g2 q0 q1 q2 z0 z1 z2
  obtain ⟨c0, c1, c2, d0, d1, d2⟩ := T1.six
  obtain ⟨g0, g1, g2, q0, q1, q2, z0, z1, z2⟩ := T1.rest
  go_wp2_with fail
  refine (HR2.out _).mono ?_
  rintro e w2 ⟨rfl, hb⟩
  have T2 := T1.on hb
  clear hb T1 c0 c1 c2 d0 d1 d2 g0 g1 g2 q0 q1 q2 z0 z1 z2
  obtain ⟨c0, c1, c2, d0, d1, d2⟩ := T2.six
  obtain ⟨g0, g1, g2, q0, q1, q2, z0, z1, z2⟩ := T2.rest
  go_wp2_with fail
  go_quiet (fail)
  generalize hq : w2.drewN _ = w3
  have T3 := T2.drewN _ hq
  clear hq T2 c0 c1 c2 d0 d1 d2 g0 g1 g2 q0 q1 q2 z0 z1 z2
  obtain ⟨c0, c1, c2, d0, d1, d2⟩ := T3.six
  obtain ⟨g0, g1, g2, q0, q1, q2, z0, z1, z2⟩ := T3.rest
  go_wp2_with (first | (go_at_call_of 48 (Value.int .i64 n); refine (HS1.out _).mono ?_; rintro e w' ⟨rfl, rfl⟩) | (go_at_call_of 48 (Value.int .i64 n'); refine (HS2.out _).mono ?_; rintro e w' ⟨rfl, rfl⟩))
  refine (HG.out _).mono ?_
  rintro e w4 ⟨rfl, rfl⟩
  by_cases hI : I64 m
  · have e1 := Lib.hid (show ovN m = m from if_pos hI)
    rw [e1.out, decide_eq_true hI]
    have HI := Lib.hid hI
    clear hI
    go_wp2
    exact bodyPost_ret (ret_cell_tmp (p := 6) (u := 7) (ty := 23) rfl _ _ (w.heap.size + 1 + 1) 23 #[.int .i64 3, .int .i64 m, .string E0] _ rfl (((T3.out.set_ 0 (.int .i64 3)).set_ 1 (.int .i64 m)).set_ 2 (.string E0)) Try.underlying23 rfl i3.out) rfl ⟨rk_yes HI.out, (((T3.two.bel.setCell (le2 w) _).setCell (le2 w) _).setCell (le2 w) _)⟩
  · rw [decide_eq_false hI]
    have HI := Lib.hid hI
    clear hI
    go_wp2
    exact bodyPost_ret (ret_cell_tmp (p := 6) (u := 7) (ty := 23) rfl _ _ (w.heap.size + 1 + 1) 23 #[.int .i64 0, .int .i64 0, .string E0] _ rfl (((T3.out.set_ 0 (.int .i64 0)).set_ 1 (.int .i64 0)).set_ 2 (.string E0)) Try.underlying23 rfl i3.out) rfl ⟨rk_no HI.out, (((T3.two.bel.setCell (le2 w) _).setCell (le2 w) _).setCell (le2 w) _)⟩

set_option maxRecDepth 100000 in
set_option maxHeartbeats 1000000 in
theorem rr_3_11 (n : Int) (s : ByteArray) (n' : Int) (s' : ByteArray) (w : World) (a b S : Nat) (m : Int) (HS1 : Hid (∀ w, Calls Try.prog 48 #[.int .i64 n] w fun e w' => e = .returned (.int .u64 (a : Int)) ∧ w = w')) (HS2 : Hid (∀ w, Calls Try.prog 48 #[.int .i64 n'] w fun e w' => e = .returned (.int .u64 (b : Int)) ∧ w = w')) (hr : Rt 3 n s = true) (hr' : Rt 3 n' s' = true) (hs : decide (n < 0) = true) (ht : decide (n' < 0) = true) (R : Nat) (HW : Hid (∀ w, Calls Try.prog 50 #[.int .u64 (a : Int), .int .u64 (b : Int)] w fun e w' => e = .returned (.tuple #[.int .u64 (R : Int), .int .u64 (S : Int)]) ∧ w = w')) (HG : Hid (∀ w, Calls Try.prog 49 #[.int .u64 (R : Int), .int .u64 (S : Int), .bool false] w fun e w' => e = .returned (.tuple #[.int .i64 (ovN m), .bool (decide (I64 m))]) ∧ w = w')) : Calls Try.prog 24 #[.int .i64 3, .agg #[.int .i64 3, .int .i64 n, .string s], .agg #[.int .i64 3, .int .i64 n', .string s']] w (Told3 w (rK m) (rN m) (ovE m)) := by
  have i3 := Lib.hid i23
  have HR := Lib.hid (fun w => right_any 3 n s w)
  rw [hr] at HR
  clear hr
  have HR2 := Lib.hid (fun w => right_any 3 n' s' w)
  rw [hr'] at HR2
  clear hr'
  unfold Told3
  go_enter Try.func24, Try.ntmps24
  go_upto_region 2 with (fail)
  have T0 := FourV.boxes (w := w) (k := 3) (n := n) (s := s) (k' := 3) (n' := n') (s' := s') rfl
  generalize (((w.alloc (.cells #[.int .i64 3, .int .i64 n, .string s] 23)).alloc (.cells #[.int .i64 3, .int .i64 n', .string s'] 23)).alloc (.cells #[.int .i64 0, .int .i64 0, .string { data := #[] }] 23)).alloc (.cells #[.int .i64 0, .int .i64 0, .string { data := #[] }] 23) = W0 at *
  obtain ⟨c0, c1, c2, d0, d1, d2⟩ := T0.six
  obtain ⟨g0, g1, g2, q0, q1, q2, z0, z1, z2⟩ := T0.rest
  go_wp2_with fail
  refine (HR.out _).mono ?_
  rintro e w1 ⟨rfl, hb⟩
  have T1 := T0.on hb
  clear hb T0 c0 c1 c2 d0 d1 d2 g0 g1 g2 q0 q1 q2 z0 z1 z2
  obtain ⟨c0, c1, c2, d0, d1, d2⟩ := T1.six
  obtain ⟨g0, g1, g2, q0, q1, q2, z0, z1, z2⟩ := T1.rest
  go_wp2_with fail
  refine (HR2.out _).mono ?_
  rintro e w2 ⟨rfl, hb⟩
  have T2 := T1.on hb
  clear hb T1 c0 c1 c2 d0 d1 d2 g0 g1 g2 q0 q1 q2 z0 z1 z2
  obtain ⟨c0, c1, c2, d0, d1, d2⟩ := T2.six
  obtain ⟨g0, g1, g2, q0, q1, q2, z0, z1, z2⟩ := T2.rest
  go_wp2_with fail
  go_quiet (fail)
  generalize hq : w2.drewN _ = w3
  have T3 := T2.drewN _ hq
  clear hq T2 c0 c1 c2 d0 d1 d2 g0 g1 g2 q0 q1 q2 z0 z1 z2
  obtain ⟨c0, c1, c2, d0, d1, d2⟩ := T3.six
  obtain ⟨g0, g1, g2, q0, q1, q2, z0, z1, z2⟩ := T3.rest
  go_wp2_with (first | (go_at_call_of 48 (Value.int .i64 n); refine (HS1.out _).mono ?_; rintro e w' ⟨rfl, rfl⟩) | (go_at_call_of 48 (Value.int .i64 n'); refine (HS2.out _).mono ?_; rintro e w' ⟨rfl, rfl⟩) | (go_at_call 50; refine (HW.out _).mono ?_; rintro e w' ⟨rfl, rfl⟩))
  refine (HG.out _).mono ?_
  rintro e w4 ⟨rfl, rfl⟩
  by_cases hI : I64 m
  · have e1 := Lib.hid (show ovN m = m from if_pos hI)
    rw [e1.out, decide_eq_true hI]
    have HI := Lib.hid hI
    clear hI
    go_wp2
    exact bodyPost_ret (ret_cell_tmp (p := 6) (u := 7) (ty := 23) rfl _ _ (w.heap.size + 1 + 1) 23 #[.int .i64 3, .int .i64 m, .string E0] _ rfl (((T3.out.set_ 0 (.int .i64 3)).set_ 1 (.int .i64 m)).set_ 2 (.string E0)) Try.underlying23 rfl i3.out) rfl ⟨rk_yes HI.out, (((T3.two.bel.setCell (le2 w) _).setCell (le2 w) _).setCell (le2 w) _)⟩
  · rw [decide_eq_false hI]
    have HI := Lib.hid hI
    clear hI
    go_wp2
    exact bodyPost_ret (ret_cell_tmp (p := 6) (u := 7) (ty := 23) rfl _ _ (w.heap.size + 1 + 1) 23 #[.int .i64 0, .int .i64 0, .string E0] _ rfl (((T3.out.set_ 0 (.int .i64 0)).set_ 1 (.int .i64 0)).set_ 2 (.string E0)) Try.underlying23 rfl i3.out) rfl ⟨rk_no HI.out, (((T3.two.bel.setCell (le2 w) _).setCell (le2 w) _).setCell (le2 w) _)⟩

set_option maxRecDepth 100000 in
set_option maxHeartbeats 1000000 in
theorem rr_4_11 (n : Int) (s : ByteArray) (n' : Int) (s' : ByteArray) (w : World) (a b S : Nat) (m : Int) (HS1 : Hid (∀ w, Calls Try.prog 48 #[.int .i64 n] w fun e w' => e = .returned (.int .u64 (a : Int)) ∧ w = w')) (HS2 : Hid (∀ w, Calls Try.prog 48 #[.int .i64 n'] w fun e w' => e = .returned (.int .u64 (b : Int)) ∧ w = w')) (hr : Rt 3 n s = true) (hr' : Rt 3 n' s' = true) (hs : decide (n < 0) = true) (ht : decide (n' < 0) = true) (hz : (n' == 0) = false) (hb0 : ¬ b = 0) (hS : ((a : Int).tdiv (b : Int)) = (S : Int)) (hw : IntKind.u64.wrap (S : Int) = (S : Int)) (HG : Hid (∀ w, Calls Try.prog 49 #[.int .u64 0, .int .u64 (S : Int), .bool false] w fun e w' => e = .returned (.tuple #[.int .i64 (ovN m), .bool (decide (I64 m))]) ∧ w = w')) : Calls Try.prog 24 #[.int .i64 4, .agg #[.int .i64 3, .int .i64 n, .string s], .agg #[.int .i64 3, .int .i64 n', .string s']] w (Told3 w (rK m) (rN m) (ovE m)) := by
  have i3 := Lib.hid i23
  have HR := Lib.hid (fun w => right_any 3 n s w)
  rw [hr] at HR
  clear hr
  have HR2 := Lib.hid (fun w => right_any 3 n' s' w)
  rw [hr'] at HR2
  clear hr'
  unfold Told3
  go_enter Try.func24, Try.ntmps24
  go_upto_region 2 with (fail)
  have T0 := FourV.boxes (w := w) (k := 3) (n := n) (s := s) (k' := 3) (n' := n') (s' := s') rfl
  generalize (((w.alloc (.cells #[.int .i64 3, .int .i64 n, .string s] 23)).alloc (.cells #[.int .i64 3, .int .i64 n', .string s'] 23)).alloc (.cells #[.int .i64 0, .int .i64 0, .string { data := #[] }] 23)).alloc (.cells #[.int .i64 0, .int .i64 0, .string { data := #[] }] 23) = W0 at *
  obtain ⟨c0, c1, c2, d0, d1, d2⟩ := T0.six
  obtain ⟨g0, g1, g2, q0, q1, q2, z0, z1, z2⟩ := T0.rest
  go_wp2_with fail
  refine (HR.out _).mono ?_
  rintro e w1 ⟨rfl, hb⟩
  have T1 := T0.on hb
  clear hb T0 c0 c1 c2 d0 d1 d2 g0 g1 g2 q0 q1 q2 z0 z1 z2
  obtain ⟨c0, c1, c2, d0, d1, d2⟩ := T1.six
  obtain ⟨g0, g1, g2, q0, q1, q2, z0, z1, z2⟩ := T1.rest
  go_wp2_with fail
  refine (HR2.out _).mono ?_
  rintro e w2 ⟨rfl, hb⟩
  have T2 := T1.on hb
  clear hb T1 c0 c1 c2 d0 d1 d2 g0 g1 g2 q0 q1 q2 z0 z1 z2
  obtain ⟨c0, c1, c2, d0, d1, d2⟩ := T2.six
  obtain ⟨g0, g1, g2, q0, q1, q2, z0, z1, z2⟩ := T2.rest
  go_wp2_with fail
  go_quiet (fail)
  generalize hq : w2.drewN _ = w3
  have T3 := T2.drewN _ hq
  clear hq T2 c0 c1 c2 d0 d1 d2 g0 g1 g2 q0 q1 q2 z0 z1 z2
  obtain ⟨c0, c1, c2, d0, d1, d2⟩ := T3.six
  obtain ⟨g0, g1, g2, q0, q1, q2, z0, z1, z2⟩ := T3.rest
  go_wp2_with (first | (go_at_call_of 48 (Value.int .i64 n); refine (HS1.out _).mono ?_; rintro e w' ⟨rfl, rfl⟩) | (go_at_call_of 48 (Value.int .i64 n'); refine (HS2.out _).mono ?_; rintro e w' ⟨rfl, rfl⟩))
  refine (HG.out _).mono ?_
  rintro e w4 ⟨rfl, rfl⟩
  by_cases hI : I64 m
  · have e1 := Lib.hid (show ovN m = m from if_pos hI)
    rw [e1.out, decide_eq_true hI]
    have HI := Lib.hid hI
    clear hI
    go_wp2
    exact bodyPost_ret (ret_cell_tmp (p := 6) (u := 7) (ty := 23) rfl _ _ (w.heap.size + 1 + 1) 23 #[.int .i64 3, .int .i64 m, .string E0] _ rfl (((T3.out.set_ 0 (.int .i64 3)).set_ 1 (.int .i64 m)).set_ 2 (.string E0)) Try.underlying23 rfl i3.out) rfl ⟨rk_yes HI.out, (((T3.two.bel.setCell (le2 w) _).setCell (le2 w) _).setCell (le2 w) _)⟩
  · rw [decide_eq_false hI]
    have HI := Lib.hid hI
    clear hI
    go_wp2
    exact bodyPost_ret (ret_cell_tmp (p := 6) (u := 7) (ty := 23) rfl _ _ (w.heap.size + 1 + 1) 23 #[.int .i64 0, .int .i64 0, .string E0] _ rfl (((T3.out.set_ 0 (.int .i64 0)).set_ 1 (.int .i64 0)).set_ 2 (.string E0)) Try.underlying23 rfl i3.out) rfl ⟨rk_no HI.out, (((T3.two.bel.setCell (le2 w) _).setCell (le2 w) _).setCell (le2 w) _)⟩

set_option maxRecDepth 100000 in
set_option maxHeartbeats 1000000 in
theorem rr_5_1 (n : Int) (s : ByteArray) (n' : Int) (s' : ByteArray) (w : World) (a b S : Nat) (m : Int) (HS1 : Hid (∀ w, Calls Try.prog 48 #[.int .i64 n] w fun e w' => e = .returned (.int .u64 (a : Int)) ∧ w = w')) (HS2 : Hid (∀ w, Calls Try.prog 48 #[.int .i64 n'] w fun e w' => e = .returned (.int .u64 (b : Int)) ∧ w = w')) (hr : Rt 3 n s = true) (hr' : Rt 3 n' s' = true) (hs : decide (n < 0) = true) (hz : (n' == 0) = false) (hb0 : ¬ b = 0) (hS : ((a : Int).tmod (b : Int)) = (S : Int)) (HG : Hid (∀ w, Calls Try.prog 49 #[.int .u64 0, .int .u64 (S : Int), .bool true] w fun e w' => e = .returned (.tuple #[.int .i64 (ovN m), .bool (decide (I64 m))]) ∧ w = w')) : Calls Try.prog 24 #[.int .i64 5, .agg #[.int .i64 3, .int .i64 n, .string s], .agg #[.int .i64 3, .int .i64 n', .string s']] w (Told3 w (rK m) (rN m) (ovE m)) := by
  have i3 := Lib.hid i23
  have HR := Lib.hid (fun w => right_any 3 n s w)
  rw [hr] at HR
  clear hr
  have HR2 := Lib.hid (fun w => right_any 3 n' s' w)
  rw [hr'] at HR2
  clear hr'
  unfold Told3
  go_enter Try.func24, Try.ntmps24
  go_upto_region 2 with (fail)
  have T0 := FourV.boxes (w := w) (k := 3) (n := n) (s := s) (k' := 3) (n' := n') (s' := s') rfl
  generalize (((w.alloc (.cells #[.int .i64 3, .int .i64 n, .string s] 23)).alloc (.cells #[.int .i64 3, .int .i64 n', .string s'] 23)).alloc (.cells #[.int .i64 0, .int .i64 0, .string { data := #[] }] 23)).alloc (.cells #[.int .i64 0, .int .i64 0, .string { data := #[] }] 23) = W0 at *
  obtain ⟨c0, c1, c2, d0, d1, d2⟩ := T0.six
  obtain ⟨g0, g1, g2, q0, q1, q2, z0, z1, z2⟩ := T0.rest
  go_wp2_with fail
  refine (HR.out _).mono ?_
  rintro e w1 ⟨rfl, hb⟩
  have T1 := T0.on hb
  clear hb T0 c0 c1 c2 d0 d1 d2 g0 g1 g2 q0 q1 q2 z0 z1 z2
  obtain ⟨c0, c1, c2, d0, d1, d2⟩ := T1.six
  obtain ⟨g0, g1, g2, q0, q1, q2, z0, z1, z2⟩ := T1.rest
  go_wp2_with fail
  refine (HR2.out _).mono ?_
  rintro e w2 ⟨rfl, hb⟩
  have T2 := T1.on hb
  clear hb T1 c0 c1 c2 d0 d1 d2 g0 g1 g2 q0 q1 q2 z0 z1 z2
  obtain ⟨c0, c1, c2, d0, d1, d2⟩ := T2.six
  obtain ⟨g0, g1, g2, q0, q1, q2, z0, z1, z2⟩ := T2.rest
  go_wp2_with fail
  go_quiet (fail)
  generalize hq : w2.drewN _ = w3
  have T3 := T2.drewN _ hq
  clear hq T2 c0 c1 c2 d0 d1 d2 g0 g1 g2 q0 q1 q2 z0 z1 z2
  obtain ⟨c0, c1, c2, d0, d1, d2⟩ := T3.six
  obtain ⟨g0, g1, g2, q0, q1, q2, z0, z1, z2⟩ := T3.rest
  go_wp2_with (first | (go_at_call_of 48 (Value.int .i64 n); refine (HS1.out _).mono ?_; rintro e w' ⟨rfl, rfl⟩) | (go_at_call_of 48 (Value.int .i64 n'); refine (HS2.out _).mono ?_; rintro e w' ⟨rfl, rfl⟩))
  refine (HG.out _).mono ?_
  rintro e w4 ⟨rfl, rfl⟩
  by_cases hI : I64 m
  · have e1 := Lib.hid (show ovN m = m from if_pos hI)
    rw [e1.out, decide_eq_true hI]
    have HI := Lib.hid hI
    clear hI
    go_wp2
    exact bodyPost_ret (ret_cell_tmp (p := 6) (u := 7) (ty := 23) rfl _ _ (w.heap.size + 1 + 1) 23 #[.int .i64 3, .int .i64 m, .string E0] _ rfl (((T3.out.set_ 0 (.int .i64 3)).set_ 1 (.int .i64 m)).set_ 2 (.string E0)) Try.underlying23 rfl i3.out) rfl ⟨rk_yes HI.out, (((T3.two.bel.setCell (le2 w) _).setCell (le2 w) _).setCell (le2 w) _)⟩
  · rw [decide_eq_false hI]
    have HI := Lib.hid hI
    clear hI
    go_wp2
    exact bodyPost_ret (ret_cell_tmp (p := 6) (u := 7) (ty := 23) rfl _ _ (w.heap.size + 1 + 1) 23 #[.int .i64 0, .int .i64 0, .string E0] _ rfl (((T3.out.set_ 0 (.int .i64 0)).set_ 1 (.int .i64 0)).set_ 2 (.string E0)) Try.underlying23 rfl i3.out) rfl ⟨rk_no HI.out, (((T3.two.bel.setCell (le2 w) _).setCell (le2 w) _).setCell (le2 w) _)⟩

end Go.Proofs.Ytndkoefchlclkaa
