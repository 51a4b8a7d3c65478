/-
  The document's Reckon.
-/
import Derived.Test.YtndkoefchlclkaaY0
import Derived.Test.YtndkoefchlclkaaLC
import Derived.Test.YtndkoefchlclkaaVC
import Derived.BigQuiet
namespace Go.Proofs.Ytndkoefchlclkaa
open Go.RowKit
attribute [local go_sem ↓] eqV neV eqG

/-- Two values, a place for what is answered, and one for nothing. -/
structure FourV (w0 : World) (g : Nat) (k n : Int) (s : ByteArray) (k' n' : Int) (s' : ByteArray) (w : World) : Prop where
  two : TwoV w0 g (g + 1) k n s k' n' s' w
  out : Blk w (g + 1 + 1) 23 #[.int .i64 0, .int .i64 0, .string { data := #[] }]
  non : Blk w (g + 1 + 1 + 1) 23 #[.int .i64 0, .int .i64 0, .string { data := #[] }]
theorem FourV.on {w0 w w' : World} {g : Nat} {k n : Int} {s : ByteArray} {k' n' : Int} {s' : ByteArray} (h : FourV w0 g k n s k' n' s' w) (hb : Below w.heap.size w w') : FourV w0 g k n s k' n' s' w' :=
  ⟨h.two.on hb, h.out.below hb h.out.lt, h.non.below hb h.non.lt⟩
theorem FourV.drew {w0 w : World} {g : Nat} {k n : Int} {s : ByteArray} {k' n' : Int} {s' : ByteArray} (h : FourV w0 g k n s k' n' s' w) : FourV w0 g k n s k' n' s' w.drew := ⟨h.two.drew, h.out, h.non⟩
theorem FourV.drewN {w0 w w' : World} {g : Nat} {k n : Int} {s : ByteArray} {k' n' : Int} {s' : ByteArray} (h : FourV w0 g k n s k' n' s' w) (q : Nat) (hq : w.drewN q = w') : FourV w0 g k n s k' n' s' w' := by
  subst hq
  exact ⟨⟨h.two.a1, h.two.a2, h.two.z1, h.two.z2, h.two.bel.trans ⟨rfl, rfl, rfl, Nat.le_refl _, fun _ _ => rfl⟩⟩, h.out, h.non⟩
theorem FourV.boxes {w W : World} {k n : Int} {s : ByteArray} {k' n' : Int} {s' : ByteArray}
    (hW : W = (((w.alloc (.cells #[.int .i64 k, .int .i64 n, .string s] 23)).alloc (.cells #[.int .i64 k', .int .i64 n', .string s'] 23)).alloc (.cells #[.int .i64 0, .int .i64 0, .string { data := #[] }] 23)).alloc (.cells #[.int .i64 0, .int .i64 0, .string { data := #[] }] 23)) : FourV w w.heap.size k n s k' n' s' W := by
  subst hW
  exact ⟨((TwoV.boxes rfl).on ((Below.refl _ _).alloc (Nat.le_refl _) _)).on ((Below.refl _ _).alloc (Nat.le_refl _) _), (Blk.fresh (by simp)).alloc _, Blk.fresh (by simp)⟩
theorem FourV.six {w0 w : World} {g : Nat} {k n : Int} {s : ByteArray} {k' n' : Int} {s' : ByteArray} (h : FourV w0 g k n s k' n' s' w) : w.cell? ⟨g, 0, none⟩ = some (.int .i64 k) ∧ w.cell? ⟨g, 1, none⟩ = some (.int .i64 n) ∧ w.cell? ⟨g, 2, none⟩ = some (.string s) ∧ w.cell? ⟨g + 1, 0, none⟩ = some (.int .i64 k') ∧ w.cell? ⟨g + 1, 1, none⟩ = some (.int .i64 n') ∧ w.cell? ⟨g + 1, 2, none⟩ = some (.string s') := h.two.six
theorem FourV.rest {w0 w : World} {g : Nat} {k n : Int} {s : ByteArray} {k' n' : Int} {s' : ByteArray} (h : FourV w0 g k n s k' n' s' w) :
    w.cell? ⟨g + 1 + 1, 0, none⟩ = some (.int .i64 0) ∧ w.cell? ⟨g + 1 + 1, 1, none⟩ = some (.int .i64 0) ∧ w.cell? ⟨g + 1 + 1, 2, none⟩ = some (.string { data := #[] }) ∧ w.frozen? ⟨g + 1 + 1, 0, none⟩ = false ∧ w.frozen? ⟨g + 1 + 1, 1, none⟩ = false ∧ w.frozen? ⟨g + 1 + 1, 2, none⟩ = false ∧
    w.cell? ⟨g + 1 + 1 + 1, 0, none⟩ = some (.int .i64 0) ∧ w.cell? ⟨g + 1 + 1 + 1, 1, none⟩ = some (.int .i64 0) ∧ w.cell? ⟨g + 1 + 1 + 1, 2, none⟩ = some (.string { data := #[] }) :=
  ⟨h.out.cell 0, h.out.cell 1, h.out.cell 2, h.out.frozen 0, h.out.frozen 1, h.out.frozen 2, h.non.cell 0, h.non.cell 1, h.non.cell 2⟩

/-- What comes of a number that may be too great. -/
def rK (m : Int) : Int := if ovE m = 0 then 3 else 0
def rN (m : Int) : Int := if ovE m = 0 then ovN m else 0
theorem rk_yes {m : Int} (h : I64 m) : Ending.returned (.tuple #[.agg #[.int .i64 3, .int .i64 m, .string E0], .int .i64 0]) = .returned (.tuple #[.agg #[.int .i64 (rK m), .int .i64 (rN m), .string E0], .int .i64 (ovE m)]) := by
  have e : ovE m = 0 := if_pos h
  rw [show rK m = 3 from if_pos e, show rN m = ovN m from if_pos e, e, show ovN m = m from if_pos h]
theorem rk_no {m : Int} (h : ¬ I64 m) : Ending.returned (.tuple #[.agg #[.int .i64 0, .int .i64 0, .string E0], .int .i64 151]) = .returned (.tuple #[.agg #[.int .i64 (rK m), .int .i64 (rN m), .string E0], .int .i64 (ovE m)]) := by
  have e : ovE m = 151 := if_neg h
  rw [show rK m = 0 from if_neg (by rw [e]; decide), show rN m = 0 from if_neg (by rw [e]; decide), e]

set_option maxRecDepth 100000 in
set_option maxHeartbeats 1000000 in
theorem rr_low (op : Int) (k n : Int) (s : ByteArray) (k' n' : Int) (s' : ByteArray) (w : World) (h : op < 1) : Calls Try.prog 24 #[.int .i64 op, .agg #[.int .i64 k, .int .i64 n, .string s], .agg #[.int .i64 k', .int .i64 n', .string s']] w (Told3 w 0 0 2) := by
  have i3 := Lib.hid i23
  unfold Told3
  go_enter Try.func24, Try.ntmps24
  go_upto_region 2 with (fail)
  have T0 := FourV.boxes (w := w) (k := k) (n := n) (s := s) (k' := k') (n' := n') (s' := s') rfl
  generalize (((w.alloc (.cells #[.int .i64 k, .int .i64 n, .string s] 23)).alloc (.cells #[.int .i64 k', .int .i64 n', .string s'] 23)).alloc (.cells #[.int .i64 0, .int .i64 0, .string { data := #[] }] 23)).alloc (.cells #[.int .i64 0, .int .i64 0, .string { data := #[] }] 23) = W0 at *
  obtain ⟨c0, c1, c2, d0, d1, d2⟩ := T0.six
  obtain ⟨g0, g1, g2, q0, q1, q2, z0, z1, z2⟩ := T0.rest
  go_wp2
  exact bodyPost_ret (ret_cell_tmp (p := 6) (u := 7) (ty := 23) rfl _ _ (w.heap.size + 1 + 1) 23 #[.int .i64 0, .int .i64 0, .string E0] _ rfl (((T0.out.set_ 0 (.int .i64 0)).set_ 1 (.int .i64 0)).set_ 2 (.string E0)) Try.underlying23 rfl i3.out) rfl ⟨rfl, (((T0.two.bel.setCell (le2 w) _).setCell (le2 w) _).setCell (le2 w) _)⟩

set_option maxRecDepth 100000 in
set_option maxHeartbeats 1000000 in
theorem rr_high (op : Int) (k n : Int) (s : ByteArray) (k' n' : Int) (s' : ByteArray) (w : World) (h0 : ¬ op < 1) (h : 5 < op) : Calls Try.prog 24 #[.int .i64 op, .agg #[.int .i64 k, .int .i64 n, .string s], .agg #[.int .i64 k', .int .i64 n', .string s']] w (Told3 w 0 0 2) := by
  have i3 := Lib.hid i23
  unfold Told3
  go_enter Try.func24, Try.ntmps24
  go_upto_region 2 with (fail)
  have T0 := FourV.boxes (w := w) (k := k) (n := n) (s := s) (k' := k') (n' := n') (s' := s') rfl
  generalize (((w.alloc (.cells #[.int .i64 k, .int .i64 n, .string s] 23)).alloc (.cells #[.int .i64 k', .int .i64 n', .string s'] 23)).alloc (.cells #[.int .i64 0, .int .i64 0, .string { data := #[] }] 23)).alloc (.cells #[.int .i64 0, .int .i64 0, .string { data := #[] }] 23) = W0 at *
  obtain ⟨c0, c1, c2, d0, d1, d2⟩ := T0.six
  obtain ⟨g0, g1, g2, q0, q1, q2, z0, z1, z2⟩ := T0.rest
  go_wp2
  exact bodyPost_ret (ret_cell_tmp (p := 6) (u := 7) (ty := 23) rfl _ _ (w.heap.size + 1 + 1) 23 #[.int .i64 0, .int .i64 0, .string E0] _ rfl (((T0.out.set_ 0 (.int .i64 0)).set_ 1 (.int .i64 0)).set_ 2 (.string E0)) Try.underlying23 rfl i3.out) rfl ⟨rfl, (((T0.two.bel.setCell (le2 w) _).setCell (le2 w) _).setCell (le2 w) _)⟩

set_option maxRecDepth 100000 in
set_option maxHeartbeats 1000000 in
theorem rr_bad1 (op : Int) (k n : Int) (s : ByteArray) (k' n' : Int) (s' : ByteArray) (w : World) (h0 : ¬ op < 1) (h5 : ¬ 5 < op) (hr : Rt k n s = false) : Calls Try.prog 24 #[.int .i64 op, .agg #[.int .i64 k, .int .i64 n, .string s], .agg #[.int .i64 k', .int .i64 n', .string s']] w (Told3 w 0 0 150) := by
  have i3 := Lib.hid i23
  have HR := Lib.hid (fun w => right_any k n s w)
  rw [hr] at HR
  clear hr
  unfold Told3
  go_enter Try.func24, Try.ntmps24
  go_upto_region 2 with (fail)
  have T0 := FourV.boxes (w := w) (k := k) (n := n) (s := s) (k' := k') (n' := n') (s' := s') rfl
  generalize (((w.alloc (.cells #[.int .i64 k, .int .i64 n, .string s] 23)).alloc (.cells #[.int .i64 k', .int .i64 n', .string s'] 23)).alloc (.cells #[.int .i64 0, .int .i64 0, .string { data := #[] }] 23)).alloc (.cells #[.int .i64 0, .int .i64 0, .string { data := #[] }] 23) = W0 at *
  obtain ⟨c0, c1, c2, d0, d1, d2⟩ := T0.six
  obtain ⟨g0, g1, g2, q0, q1, q2, z0, z1, z2⟩ := T0.rest
  go_wp2_with fail
  refine (HR.out _).mono ?_
  rintro e w1 ⟨rfl, hb⟩
  have T1 := T0.on hb
  clear hb T0 c0 c1 c2 d0 d1 d2 g0 g1 g2 q0 q1 q2 z0 z1 z2
  obtain ⟨c0, c1, c2, d0, d1, d2⟩ := T1.six
  obtain ⟨g0, g1, g2, q0, q1, q2, z0, z1, z2⟩ := T1.rest
  go_wp2
  exact bodyPost_ret (ret_cell_tmp (p := 6) (u := 7) (ty := 23) rfl _ _ (w.heap.size + 1 + 1) 23 #[.int .i64 0, .int .i64 0, .string E0] _ rfl (((T1.out.set_ 0 (.int .i64 0)).set_ 1 (.int .i64 0)).set_ 2 (.string E0)) Try.underlying23 rfl i3.out) rfl ⟨rfl, (((T1.two.bel.setCell (le2 w) _).setCell (le2 w) _).setCell (le2 w) _)⟩

set_option maxRecDepth 100000 in
set_option maxHeartbeats 1000000 in
theorem rr_bad2 (op : Int) (k n : Int) (s : ByteArray) (k' n' : Int) (s' : ByteArray) (w : World) (h0 : ¬ op < 1) (h5 : ¬ 5 < op) (hr : Rt k n s = true) (hr' : Rt k' n' s' = false) : Calls Try.prog 24 #[.int .i64 op, .agg #[.int .i64 k, .int .i64 n, .string s], .agg #[.int .i64 k', .int .i64 n', .string s']] w (Told3 w 0 0 150) := by
  have i3 := Lib.hid i23
  have HR := Lib.hid (fun w => right_any k n s w)
  rw [hr] at HR
  clear hr
  have HR2 := Lib.hid (fun w => right_any k' n' s' w)
  rw [hr'] at HR2
  clear hr'
  unfold Told3
  go_enter Try.func24, Try.ntmps24
  go_upto_region 2 with (fail)
  have T0 := FourV.boxes (w := w) (k := k) (n := n) (s := s) (k' := k') (n' := n') (s' := s') rfl
  generalize (((w.alloc (.cells #[.int .i64 k, .int .i64 n, .string s] 23)).alloc (.cells #[.int .i64 k', .int .i64 n', .string s'] 23)).alloc (.cells #[.int .i64 0, .int .i64 0, .string { data := #[] }] 23)).alloc (.cells #[.int .i64 0, .int .i64 0, .string { data := #[] }] 23) = W0 at *
  obtain ⟨c0, c1, c2, d0, d1, d2⟩ := T0.six
  obtain ⟨g0, g1, g2, q0, q1, q2, z0, z1, z2⟩ := T0.rest
  go_wp2_with fail
  refine (HR.out _).mono ?_
  rintro e w1 ⟨rfl, hb⟩
  have T1 := T0.on hb
  clear hb T0 c0 c1 c2 d0 d1 d2 g0 g1 g2 q0 q1 q2 z0 z1 z2
  obtain ⟨c0, c1, c2, d0, d1, d2⟩ := T1.six
  obtain ⟨g0, g1, g2, q0, q1, q2, z0, z1, z2⟩ := T1.rest
  go_wp2_with fail
  refine (HR2.out _).mono ?_
  rintro e w2 ⟨rfl, hb⟩
  have T2 := T1.on hb
  clear hb T1 c0 c1 c2 d0 d1 d2 g0 g1 g2 q0 q1 q2 z0 z1 z2
  obtain ⟨c0, c1, c2, d0, d1, d2⟩ := T2.six
  obtain ⟨g0, g1, g2, q0, q1, q2, z0, z1, z2⟩ := T2.rest
  go_wp2
  exact bodyPost_ret (ret_cell_tmp (p := 6) (u := 7) (ty := 23) rfl _ _ (w.heap.size + 1 + 1) 23 #[.int .i64 0, .int .i64 0, .string E0] _ rfl (((T2.out.set_ 0 (.int .i64 0)).set_ 1 (.int .i64 0)).set_ 2 (.string E0)) Try.underlying23 rfl i3.out) rfl ⟨rfl, (((T2.two.bel.setCell (le2 w) _).setCell (le2 w) _).setCell (le2 w) _)⟩

set_option maxRecDepth 100000 in
set_option maxHeartbeats 1000000 in
theorem rr_type1 (op : Int) (k n : Int) (s : ByteArray) (k' n' : Int) (s' : ByteArray) (w : World) (h0 : ¬ op < 1) (h5 : ¬ 5 < op) (hr : Rt k n s = true) (hr' : Rt k' n' s' = true) (a1 : (k != 1) = true) (a3 : (k != 3) = true) : Calls Try.prog 24 #[.int .i64 op, .agg #[.int .i64 k, .int .i64 n, .string s], .agg #[.int .i64 k', .int .i64 n', .string s']] w (Told3 w 0 0 153) := by
  have i3 := Lib.hid i23
  have HR := Lib.hid (fun w => right_any k n s w)
  rw [hr] at HR
  clear hr
  have HR2 := Lib.hid (fun w => right_any k' n' s' w)
  rw [hr'] at HR2
  clear hr'
  unfold Told3
  go_enter Try.func24, Try.ntmps24
  go_upto_region 2 with (fail)
  have T0 := FourV.boxes (w := w) (k := k) (n := n) (s := s) (k' := k') (n' := n') (s' := s') rfl
  generalize (((w.alloc (.cells #[.int .i64 k, .int .i64 n, .string s] 23)).alloc (.cells #[.int .i64 k', .int .i64 n', .string s'] 23)).alloc (.cells #[.int .i64 0, .int .i64 0, .string { data := #[] }] 23)).alloc (.cells #[.int .i64 0, .int .i64 0, .string { data := #[] }] 23) = W0 at *
  obtain ⟨c0, c1, c2, d0, d1, d2⟩ := T0.six
  obtain ⟨g0, g1, g2, q0, q1, q2, z0, z1, z2⟩ := T0.rest
  go_wp2_with fail
  refine (HR.out _).mono ?_
  rintro e w1 ⟨rfl, hb⟩
  have T1 := T0.on hb
  clear hb T0 c0 c1 c2 d0 d1 d2 g0 g1 g2 q0 q1 q2 z0 z1 z2
  obtain ⟨c0, c1, c2, d0, d1, d2⟩ := T1.six
  obtain ⟨g0, g1, g2, q0, q1, q2, z0, z1, z2⟩ := T1.rest
  go_wp2_with fail
  refine (HR2.out _).mono ?_
  rintro e w2 ⟨rfl, hb⟩
  have T2 := T1.on hb
  clear hb T1 c0 c1 c2 d0 d1 d2 g0 g1 g2 q0 q1 q2 z0 z1 z2
  obtain ⟨c0, c1, c2, d0, d1, d2⟩ := T2.six
  obtain ⟨g0, g1, g2, q0, q1, q2, z0, z1, z2⟩ := T2.rest
  go_wp2
  exact bodyPost_ret (ret_cell_tmp (p := 6) (u := 7) (ty := 23) rfl _ _ (w.heap.size + 1 + 1) 23 #[.int .i64 0, .int .i64 0, .string E0] _ rfl (((T2.out.set_ 0 (.int .i64 0)).set_ 1 (.int .i64 0)).set_ 2 (.string E0)) Try.underlying23 rfl i3.out) rfl ⟨rfl, (((T2.two.bel.setCell (le2 w) _).setCell (le2 w) _).setCell (le2 w) _)⟩

set_option maxRecDepth 100000 in
set_option maxHeartbeats 1000000 in
theorem rr_type2_1 (op : Int) (n : Int) (s : ByteArray) (k' n' : Int) (s' : ByteArray) (w : World) (h0 : ¬ op < 1) (h5 : ¬ 5 < op) (hr : Rt 1 n s = true) (hr' : Rt k' n' s' = true) (a1 : (k' != 1) = true) (a3 : (k' != 3) = true) : Calls Try.prog 24 #[.int .i64 op, .agg #[.int .i64 1, .int .i64 n, .string s], .agg #[.int .i64 k', .int .i64 n', .string s']] w (Told3 w 0 0 153) := by
  have i3 := Lib.hid i23
  have HR := Lib.hid (fun w => right_any 1 n s w)
  rw [hr] at HR
  clear hr
  have HR2 := Lib.hid (fun w => right_any k' n' s' w)
  rw [hr'] at HR2
  clear hr'
  unfold Told3
  go_enter Try.func24, Try.ntmps24
  go_upto_region 2 with (fail)
  have T0 := FourV.boxes (w := w) (k := 1) (n := n) (s := s) (k' := k') (n' := n') (s' := s') rfl
  generalize (((w.alloc (.cells #[.int .i64 1, .int .i64 n, .string s] 23)).alloc (.cells #[.int .i64 k', .int .i64 n', .string s'] 23)).alloc (.cells #[.int .i64 0, .int .i64 0, .string { data := #[] }] 23)).alloc (.cells #[.int .i64 0, .int .i64 0, .string { data := #[] }] 23) = W0 at *
  obtain ⟨c0, c1, c2, d0, d1, d2⟩ := T0.six
  obtain ⟨g0, g1, g2, q0, q1, q2, z0, z1, z2⟩ := T0.rest
  go_wp2_with fail
  refine (HR.out _).mono ?_
  rintro e w1 ⟨rfl, hb⟩
  have T1 := T0.on hb
  clear hb T0 c0 c1 c2 d0 d1 d2 g0 g1 g2 q0 q1 q2 z0 z1 z2
  obtain ⟨c0, c1, c2, d0, d1, d2⟩ := T1.six
  obtain ⟨g0, g1, g2, q0, q1, q2, z0, z1, z2⟩ := T1.rest
  go_wp2_with fail
  refine (HR2.out _).mono ?_
  rintro e w2 ⟨rfl, hb⟩
  have T2 := T1.on hb
  clear hb T1 c0 c1 c2 d0 d1 d2 g0 g1 g2 q0 q1 q2 z0 z1 z2
  obtain ⟨c0, c1, c2, d0, d1, d2⟩ := T2.six
  obtain ⟨g0, g1, g2, q0, q1, q2, z0, z1, z2⟩ := T2.rest
  go_wp2
  exact bodyPost_ret (ret_cell_tmp (p := 6) (u := 7) (ty := 23) rfl _ _ (w.heap.size + 1 + 1) 23 #[.int .i64 0, .int .i64 0, .string E0] _ rfl (((T2.out.set_ 0 (.int .i64 0)).set_ 1 (.int .i64 0)).set_ 2 (.string E0)) Try.underlying23 rfl i3.out) rfl ⟨rfl, (((T2.two.bel.setCell (le2 w) _).setCell (le2 w) _).setCell (le2 w) _)⟩

set_option maxRecDepth 100000 in
set_option maxHeartbeats 1000000 in
theorem rr_type2_3 (op : Int) (n : Int) (s : ByteArray) (k' n' : Int) (s' : ByteArray) (w : World) (h0 : ¬ op < 1) (h5 : ¬ 5 < op) (hr : Rt 3 n s = true) (hr' : Rt k' n' s' = true) (a1 : (k' != 1) = true) (a3 : (k' != 3) = true) : Calls Try.prog 24 #[.int .i64 op, .agg #[.int .i64 3, .int .i64 n, .string s], .agg #[.int .i64 k', .int .i64 n', .string s']] w (Told3 w 0 0 153) := by
  have i3 := Lib.hid i23
  have HR := Lib.hid (fun w => right_any 3 n s w)
  rw [hr] at HR
  clear hr
  have HR2 := Lib.hid (fun w => right_any k' n' s' w)
  rw [hr'] at HR2
  clear hr'
  unfold Told3
  go_enter Try.func24, Try.ntmps24
  go_upto_region 2 with (fail)
  have T0 := FourV.boxes (w := w) (k := 3) (n := n) (s := s) (k' := k') (n' := n') (s' := s') rfl
  generalize (((w.alloc (.cells #[.int .i64 3, .int .i64 n, .string s] 23)).alloc (.cells #[.int .i64 k', .int .i64 n', .string s'] 23)).alloc (.cells #[.int .i64 0, .int .i64 0, .string { data := #[] }] 23)).alloc (.cells #[.int .i64 0, .int .i64 0, .string { data := #[] }] 23) = W0 at *
  obtain ⟨c0, c1, c2, d0, d1, d2⟩ := T0.six
  obtain ⟨g0, g1, g2, q0, q1, q2, z0, z1, z2⟩ := T0.rest
  go_wp2_with fail
  refine (HR.out _).mono ?_
  rintro e w1 ⟨rfl, hb⟩
  have T1 := T0.on hb
  clear hb T0 c0 c1 c2 d0 d1 d2 g0 g1 g2 q0 q1 q2 z0 z1 z2
  obtain ⟨c0, c1, c2, d0, d1, d2⟩ := T1.six
  obtain ⟨g0, g1, g2, q0, q1, q2, z0, z1, z2⟩ := T1.rest
  go_wp2_with fail
  refine (HR2.out _).mono ?_
  rintro e w2 ⟨rfl, hb⟩
  have T2 := T1.on hb
  clear hb T1 c0 c1 c2 d0 d1 d2 g0 g1 g2 q0 q1 q2 z0 z1 z2
  obtain ⟨c0, c1, c2, d0, d1, d2⟩ := T2.six
  obtain ⟨g0, g1, g2, q0, q1, q2, z0, z1, z2⟩ := T2.rest
  go_wp2
  exact bodyPost_ret (ret_cell_tmp (p := 6) (u := 7) (ty := 23) rfl _ _ (w.heap.size + 1 + 1) 23 #[.int .i64 0, .int .i64 0, .string E0] _ rfl (((T2.out.set_ 0 (.int .i64 0)).set_ 1 (.int .i64 0)).set_ 2 (.string E0)) Try.underlying23 rfl i3.out) rfl ⟨rfl, (((T2.two.bel.setCell (le2 w) _).setCell (le2 w) _).setCell (le2 w) _)⟩

set_option maxRecDepth 100000 in
set_option maxHeartbeats 1000000 in
theorem rr_null11 (op : Int) (n : Int) (s : ByteArray) (n' : Int) (s' : ByteArray) (w : World) (h0 : ¬ op < 1) (h5 : ¬ 5 < op) (hr : Rt 1 n s = true) (hr' : Rt 1 n' s' = true) : Calls Try.prog 24 #[.int .i64 op, .agg #[.int .i64 1, .int .i64 n, .string s], .agg #[.int .i64 1, .int .i64 n', .string s']] w (Told3 w 1 0 0) := by
  have i3 := Lib.hid i23
  have HR := Lib.hid (fun w => right_any 1 n s w)
  rw [hr] at HR
  clear hr
  have HR2 := Lib.hid (fun w => right_any 1 n' s' w)
  rw [hr'] at HR2
  clear hr'
  unfold Told3
  go_enter Try.func24, Try.ntmps24
  go_upto_region 2 with (fail)
  have T0 := FourV.boxes (w := w) (k := 1) (n := n) (s := s) (k' := 1) (n' := n') (s' := s') rfl
  generalize (((w.alloc (.cells #[.int .i64 1, .int .i64 n, .string s] 23)).alloc (.cells #[.int .i64 1, .int .i64 n', .string s'] 23)).alloc (.cells #[.int .i64 0, .int .i64 0, .string { data := #[] }] 23)).alloc (.cells #[.int .i64 0, .int .i64 0, .string { data := #[] }] 23) = W0 at *
  obtain ⟨c0, c1, c2, d0, d1, d2⟩ := T0.six
  obtain ⟨g0, g1, g2, q0, q1, q2, z0, z1, z2⟩ := T0.rest
  go_wp2_with fail
  refine (HR.out _).mono ?_
  rintro e w1 ⟨rfl, hb⟩
  have T1 := T0.on hb
  clear hb T0 c0 c1 c2 d0 d1 d2 g0 g1 g2 q0 q1 q2 z0 z1 z2
  obtain ⟨c0, c1, c2, d0, d1, d2⟩ := T1.six
  obtain ⟨g0, g1, g2, q0, q1, q2, z0, z1, z2⟩ := T1.rest
  go_wp2_with fail
  refine (HR2.out _).mono ?_
  rintro e w2 ⟨rfl, hb⟩
  have T2 := T1.on hb
  clear hb T1 c0 c1 c2 d0 d1 d2 g0 g1 g2 q0 q1 q2 z0 z1 z2
  obtain ⟨c0, c1, c2, d0, d1, d2⟩ := T2.six
  obtain ⟨g0, g1, g2, q0, q1, q2, z0, z1, z2⟩ := T2.rest
  go_wp2
  exact bodyPost_ret (ret_cell_tmp (p := 6) (u := 7) (ty := 23) rfl _ _ (w.heap.size + 1 + 1) 23 #[.int .i64 1, .int .i64 0, .string E0] _ rfl (((T2.out.set_ 0 (.int .i64 1)).set_ 1 (.int .i64 0)).set_ 2 (.string E0)) Try.underlying23 rfl i3.out) rfl ⟨rfl, (((T2.two.bel.setCell (le2 w) _).setCell (le2 w) _).setCell (le2 w) _)⟩

set_option maxRecDepth 100000 in
set_option maxHeartbeats 1000000 in
theorem rr_null13 (op : Int) (n : Int) (s : ByteArray) (n' : Int) (s' : ByteArray) (w : World) (h0 : ¬ op < 1) (h5 : ¬ 5 < op) (hr : Rt 1 n s = true) (hr' : Rt 3 n' s' = true) : Calls Try.prog 24 #[.int .i64 op, .agg #[.int .i64 1, .int .i64 n, .string s], .agg #[.int .i64 3, .int .i64 n', .string s']] w (Told3 w 1 0 0) := by
  have i3 := Lib.hid i23
  have HR := Lib.hid (fun w => right_any 1 n s w)
  rw [hr] at HR
  clear hr
  have HR2 := Lib.hid (fun w => right_any 3 n' s' w)
  rw [hr'] at HR2
  clear hr'
  unfold Told3
  go_enter Try.func24, Try.ntmps24
  go_upto_region 2 with (fail)
  have T0 := FourV.boxes (w := w) (k := 1) (n := n) (s := s) (k' := 3) (n' := n') (s' := s') rfl
  generalize (((w.alloc (.cells #[.int .i64 1, .int .i64 n, .string s] 23)).alloc (.cells #[.int .i64 3, .int .i64 n', .string s'] 23)).alloc (.cells #[.int .i64 0, .int .i64 0, .string { data := #[] }] 23)).alloc (.cells #[.int .i64 0, .int .i64 0, .string { data := #[] }] 23) = W0 at *
  obtain ⟨c0, c1, c2, d0, d1, d2⟩ := T0.six
  obtain ⟨g0, g1, g2, q0, q1, q2, z0, z1, z2⟩ := T0.rest
  go_wp2_with fail
  refine (HR.out _).mono ?_
  rintro e w1 ⟨rfl, hb⟩
  have T1 := T0.on hb
  clear hb T0 c0 c1 c2 d0 d1 d2 g0 g1 g2 q0 q1 q2 z0 z1 z2
  obtain ⟨c0, c1, c2, d0, d1, d2⟩ := T1.six
  obtain ⟨g0, g1, g2, q0, q1, q2, z0, z1, z2⟩ := T1.rest
  go_wp2_with fail
  refine (HR2.out _).mono ?_
  rintro e w2 ⟨rfl, hb⟩
  have T2 := T1.on hb
  clear hb T1 c0 c1 c2 d0 d1 d2 g0 g1 g2 q0 q1 q2 z0 z1 z2
  obtain ⟨c0, c1, c2, d0, d1, d2⟩ := T2.six
  obtain ⟨g0, g1, g2, q0, q1, q2, z0, z1, z2⟩ := T2.rest
  go_wp2
  exact bodyPost_ret (ret_cell_tmp (p := 6) (u := 7) (ty := 23) rfl _ _ (w.heap.size + 1 + 1) 23 #[.int .i64 1, .int .i64 0, .string E0] _ rfl (((T2.out.set_ 0 (.int .i64 1)).set_ 1 (.int .i64 0)).set_ 2 (.string E0)) Try.underlying23 rfl i3.out) rfl ⟨rfl, (((T2.two.bel.setCell (le2 w) _).setCell (le2 w) _).setCell (le2 w) _)⟩

set_option maxRecDepth 100000 in
set_option maxHeartbeats 1000000 in
theorem rr_null31 (op : Int) (n : Int) (s : ByteArray) (n' : Int) (s' : ByteArray) (w : World) (h0 : ¬ op < 1) (h5 : ¬ 5 < op) (hr : Rt 3 n s = true) (hr' : Rt 1 n' s' = true) : Calls Try.prog 24 #[.int .i64 op, .agg #[.int .i64 3, .int .i64 n, .string s], .agg #[.int .i64 1, .int .i64 n', .string s']] w (Told3 w 1 0 0) := by
  have i3 := Lib.hid i23
  have HR := Lib.hid (fun w => right_any 3 n s w)
  rw [hr] at HR
  clear hr
  have HR2 := Lib.hid (fun w => right_any 1 n' s' w)
  rw [hr'] at HR2
  clear hr'
  unfold Told3
  go_enter Try.func24, Try.ntmps24
  go_upto_region 2 with (fail)
  have T0 := FourV.boxes (w := w) (k := 3) (n := n) (s := s) (k' := 1) (n' := n') (s' := s') rfl
  generalize (((w.alloc (.cells #[.int .i64 3, .int .i64 n, .string s] 23)).alloc (.cells #[.int .i64 1, .int .i64 n', .string s'] 23)).alloc (.cells #[.int .i64 0, .int .i64 0, .string { data := #[] }] 23)).alloc (.cells #[.int .i64 0, .int .i64 0, .string { data := #[] }] 23) = W0 at *
  obtain ⟨c0, c1, c2, d0, d1, d2⟩ := T0.six
  obtain ⟨g0, g1, g2, q0, q1, q2, z0, z1, z2⟩ := T0.rest
  go_wp2_with fail
  refine (HR.out _).mono ?_
  rintro e w1 ⟨rfl, hb⟩
  have T1 := T0.on hb
  clear hb T0 c0 c1 c2 d0 d1 d2 g0 g1 g2 q0 q1 q2 z0 z1 z2
  obtain ⟨c0, c1, c2, d0, d1, d2⟩ := T1.six
  obtain ⟨g0, g1, g2, q0, q1, q2, z0, z1, z2⟩ := T1.rest
  go_wp2_with fail
  refine (HR2.out _).mono ?_
  rintro e w2 ⟨rfl, hb⟩
  have T2 := T1.on hb
  clear hb T1 c0 c1 c2 d0 d1 d2 g0 g1 g2 q0 q1 q2 z0 z1 z2
  obtain ⟨c0, c1, c2, d0, d1, d2⟩ := T2.six
  obtain ⟨g0, g1, g2, q0, q1, q2, z0, z1, z2⟩ := T2.rest
  go_wp2
  exact bodyPost_ret (ret_cell_tmp (p := 6) (u := 7) (ty := 23) rfl _ _ (w.heap.size + 1 + 1) 23 #[.int .i64 1, .int .i64 0, .string E0] _ rfl (((T2.out.set_ 0 (.int .i64 1)).set_ 1 (.int .i64 0)).set_ 2 (.string E0)) Try.underlying23 rfl i3.out) rfl ⟨rfl, (((T2.two.bel.setCell (le2 w) _).setCell (le2 w) _).setCell (le2 w) _)⟩

end Go.Proofs.Ytndkoefchlclkaa
