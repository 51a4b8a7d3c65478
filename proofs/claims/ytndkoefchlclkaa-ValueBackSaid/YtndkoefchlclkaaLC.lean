/-
  The law ValueChecks, walked.
-/
import Derived.Test.YtndkoefchlclkaaX0
import Derived.Test.YtndkoefchlclkaaX1
import Derived.Test.YtndkoefchlclkaaW7
import Derived.Deep.RegionHeld3
namespace Go.Proofs.Ytndkoefchlclkaa
open Go.RowKit
attribute [local go_sem ↓] eqV neV eqG

/-- Two values in blocks of their own, and what lies below. -/
structure TwoV (w0 : World) (g g' : Nat) (k n : Int) (s : ByteArray) (k' n' : Int) (s' : ByteArray) (w : World) : Prop where
  a1 : V3 w g k n s
  a2 : V3 w g' k' n' s'
  z1 : g < w.heap.size
  z2 : g' < w.heap.size
  bel : Below w0.heap.size w0 w
theorem TwoV.on {w0 w w' : World} {g g' : Nat} {k n : Int} {s : ByteArray} {k' n' : Int} {s' : ByteArray} (h : TwoV w0 g g' k n s k' n' s' w) (hb : Below w.heap.size w w') : TwoV w0 g g' k n s k' n' s' w' :=
  ⟨h.a1.below hb h.z1, h.a2.below hb h.z2, Nat.lt_of_lt_of_le h.z1 hb.size, Nat.lt_of_lt_of_le h.z2 hb.size, h.bel.trans (hb.mono h.bel.size)⟩
theorem TwoV.drew {w0 w : World} {g g' : Nat} {k n : Int} {s : ByteArray} {k' n' : Int} {s' : ByteArray} (h : TwoV w0 g g' k n s k' n' s' w) : TwoV w0 g g' k n s k' n' s' w.drew := ⟨h.a1, h.a2, h.z1, h.z2, h.bel.drew⟩
theorem TwoV.six {w0 w : World} {g g' : Nat} {k n : Int} {s : ByteArray} {k' n' : Int} {s' : ByteArray} (h : TwoV w0 g g' k n s k' n' s' w) : w.cell? ⟨g, 0, none⟩ = some (.int .i64 k) ∧ w.cell? ⟨g, 1, none⟩ = some (.int .i64 n) ∧ w.cell? ⟨g, 2, none⟩ = some (.string s) ∧ w.cell? ⟨g', 0, none⟩ = some (.int .i64 k') ∧ w.cell? ⟨g', 1, none⟩ = some (.int .i64 n') ∧ w.cell? ⟨g', 2, none⟩ = some (.string s') := V3.six h.a1 h.a2
theorem TwoV.boxes {w W : World} {k n : Int} {s : ByteArray} {k' n' : Int} {s' : ByteArray} (hW : W = (w.alloc (.cells #[.int .i64 k, .int .i64 n, .string s] 23)).alloc (.cells #[.int .i64 k', .int .i64 n', .string s'] 23)) : TwoV w w.heap.size (w.heap.size + 1) k n s k' n' s' W := by
  obtain ⟨A1, A2, Z1, Z2, B0⟩ := V3.two hW
  exact ⟨A1.out, A2.out, Z1.out, Z2.out, B0.out⟩
theorem eqv_self (k n : Int) (s : ByteArray) : Eqv k n s k n s = true := decide_eq_true ⟨rfl, rfl, rfl⟩

set_option maxRecDepth 100000 in
set_option maxHeartbeats 4000000 in
theorem checks_walk (k n : Int) (s : ByteArray) (k' n' : Int) (s' : ByteArray) (w : World) (_hn : -9223372036854775808 ≤ n ∧ n ≤ 9223372036854775807) (_hn' : -9223372036854775808 ≤ n' ∧ n' ≤ 9223372036854775807) :
    Calls Try.prog 3 #[.agg #[.int .i64 k, .int .i64 n, .string s], .agg #[.int .i64 k', .int .i64 n', .string s']] w fun e w' => e = .returned (.bool true) ∧ Below w.heap.size w w' := by
  have HM := Lib.hid (fun w => compare_any k n s k' n' s' w)
  have HN := Lib.hid (fun w => refcompare_any k n s k' n' s' w)
  generalize cmpV k n s k' n' s' = cv at *
  have ecv : (cv == cv) = true := by simp
  clear _hn _hn'
  go_enter Try.func3, Try.ntmps3
  go_upto_region 1 with (fail)
  have T0 := TwoV.boxes (w := w) (k := k) (n := n) (s := s) (k' := k') (n' := n') (s' := s') rfl
  generalize (w.alloc (.cells #[.int .i64 k, .int .i64 n, .string s] 23)).alloc (.cells #[.int .i64 k', .int .i64 n', .string s'] 23) = W0 at *
  obtain ⟨c0, c1, c2, d0, d1, d2⟩ := T0.six
  go_wp2_with fail
  refine (wakes_any _).mono ?_
  rintro e w1 ⟨rfl, hb⟩
  have T1 := T0.on hb
  clear hb T0 c0 c1 c2 d0 d1 d2
  obtain ⟨c0, c1, c2, d0, d1, d2⟩ := T1.six
  go_wp2_with fail
  refine (long2_any w1.heap.size k n s k' n' s' _ (Blk.new _ _ _)).mono ?_
  rintro e w2 ⟨rfl, hb⟩
  have T2 := T1.on (((Below.refl _ w1).alloc (Nat.le_refl _) _).trans (hb.mono (by simp)))
  clear hb T1 c0 c1 c2 d0 d1 d2
  generalize (lgB s || lgB s') = lg at *
  cases lg with
  | true =>
    go_wp2
    go_ret
    exact ⟨rfl, T2.bel⟩
  | false =>
    obtain ⟨c0, c1, c2, d0, d1, d2⟩ := T2.six
    rcases Bool.eq_false_or_eq_true (Rt k n s) with hr | hr
    · have HR := Lib.hid (fun w => right_any k n s w)
      have HC := Lib.hid (fun w => check_any k n s w)
      rw [hr] at HR
      rw [show chk k n s = 0 by unfold chk; rw [hr]; rfl] at HC
      clear hr
      have E0' : Eqv 1 0 E0 1 0 { data := #[] } = true := eqv_self 1 0 E0
      have En : Eqv 3 n E0 3 n { data := #[] } = true := eqv_self 3 n E0
      have Es : Eqv 4 0 s 4 0 s = true := eqv_self 4 0 s
      have Et : Eqv 2 (b2i true) E0 2 1 { data := #[] } = true := eqv_self 2 1 E0
      have Ef : Eqv 2 (b2i false) E0 2 0 { data := #[] } = true := eqv_self 2 0 E0
      go_wp2_with fail
      refine (HR.out _).mono ?_
      rintro e w3 ⟨rfl, hb⟩
      have T3 := T2.on hb
      clear hb T2 c0 c1 c2 d0 d1 d2
      obtain ⟨c0, c1, c2, d0, d1, d2⟩ := T3.six
      go_wp2_with fail
      refine (HC.out _).mono ?_
      rintro e w4 ⟨rfl, hb⟩
      have T4 := T3.on hb
      clear hb T3 c0 c1 c2 d0 d1 d2
      obtain ⟨c0, c1, c2, d0, d1, d2⟩ := T4.six
      go_upto_region 8 with (fail)
      have D8 := T4.drew
      go_region_held3 (fun w' => w'.cell? ⟨w.heap.size, 0, none⟩ = some (.int .i64 k) ∧ w'.cell? ⟨w.heap.size, 1, none⟩ = some (.int .i64 n) ∧ w'.cell? ⟨w.heap.size, 2, none⟩ = some (.string s) ∧ w'.cell? ⟨w.heap.size + 1, 0, none⟩ = some (.int .i64 k') ∧ w'.cell? ⟨w.heap.size + 1, 1, none⟩ = some (.int .i64 n') ∧ w'.cell? ⟨w.heap.size + 1, 2, none⟩ = some (.string s'))
        (first | with_reducible exact E5.six | with_reducible exact E4.six | with_reducible exact E3.six | with_reducible exact E2.six | with_reducible exact E1.six | with_reducible exact D8.six)
        (first | (go_at_call 15; refine (null_any _).mono ?_; rintro e u1 ⟨rfl, hb⟩; have E1 := D8.on hb; clear hb) | (go_at_call 16; refine (int_any _ _).mono ?_; rintro e u2 ⟨rfl, hb⟩; have E2 := E1.on hb; clear hb) | (go_at_call 17; refine (text_any _ _).mono ?_; rintro e u3 ⟨rfl, hb⟩; have E3 := E2.on hb; clear hb) | (go_at_call_of 18 (Value.bool true); refine (bool_any _ _).mono ?_; rintro e u4 ⟨rfl, hb⟩; have E4 := E3.on hb; clear hb) | (go_at_call_of 18 (Value.bool false); refine (bool_any _ _).mono ?_; rintro e u5 ⟨rfl, hb⟩; have E5 := E4.on hb; clear hb))
      clear T4 D8 E1 E2 E3 E4 c0 c1 c2 d0 d1 d2
      go_upto_region 10 with (fail)
      have D10 := E5.drew
      go_region_held3 (fun w' => w'.cell? ⟨w.heap.size, 0, none⟩ = some (.int .i64 k) ∧ w'.cell? ⟨w.heap.size, 1, none⟩ = some (.int .i64 n) ∧ w'.cell? ⟨w.heap.size, 2, none⟩ = some (.string s) ∧ w'.cell? ⟨w.heap.size + 1, 0, none⟩ = some (.int .i64 k') ∧ w'.cell? ⟨w.heap.size + 1, 1, none⟩ = some (.int .i64 n') ∧ w'.cell? ⟨w.heap.size + 1, 2, none⟩ = some (.string s'))
        (first | with_reducible exact E7.six | with_reducible exact E6.six | with_reducible exact D10.six)
        (first | (go_at_call 19; refine (HM.out _).mono ?_; rintro e u6 ⟨rfl, hb⟩; have E6 := D10.on hb; clear hb) | (go_at_call 20; refine (HN.out _).mono ?_; rintro e u7 ⟨rfl, hb⟩; have E7 := E6.on hb; clear hb))
      go_wp2
      go_ret
      exact ⟨rfl, E7.bel⟩
    · have HR := Lib.hid (fun w => right_any k n s w)
      have HC := Lib.hid (fun w => check_any k n s w)
      rw [hr] at HR
      rw [show chk k n s = 150 by unfold chk; rw [hr]; rfl] at HC
      clear hr
      have E0' : Eqv 1 0 E0 1 0 { data := #[] } = true := eqv_self 1 0 E0
      have En : Eqv 3 n E0 3 n { data := #[] } = true := eqv_self 3 n E0
      have Es : Eqv 4 0 s 4 0 s = true := eqv_self 4 0 s
      have Et : Eqv 2 (b2i true) E0 2 1 { data := #[] } = true := eqv_self 2 1 E0
      have Ef : Eqv 2 (b2i false) E0 2 0 { data := #[] } = true := eqv_self 2 0 E0
      go_wp2_with fail
      refine (HR.out _).mono ?_
      rintro e w3 ⟨rfl, hb⟩
      have T3 := T2.on hb
      clear hb T2 c0 c1 c2 d0 d1 d2
      obtain ⟨c0, c1, c2, d0, d1, d2⟩ := T3.six
      go_wp2_with fail
      refine (HC.out _).mono ?_
      rintro e w4 ⟨rfl, hb⟩
      have T4 := T3.on hb
      clear hb T3 c0 c1 c2 d0 d1 d2
      obtain ⟨c0, c1, c2, d0, d1, d2⟩ := T4.six
      go_wp2_with fail
      refine (HC.out _).mono ?_
      rintro e w5 ⟨rfl, hb⟩
      have T5 := T4.on hb
      clear hb T4 c0 c1 c2 d0 d1 d2
      obtain ⟨c0, c1, c2, d0, d1, d2⟩ := T5.six
      go_upto_region 8 with (fail)
      have D8 := T5.drew
      go_region_held3 (fun w' => w'.cell? ⟨w.heap.size, 0, none⟩ = some (.int .i64 k) ∧ w'.cell? ⟨w.heap.size, 1, none⟩ = some (.int .i64 n) ∧ w'.cell? ⟨w.heap.size, 2, none⟩ = some (.string s) ∧ w'.cell? ⟨w.heap.size + 1, 0, none⟩ = some (.int .i64 k') ∧ w'.cell? ⟨w.heap.size + 1, 1, none⟩ = some (.int .i64 n') ∧ w'.cell? ⟨w.heap.size + 1, 2, none⟩ = some (.string s'))
        (first | with_reducible exact E5.six | with_reducible exact E4.six | with_reducible exact E3.six | with_reducible exact E2.six | with_reducible exact E1.six | with_reducible exact D8.six)
        (first | (go_at_call 15; refine (null_any _).mono ?_; rintro e u1 ⟨rfl, hb⟩; have E1 := D8.on hb; clear hb) | (go_at_call 16; refine (int_any _ _).mono ?_; rintro e u2 ⟨rfl, hb⟩; have E2 := E1.on hb; clear hb) | (go_at_call 17; refine (text_any _ _).mono ?_; rintro e u3 ⟨rfl, hb⟩; have E3 := E2.on hb; clear hb) | (go_at_call_of 18 (Value.bool true); refine (bool_any _ _).mono ?_; rintro e u4 ⟨rfl, hb⟩; have E4 := E3.on hb; clear hb) | (go_at_call_of 18 (Value.bool false); refine (bool_any _ _).mono ?_; rintro e u5 ⟨rfl, hb⟩; have E5 := E4.on hb; clear hb))
      clear T5 D8 E1 E2 E3 E4 c0 c1 c2 d0 d1 d2
      go_upto_region 10 with (fail)
      have D10 := E5.drew
      go_region_held3 (fun w' => w'.cell? ⟨w.heap.size, 0, none⟩ = some (.int .i64 k) ∧ w'.cell? ⟨w.heap.size, 1, none⟩ = some (.int .i64 n) ∧ w'.cell? ⟨w.heap.size, 2, none⟩ = some (.string s) ∧ w'.cell? ⟨w.heap.size + 1, 0, none⟩ = some (.int .i64 k') ∧ w'.cell? ⟨w.heap.size + 1, 1, none⟩ = some (.int .i64 n') ∧ w'.cell? ⟨w.heap.size + 1, 2, none⟩ = some (.string s'))
        (first | with_reducible exact E7.six | with_reducible exact E6.six | with_reducible exact D10.six)
        (first | (go_at_call 19; refine (HM.out _).mono ?_; rintro e u6 ⟨rfl, hb⟩; have E6 := D10.on hb; clear hb) | (go_at_call 20; refine (HN.out _).mono ?_; rintro e u7 ⟨rfl, hb⟩; have E7 := E6.on hb; clear hb))
      go_wp2
      go_ret
      exact ⟨rfl, E7.bel⟩

end Go.Proofs.Ytndkoefchlclkaa
