/-
  The layer does something.
-/
import Derived.Test.YtndkoefchlclkaaW6
import Derived.Test.YtndkoefchlclkaaVC
namespace Go.Proofs.Ytndkoefchlclkaa
open Go.RowKit
attribute [local go_sem ↓] eqV neV eqG

theorem Below.on {w0 w w' : World} (h : Hid (Below w0.heap.size w0 w)) (hb : Below w.heap.size w w') : Hid (Below w0.heap.size w0 w') := h.out.trans (hb.mono h.out.size)
theorem wk_enc : encF 3 (-1) E0 = [3, 127, 255, 255, 255, 255, 255, 255, 255] := by decide +kernel
theorem wk_dec : decF [3, 127, 255, 255, 255, 255, 255, 255, 255] = (3, -1, E0, 9, 0) := by decide +kernel
theorem wk_reck (w : World) : Told3 w (recK 1 3 2 E0 3 3 E0) (recN 1 3 2 E0 3 3 E0) (recE 1 3 2 E0 3 3 E0) = Told3 w 3 5 0 := by
  rw [show recK 1 3 2 E0 3 3 E0 = 3 by decide +kernel, show recN 1 3 2 E0 3 3 E0 = 5 by decide +kernel, show recE 1 3 2 E0 3 3 E0 = 0 by decide +kernel]
theorem wk_test (w : World) : Told w (tstT 3 4 0 { data := #[97] } 4 0 { data := #[98] }) (tstE 3 4 0 { data := #[97] } 4 0 { data := #[98] }) = Told w 1 0 := by
  rw [show tstT 3 4 0 { data := #[97] } 4 0 { data := #[98] } = 1 by decide +kernel, show tstE 3 4 0 { data := #[97] } 4 0 { data := #[98] } = 0 by decide +kernel]

set_option maxRecDepth 100000 in
set_option maxHeartbeats 2000000 in
theorem wakes_any (w : World) : Calls Try.prog 11 #[] w fun e w' => e = .returned (.bool true) ∧ Below w.heap.size w w' := by
  have B0 : Hid (Below w.heap.size w w) := Below.refl _ _
  go_enter Try.func11, Try.ntmps11
  go_wp2_with fail
  refine (int_any _ _).mono ?_
  rintro e w1 ⟨rfl, hb⟩
  have B1 := Below.on B0 hb
  clear hb B0
  go_wp2_with fail
  refine (encode_any 3 (-1) E0 (by decide) w1).mono ?_
  rw [wk_enc]
  rintro e w2 ⟨A, c, rfl, ho, hb⟩
  have B2 := Below.on B1 hb
  have BY := Lib.hid ho.by
  have CP := Lib.hid ho.cap
  clear hb B1 ho
  simp only [List.length_cons, List.length_nil] at CP BY ⊢
  go_wp2_with fail
  refine (decode_any A 9 c _ w2 BY.out CP.out (by omega)).mono ?_
  rw [wk_dec]
  rintro e w3 ⟨rfl, hb⟩
  have B3 := Below.on B2 hb
  clear hb B2 BY CP
  go_upto_region 3 with (fail)
  have V4 : Hid (Blk (w3.alloc (.cells #[.int .i64 3, .int .i64 (-1), .string E0] 23)) w3.heap.size 23 #[.int .i64 3, .int .i64 (-1), .string E0]) := Blk.new _ _ _
  have B4 := Lib.hid (B3.out.alloc B3.out.size (.cells #[.int .i64 3, .int .i64 (-1), .string E0] 23))
  clear B3
  generalize w3.alloc (.cells #[.int .i64 3, .int .i64 (-1), .string E0] 23) = w4 at *
  generalize w3.heap.size = g at *
  go_wp2_with fail
  refine (int_any _ _).mono ?_
  rintro e w5 ⟨rfl, hb⟩
  have B5 := Below.on B4 hb
  have V5 := Lib.hid (V4.out.below hb V4.out.lt)
  clear hb B4 V4
  go_wp2_with fail
  refine (int_any _ _).mono ?_
  rintro e w6 ⟨rfl, hb⟩
  have B6 := Below.on B5 hb
  have V6 := Lib.hid (V5.out.below hb V5.out.lt)
  clear hb B5 V5
  go_wp2_with fail
  refine (reckon_any 1 3 2 E0 3 3 E0 w6 (by unfold I64; omega) (by unfold I64; omega)).mono ?_
  rw [wk_reck]
  rintro e w7 ⟨rfl, hb⟩
  have B7 := Below.on B6 hb
  have V7 := Lib.hid (V6.out.below hb V6.out.lt)
  clear hb B6 V6
  go_upto_region 4 with (fail)
  have U8 : Hid (Blk (w7.alloc (.cells #[.int .i64 3, .int .i64 5, .string E0] 23)) w7.heap.size 23 #[.int .i64 3, .int .i64 5, .string E0]) := Blk.new _ _ _
  have B8 := Lib.hid (B7.out.alloc B7.out.size (.cells #[.int .i64 3, .int .i64 5, .string E0] 23))
  have V8 := Lib.hid (V7.out.alloc (.cells #[.int .i64 3, .int .i64 5, .string E0] 23))
  clear B7 V7
  generalize w7.alloc (.cells #[.int .i64 3, .int .i64 5, .string E0] 23) = w8 at *
  generalize w7.heap.size = g' at *
  go_wp2_with fail
  refine (text_any _ _).mono ?_
  rintro e w9 ⟨rfl, hb⟩
  have B9 := Below.on B8 hb
  have V9 := Lib.hid (V8.out.below hb V8.out.lt)
  have U9 := Lib.hid (U8.out.below hb U8.out.lt)
  clear hb B8 V8 U8
  go_wp2_with fail
  refine (text_any _ _).mono ?_
  rintro e wa ⟨rfl, hb⟩
  have BA := Below.on B9 hb
  have VA := Lib.hid (V9.out.below hb V9.out.lt)
  have UA := Lib.hid (U9.out.below hb U9.out.lt)
  clear hb B9 V9 U9
  go_wp2_with fail
  refine (test_any _ _ _ _ _ _ _ _).mono ?_
  rw [wk_test]
  rintro e wb ⟨rfl, hb⟩
  have BB := Below.on BA hb
  have VB := Lib.hid (VA.out.below hb VA.out.lt)
  have UB := Lib.hid (UA.out.below hb UA.out.lt)
  clear hb BA VA UA
  have c0 := VB.out.cell 1
  have c1 := UB.out.cell 1
  go_wp2
  go_ret
  exact ⟨rfl, BB.out⟩

end Go.Proofs.Ytndkoefchlclkaa
