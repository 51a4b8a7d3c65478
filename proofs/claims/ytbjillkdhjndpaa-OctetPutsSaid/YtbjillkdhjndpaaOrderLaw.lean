/-
  The law OctetOrder, walked.
-/
import Derived.Test.YtbjillkdhjndpaaOrder
namespace Go.Proofs.Ytbjillkdhjndpaa
open Go.RowKit

theorem Blk.at_ {w : World} {g : Nat} {zs : List Int} (h : Blk w g 5 (zs.map (Value.int .u8)).toArray) (j : Nat) (hj : j < zs.length) : w.cell? ⟨g, j, none⟩ = some (.int .u8 (zs.getD j 0)) := by
  rw [h.cell j]
  simp [List.getD, List.getElem?_eq_getElem hj]

/-- Two numbers put into new memory, and what was known below. -/
theorem two_puts {w w1 w2 : World} {s : Nat} {x y : Int} (h1 : Blk w1 w.heap.size 5 (([] ++ be s x).map (Value.int .u8)).toArray) (b1 : Below w.heap.size w w1)
    (h2 : Blk w2 w1.heap.size 5 (([] ++ be s y).map (Value.int .u8)).toArray) (b2 : Below w1.heap.size w1 w2) :
    (∀ j, j < s → w2.cell? ⟨w.heap.size, j, none⟩ = some (.int .u8 ((be s x).getD j 0))) ∧ (∀ j, j < s → w2.cell? ⟨w1.heap.size, j, none⟩ = some (.int .u8 ((be s y).getD j 0))) ∧ Below w.heap.size w w2 := by
  rw [List.nil_append] at h1 h2
  exact ⟨fun j hj => (h1.below b2 h1.lt).at_ j (by rw [be_len]; exact hj), fun j hj => h2.at_ j (by rw [be_len]; exact hj), b1.trans (b2.mono b1.size)⟩

set_option maxHeartbeats 2000000 in
theorem order_walk (x y : Int) (w : World) (hx : 0 ≤ x ∧ x ≤ 18446744073709551615) (hy : 0 ≤ y ∧ y ≤ 18446744073709551615) :
    Calls Try.prog 8 #[.int .u64 x, .int .u64 y] w fun e w' => e = .returned (.bool true) ∧ Below w.heap.size w w' := by
  go_enter Try.func8, Try.ntmps8
  go_wp2_with (go_at_call 11; refine (wakes_any _).mono ?_; rintro e w1 ⟨rfl, hB1⟩)
  refine (Put64_any none 0 0 [] x w1 0 By.none_ (by omega) (by omega)).mono ?_
  rintro e w2 ⟨rfl, hk2, hb2⟩
  go_wp2_with fail
  refine (Put64_any none 0 0 [] y w2 0 By.none_ (by omega) (by omega)).mono ?_
  rintro e w3 ⟨rfl, hk3, hb3⟩
  obtain ⟨cx, cy, hB3⟩ := two_puts hk2 hb2 hk3 hb3
  have CX := Lib.hid cx
  have CY := Lib.hid cy
  have hB3' := hB1.trans (hB3.mono hB1.size)
  clear cx cy hk2 hb2 hk3 hb3 hB3 hB1
  generalize w1.heap.size = g1 at *
  generalize w2.heap.size = g2 at *
  go_wp2_with fail
  refine (bcompare_any w3 g1 g2 8 8 8 8 (be 8 x) (be 8 y) (be_len _ _) (be_len _ _) CX.out CY.out).mono ?_
  rintro e w' ⟨rfl, rfl⟩
  rw [cmp_be_int 8 x y (by omega) (by omega)]
  go_wp2_with fail
  refine (ccompare64 x y _).mono ?_
  rintro e w' ⟨rfl, rfl⟩
  generalize hc3 : cmp3 x y = z
  have ez : (z == z) = true := by simp
  clear hc3
  go_wp2_with fail
  refine (Put32_any none 0 0 [] (x % 4294967296) w3 0 By.none_ (by omega) (by omega)).mono ?_
  rintro e w4 ⟨rfl, hk4, hb4⟩
  go_wp2_with fail
  refine (Put32_any none 0 0 [] (y % 4294967296) w4 0 By.none_ (by omega) (by omega)).mono ?_
  rintro e w5 ⟨rfl, hk5, hb5⟩
  obtain ⟨cx, cy, hB5⟩ := two_puts hk4 hb4 hk5 hb5
  have CX5 := Lib.hid cx
  have CY5 := Lib.hid cy
  have hB5' := hB3'.trans (hB5.mono hB3'.size)
  clear cx cy hk4 hb4 hk5 hb5 hB5 hB3' CX CY
  generalize w3.heap.size = g3 at *
  generalize w4.heap.size = g4 at *
  go_wp2_with fail
  refine (bcompare_any w5 g3 g4 4 4 4 4 (be 4 _) (be 4 _) (be_len _ _) (be_len _ _) CX5.out CY5.out).mono ?_
  rintro e w' ⟨rfl, rfl⟩
  rw [cmp_be_int 4 _ _ (by omega) (by omega)]
  go_wp2_with fail
  refine (ccompare32 _ _ _).mono ?_
  rintro e w' ⟨rfl, rfl⟩
  generalize hc5 : cmp3 (x % 4294967296) (y % 4294967296) = z5
  have ez5 : (z5 == z5) = true := by simp
  clear hc5
  go_wp2_with fail
  have wx : 0 ≤ IntKind.u16.wrap x ∧ IntKind.u16.wrap x < 65536 := by rw [IntKind.wrap_u16]; omega
  have wy : 0 ≤ IntKind.u16.wrap y ∧ IntKind.u16.wrap y < 65536 := by rw [IntKind.wrap_u16]; omega
  refine (Put16_any none 0 0 [] (IntKind.u16.wrap x) w5 0 By.none_ (by omega) wx).mono ?_
  rintro e w6 ⟨rfl, hk6, hb6⟩
  go_wp2_with fail
  refine (Put16_any none 0 0 [] (IntKind.u16.wrap y) w6 0 By.none_ (by omega) wy).mono ?_
  rintro e w7 ⟨rfl, hk7, hb7⟩
  obtain ⟨cx, cy, hB7⟩ := two_puts hk6 hb6 hk7 hb7
  have CX7 := Lib.hid cx
  have CY7 := Lib.hid cy
  have hB7' := hB5'.trans (hB7.mono hB5'.size)
  clear cx cy hk6 hb6 hk7 hb7 hB7 hB5' CX5 CY5
  generalize w5.heap.size = g5 at *
  generalize w6.heap.size = g6 at *
  go_wp2_with fail
  refine (bcompare_any w7 g5 g6 2 2 2 2 (be 2 _) (be 2 _) (be_len _ _) (be_len _ _) CX7.out CY7.out).mono ?_
  rintro e w' ⟨rfl, rfl⟩
  rw [cmp_be_int 2 _ _ (by omega) (by omega)]
  go_wp2_with fail
  refine (ccompare16 _ _ _).mono ?_
  rintro e w' ⟨rfl, rfl⟩
  generalize hc7 : cmp3 (IntKind.u16.wrap x) (IntKind.u16.wrap y) = z7
  have ez7 : (z7 == z7) = true := by simp
  clear hc7
  go_wp2
  go_ret
  exact ⟨rfl, hB7'⟩

end Go.Proofs.Ytbjillkdhjndpaa
