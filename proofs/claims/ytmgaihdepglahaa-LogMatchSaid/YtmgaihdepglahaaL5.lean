/-
  Logs as values in memory; which may be: the program's mayBe, the document's Right.
-/
import Derived.Test.YtmgaihdepglahaaL4
namespace Go.Proofs.Ytmgaihdepglahaa
open Go.RowKit

/-- A log's value: its entries below block B, its numbers in their bounds. -/
structure Lr (w : World) (B : Nat) (A : Option Addr) (n c : Nat) (l : Lg) : Prop where
  es : Es w B A n l.es
  nc : n ≤ c
  nil : A = none → c = 0
  n : n ≤ 1000
  bi0 : 0 ≤ l.bi
  bi1 : l.bi < 18446744073709551616
  bt0 : 0 ≤ l.bt
  bt1 : l.bt < 18446744073709551616
section
variable {w w' : World} {B B' n c : Nat} {A : Option Addr} {l : Lg}
theorem Lr.below (h : Lr w B A n c l) (hb : Below B w w') : Lr w' B A n c l := ⟨h.es.below hb, h.nc, h.nil, h.n, h.bi0, h.bi1, h.bt0, h.bt1⟩
theorem Lr.more (h : Lr w B A n c l) (hb : B ≤ B') : Lr w B' A n c l := ⟨h.es.more hb, h.nc, h.nil, h.n, h.bi0, h.bi1, h.bt0, h.bt1⟩
theorem Lr.alloc (h : Lr w B A n c l) (hB : B ≤ w.heap.size) (o : Obj) : Lr (w.alloc o) B A n c l := ⟨h.es.alloc hB o, h.nc, h.nil, h.n, h.bi0, h.bi1, h.bt0, h.bt1⟩
theorem Lr.drew (h : Lr w B A n c l) : Lr w.drew B A n c l := ⟨h.es.drew, h.nc, h.nil, h.n, h.bi0, h.bi1, h.bt0, h.bt1⟩
theorem Lr.len (h : Lr w B A n c l) : l.es.length = n := h.es.len
end

set_option maxHeartbeats 1000000 in
theorem maybe_any (l : Lg) (A : Option Addr) (n c B : Nat) (w : World) (h : Lr w B A n c l) (hB : B ≤ w.heap.size) :
    Calls Try.prog 56 #[.agg #[.int .u64 l.bi, .int .u64 l.bt, .slice A n c]] w fun e w' => e = .returned (.bool (right l)) ∧ Below w.heap.size w w' := by
  obtain ⟨bi, bt, es⟩ := l
  obtain ⟨hes, hnc, hnil, hn, hi0, hi1, ht0, ht1⟩ := h
  simp only at hes hi0 hi1 ht0 ht1
  have hr : right ⟨bi, bt, es⟩ = ((decide (n ≤ 16) && room bi n) && (((bi == 0) == (bt == 0)) && behind bt es)) := by
    unfold right
    simp only [hes.len]
    rw [show (decide (bi = 0) == decide (bt = 0)) = ((bi == 0) == (bt == 0)) from rfl]
    generalize ((bi == 0) == (bt == 0)) = X
    generalize decide (n ≤ 16) = Y
    generalize room bi n = Z
    generalize behind bt es = U
    revert X Y Z U
    decide
  have FT := Lib.hid (fun w => fits_any bi bt A n c hi0 hi1 (by omega) w)
  have MS := Lib.hid (fun W (hW : Below B w W) => maystand_any bt A n c es B W ht0 (by omega) (hes.below hW) (Nat.le_trans hB hW.size))
  have HB := Lib.hid (show Below w.heap.size w (w.alloc (.cells #[.int .u64 bi, .int .u64 bt, .slice A n c] 81)) from (Below.refl _ _).alloc (Nat.le_refl _) _)
  have B0 := Lib.hid (Blk.new w 81 #[.int .u64 bi, .int .u64 bt, .slice A n c])
  rw [hr]
  clear hr hes
  generalize (decide (n ≤ 16) && room bi n) = X at *
  cases X with
  | false =>
    go_enter Try.func56, Try.ntmps56
    go_wp2_with (go_at_call 72; refine (FT.out _).mono ?_; rintro e w1 ⟨rfl, hb1⟩)
    go_ret
    exact ⟨rfl, HB.out.trans (hb1.mono HB.out.size)⟩
  | true =>
    rw [Bool.true_and]
    cases hY : ((bi == 0) == (bt == 0)) with
    | false =>
      go_enter Try.func56, Try.ntmps56
      go_wp2_with (go_at_call 72; refine (FT.out _).mono ?_; rintro e w1 ⟨rfl, hb1⟩; have bx := B0.out.below hb1 (by simp); have d0 : w1.cell? ⟨w.heap.size, 0, none⟩ = some (.int .u64 bi) := bx.cell 0; have d1 : w1.cell? ⟨w.heap.size, 1, none⟩ = some (.int .u64 bt) := bx.cell 1; have d2 : w1.cell? ⟨w.heap.size, 2, none⟩ = some (.slice A n c) := bx.cell 2; have HB1 := Lib.hid (HB.out.trans (hb1.mono HB.out.size)); clear hb1 bx)
      go_ret
      exact ⟨rfl, HB1.out⟩
    | true =>
      rw [Bool.true_and]
      go_enter Try.func56, Try.ntmps56
      go_wp2_with (first | (go_at_call 72; refine (FT.out _).mono ?_; rintro e w1 ⟨rfl, hb1⟩; have bx := B0.out.below hb1 (by simp); have d0 : w1.cell? ⟨w.heap.size, 0, none⟩ = some (.int .u64 bi) := bx.cell 0; have d1 : w1.cell? ⟨w.heap.size, 1, none⟩ = some (.int .u64 bt) := bx.cell 1; have d2 : w1.cell? ⟨w.heap.size, 2, none⟩ = some (.slice A n c) := bx.cell 2; have HB1 := Lib.hid (HB.out.trans (hb1.mono HB.out.size)); clear hb1 bx) | (go_at_call 71; refine (MS.out _ (HB1.out.mono hB)).mono ?_; rintro e w2 ⟨rfl, hb2⟩))
      go_ret
      exact ⟨rfl, HB1.out.trans (hb2.mono HB1.out.size)⟩

set_option maxHeartbeats 1000000 in
theorem refright_any (l : Lg) (A : Option Addr) (n c B : Nat) (w : World) (h : Lr w B A n c l) (hB : B ≤ w.heap.size) :
    Calls Try.prog 12 #[.agg #[.int .u64 l.bi, .int .u64 l.bt, .slice A n c]] w fun e w' => e = .returned (.bool (right l)) ∧ Below w.heap.size w w' := by
  obtain ⟨bi, bt, es⟩ := l
  obtain ⟨hes, hnc, hnil, hn, hi0, hi1, ht0, ht1⟩ := h
  simp only at hes hi0 hi1 ht0 ht1
  have hr : right ⟨bi, bt, es⟩ = (((bi == 0) == (bt == 0)) && (decide (n ≤ 16) && (behind bt es && room bi n))) := by
    unfold right
    simp only [hes.len]
    rfl
  have RM := Lib.hid (fun w => room_any bi n hi0 hi1 (by omega) w)
  have MS := Lib.hid (fun W (hW : Below B w W) => refbehind_any es bt A n c B W ht0 (by omega) hnc (hes.below hW) (Nat.le_trans hB hW.size))
  have HB := Lib.hid (show Below w.heap.size w (w.alloc (.cells #[.int .u64 bi, .int .u64 bt, .slice A n c] 27)) from (Below.refl _ _).alloc (Nat.le_refl _) _)
  have B0 := Lib.hid (Blk.new w 27 #[.int .u64 bi, .int .u64 bt, .slice A n c])
  rw [hr]
  clear hr hes
  cases hp : (bi == 0) with
  | false =>
    cases hq : (bt == 0) with
    | false =>
      rw [show ((false == false) && (decide (n ≤ 16) && (behind bt es && room bi n))) = (decide (n ≤ 16) && (behind bt es && room bi n)) from rfl]
      by_cases h16 : n ≤ 16
      · have h16' : decide (16 < (n : Int)) = false := decide_eq_false (by omega)
        rw [decide_eq_true h16, Bool.true_and]
        clear h16
        cases hbe : behind bt es with
        | false =>
          rw [hbe] at MS
          clear hbe
          go_enter Try.func12, Try.ntmps12
          go_wp2_with (go_at_call 45; refine (MS.out _ (HB.out.mono hB)).mono ?_; rintro e w1 ⟨rfl, hb1⟩)
          go_ret
          exact ⟨rfl, HB.out.trans (hb1.mono HB.out.size)⟩
        | true =>
          rw [hbe] at MS
          rw [Bool.true_and]
          clear hbe
          go_enter Try.func12, Try.ntmps12
          go_wp2_with (first | (go_at_call 45; refine (MS.out _ (HB.out.mono hB)).mono ?_; rintro e w1 ⟨rfl, hb1⟩; have bx := B0.out.below hb1 (by simp); have d0 : w1.cell? ⟨w.heap.size, 0, none⟩ = some (.int .u64 bi) := bx.cell 0; have d1 : w1.cell? ⟨w.heap.size, 1, none⟩ = some (.int .u64 bt) := bx.cell 1; have d2 : w1.cell? ⟨w.heap.size, 2, none⟩ = some (.slice A n c) := bx.cell 2; have HB1 := Lib.hid (HB.out.trans (hb1.mono HB.out.size)); clear hb1 bx) | (go_at_call 46; refine (RM.out _).mono ?_; rintro e w2 ⟨rfl, rfl⟩))
          go_ret
          exact ⟨rfl, HB1.out⟩
      · have h16' : decide (16 < (n : Int)) = true := decide_eq_true (by omega)
        rw [decide_eq_false h16, Bool.false_and]
        clear h16
        go_enter Try.func12, Try.ntmps12
        go_wp2
        go_ret
        exact ⟨rfl, HB.out⟩
    | true =>
      rw [show ((false == true) && (decide (n ≤ 16) && (behind bt es && room bi n))) = false from rfl]
      go_enter Try.func12, Try.ntmps12
      go_wp2
      go_ret
      exact ⟨rfl, HB.out⟩
  | true =>
    cases hq : (bt == 0) with
    | false =>
      rw [show ((true == false) && (decide (n ≤ 16) && (behind bt es && room bi n))) = false from rfl]
      go_enter Try.func12, Try.ntmps12
      go_wp2
      go_ret
      exact ⟨rfl, HB.out⟩
    | true =>
      rw [show ((true == true) && (decide (n ≤ 16) && (behind bt es && room bi n))) = (decide (n ≤ 16) && (behind bt es && room bi n)) from rfl]
      by_cases h16 : n ≤ 16
      · have h16' : decide (16 < (n : Int)) = false := decide_eq_false (by omega)
        rw [decide_eq_true h16, Bool.true_and]
        clear h16
        cases hbe : behind bt es with
        | false =>
          rw [hbe] at MS
          clear hbe
          go_enter Try.func12, Try.ntmps12
          go_wp2_with (go_at_call 45; refine (MS.out _ (HB.out.mono hB)).mono ?_; rintro e w1 ⟨rfl, hb1⟩)
          go_ret
          exact ⟨rfl, HB.out.trans (hb1.mono HB.out.size)⟩
        | true =>
          rw [hbe] at MS
          rw [Bool.true_and]
          clear hbe
          go_enter Try.func12, Try.ntmps12
          go_wp2_with (first | (go_at_call 45; refine (MS.out _ (HB.out.mono hB)).mono ?_; rintro e w1 ⟨rfl, hb1⟩; have bx := B0.out.below hb1 (by simp); have d0 : w1.cell? ⟨w.heap.size, 0, none⟩ = some (.int .u64 bi) := bx.cell 0; have d1 : w1.cell? ⟨w.heap.size, 1, none⟩ = some (.int .u64 bt) := bx.cell 1; have d2 : w1.cell? ⟨w.heap.size, 2, none⟩ = some (.slice A n c) := bx.cell 2; have HB1 := Lib.hid (HB.out.trans (hb1.mono HB.out.size)); clear hb1 bx) | (go_at_call 46; refine (RM.out _).mono ?_; rintro e w2 ⟨rfl, rfl⟩))
          go_ret
          exact ⟨rfl, HB1.out⟩
      · have h16' : decide (16 < (n : Int)) = true := decide_eq_true (by omega)
        rw [decide_eq_false h16, Bool.false_and]
        clear h16
        go_enter Try.func12, Try.ntmps12
        go_wp2
        go_ret
        exact ⟨rfl, HB.out⟩

end Go.Proofs.Ytmgaihdepglahaa
