/-
  Room for numbers: the document's Room, the program's ends and fits.
-/
import Derived.Test.YtmgaihdepglahaaL1
namespace Go.Proofs.Ytmgaihdepglahaa
open Go.RowKit

theorem room_any (i : Int) (n : Nat) (h0 : 0 ≤ i) (h1 : i < 18446744073709551616) (hn : n ≤ 1000000) (w : World) :
    Calls Try.prog 46 #[.int .u64 i, .int .i64 (n : Int)] w fun e w' => e = .returned (.bool (room i n)) ∧ w = w' := by
  by_cases hi : i ≤ 18446744073709551614
  · have hi' : decide (i ≤ 18446744073709551614) = true := decide_eq_true hi
    have hr : room i n = decide ((n : Int) ≤ 18446744073709551614 - i) := by unfold room; rw [decide_eq_decide]; omega
    rw [hr]
    clear hr
    go_enter Try.func46, Try.ntmps46
    go_wp2
    go_ret
    exact ⟨rfl, rfl⟩
  · have hi' : decide (i ≤ 18446744073709551614) = false := decide_eq_false hi
    have hr : room i n = false := by unfold room; rw [decide_eq_false_iff_not]; omega
    rw [hr]
    clear hr hi
    go_enter Try.func46, Try.ntmps46
    go_wp2
    go_ret
    exact ⟨rfl, rfl⟩

section
variable (bi bt : Int) (A : Option Addr) (n c : Nat) (h0 : 0 ≤ bi) (h1 : bi < 18446744073709551616) (hn : n ≤ 1000000) (w : World)
include h0 h1 hn
theorem ends_any : Calls Try.prog 70 #[.agg #[.int .u64 bi, .int .u64 bt, .slice A n c]] w fun e w' => e = .returned (.bool (room bi n)) ∧ Below w.heap.size w w' := by
  have HB := Lib.hid (show Below w.heap.size w (w.alloc (.cells #[.int .u64 bi, .int .u64 bt, .slice A n c] 81)) from (Below.refl _ _).alloc (Nat.le_refl _) _)
  by_cases hi : bi + n < 18446744073709551616
  · have e1 : (bi + (n : Int)) % 18446744073709551616 = bi + n := by omega
    have e2 : decide (bi ≤ bi + (n : Int)) = true := decide_eq_true (by omega)
    have hr : room bi n = decide (bi + (n : Int) ≤ 18446744073709551614) := rfl
    rw [hr]
    clear hr
    go_enter Try.func70, Try.ntmps70
    go_wp2
    go_ret
    exact ⟨rfl, HB.out⟩
  · have e1 : IntKind.u64.wrap (bi + (n : Int)) = bi + n - 18446744073709551616 := by rw [IntKind.wrap_u64]; omega
    have e2 : decide (bi ≤ bi + (n : Int) - 18446744073709551616) = false := decide_eq_false (by omega)
    have hr : room bi n = false := by unfold room; rw [decide_eq_false_iff_not]; omega
    rw [hr]
    clear hr hi
    go_enter Try.func70, Try.ntmps70
    go_wp2
    go_ret
    exact ⟨rfl, HB.out⟩

theorem fits_any : Calls Try.prog 72 #[.agg #[.int .u64 bi, .int .u64 bt, .slice A n c]] w fun e w' => e = .returned (.bool (decide (n ≤ 16) && room bi n)) ∧ Below w.heap.size w w' := by
  have b0 : Blk (w.alloc (.cells #[.int .u64 bi, .int .u64 bt, .slice A n c] 81)) w.heap.size 81 #[.int .u64 bi, .int .u64 bt, .slice A n c] := Blk.new w 81 _
  have hb0 : Below w.heap.size w (w.alloc (.cells #[.int .u64 bi, .int .u64 bt, .slice A n c] 81)) := (Below.refl _ _).alloc (Nat.le_refl _) _
  have HB := Lib.hid hb0
  have HS := Lib.hid hb0.size
  by_cases hi : n ≤ 16
  · have e1 : decide ((n : Int) ≤ 16) = true := decide_eq_true (by omega)
    have EN := Lib.hid (fun w => ends_any bi bt A n c h0 h1 hn w)
    rw [decide_eq_true hi, Bool.true_and]
    clear hi
    go_enter Try.func72, Try.ntmps72
    go_wp2_with (go_at_call 70; refine (EN.out _).mono ?_; rintro e w' ⟨rfl, hb⟩)
    go_ret
    exact ⟨rfl, HB.out.trans (hb.mono HS.out)⟩
  · have e1 : decide ((n : Int) ≤ 16) = false := decide_eq_false (by omega)
    rw [decide_eq_false hi, Bool.false_and]
    clear hi
    go_enter Try.func72, Try.ntmps72
    go_wp2
    go_ret
    exact ⟨rfl, HB.out⟩
end

end Go.Proofs.Ytmgaihdepglahaa
