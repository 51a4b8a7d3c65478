/-
  The document's own Order; rows of what is mixed, opened.
-/
import Derived.Test.YtbemnolgolecaaaDoorM1
import Derived.Test.YtbemnolgolecaaaDoorS0
import Derived.Test.YtbemnolgolecaaaDoorD1
import Derived.Test.YtbemnolgolecaaaDoorRows
import Derived.Deep.Slices
import Derived.Lib.SmallJoins
namespace Go.Proofs.YtbemnolgolecaaaDoor
open Go.ChangeShapes Go.WideShapes Go.ChangeAt Go.RowKit Go.Deep Go.Joins

/-- The document's orders, as it writes them. -/
def ordT : List ByteArray := [⟨#[48, 49, 50, 51, 52, 53, 54, 55, 56, 57, 97, 98, 99, 100, 101, 102]⟩, ⟨#[101, 97, 52, 56, 57, 102, 100, 54, 49, 99, 48, 50, 98, 55, 53, 51]⟩, ⟨#[98, 56, 99, 48, 53, 50, 102, 100, 97, 101, 51, 54, 55, 49, 57, 52]⟩, ⟨#[55, 57, 51, 49, 100, 99, 98, 101, 50, 54, 53, 97, 52, 48, 102, 56]⟩, ⟨#[57, 48, 53, 55, 50, 52, 97, 102, 101, 49, 98, 99, 54, 56, 51, 100]⟩, ⟨#[50, 99, 54, 97, 48, 98, 56, 51, 52, 100, 55, 53, 102, 101, 49, 57]⟩, ⟨#[99, 53, 49, 102, 101, 100, 52, 97, 48, 55, 54, 51, 57, 50, 56, 98]⟩, ⟨#[100, 98, 55, 101, 99, 49, 51, 57, 53, 48, 102, 52, 56, 54, 50, 97]⟩, ⟨#[54, 102, 101, 57, 98, 51, 48, 56, 99, 50, 100, 55, 49, 52, 97, 53]⟩, ⟨#[97, 50, 56, 52, 55, 54, 49, 53, 102, 98, 57, 101, 51, 99, 100, 48]⟩]
def ordS (k : Nat) : ByteArray := ordT.getD k ⟨#[]⟩
theorem ordS_size (k : Nat) (hk : k < 10) : (ordS k).size = 16 := by
  have all : ∀ k : Fin 10, (ordS k.val).size = 16 := by decide
  exact all ⟨k, hk⟩
theorem ix69_0 (w : World) : (Instr.index 69 (.agg #[.string { data := #[48, 49, 50, 51, 52, 53, 54, 55, 56, 57, 97, 98, 99, 100, 101, 102] }, .string { data := #[101, 97, 52, 56, 57, 102, 100, 54, 49, 99, 48, 50, 98, 55, 53, 51] }, .string { data := #[98, 56, 99, 48, 53, 50, 102, 100, 97, 101, 51, 54, 55, 49, 57, 52] }, .string { data := #[55, 57, 51, 49, 100, 99, 98, 101, 50, 54, 53, 97, 52, 48, 102, 56] }, .string { data := #[57, 48, 53, 55, 50, 52, 97, 102, 101, 49, 98, 99, 54, 56, 51, 100] }, .string { data := #[50, 99, 54, 97, 48, 98, 56, 51, 52, 100, 55, 53, 102, 101, 49, 57] }, .string { data := #[99, 53, 49, 102, 101, 100, 52, 97, 48, 55, 54, 51, 57, 50, 56, 98] }, .string { data := #[100, 98, 55, 101, 99, 49, 51, 57, 53, 48, 102, 52, 56, 54, 50, 97] }, .string { data := #[54, 102, 101, 57, 98, 51, 48, 56, 99, 50, 100, 55, 49, 52, 97, 53] }, .string { data := #[97, 50, 56, 52, 55, 54, 49, 53, 102, 98, 57, 101, 51, 99, 100, 48] }]) (.int .i64 ((0 : Nat) : Int))).run Tryd.prog w = .ok (.string (ordS 0)) w := by kernel_rfl
theorem ix69_1 (w : World) : (Instr.index 69 (.agg #[.string { data := #[48, 49, 50, 51, 52, 53, 54, 55, 56, 57, 97, 98, 99, 100, 101, 102] }, .string { data := #[101, 97, 52, 56, 57, 102, 100, 54, 49, 99, 48, 50, 98, 55, 53, 51] }, .string { data := #[98, 56, 99, 48, 53, 50, 102, 100, 97, 101, 51, 54, 55, 49, 57, 52] }, .string { data := #[55, 57, 51, 49, 100, 99, 98, 101, 50, 54, 53, 97, 52, 48, 102, 56] }, .string { data := #[57, 48, 53, 55, 50, 52, 97, 102, 101, 49, 98, 99, 54, 56, 51, 100] }, .string { data := #[50, 99, 54, 97, 48, 98, 56, 51, 52, 100, 55, 53, 102, 101, 49, 57] }, .string { data := #[99, 53, 49, 102, 101, 100, 52, 97, 48, 55, 54, 51, 57, 50, 56, 98] }, .string { data := #[100, 98, 55, 101, 99, 49, 51, 57, 53, 48, 102, 52, 56, 54, 50, 97] }, .string { data := #[54, 102, 101, 57, 98, 51, 48, 56, 99, 50, 100, 55, 49, 52, 97, 53] }, .string { data := #[97, 50, 56, 52, 55, 54, 49, 53, 102, 98, 57, 101, 51, 99, 100, 48] }]) (.int .i64 ((1 : Nat) : Int))).run Tryd.prog w = .ok (.string (ordS 1)) w := by kernel_rfl
theorem ix69_2 (w : World) : (Instr.index 69 (.agg #[.string { data := #[48, 49, 50, 51, 52, 53, 54, 55, 56, 57, 97, 98, 99, 100, 101, 102] }, .string { data := #[101, 97, 52, 56, 57, 102, 100, 54, 49, 99, 48, 50, 98, 55, 53, 51] }, .string { data := #[98, 56, 99, 48, 53, 50, 102, 100, 97, 101, 51, 54, 55, 49, 57, 52] }, .string { data := #[55, 57, 51, 49, 100, 99, 98, 101, 50, 54, 53, 97, 52, 48, 102, 56] }, .string { data := #[57, 48, 53, 55, 50, 52, 97, 102, 101, 49, 98, 99, 54, 56, 51, 100] }, .string { data := #[50, 99, 54, 97, 48, 98, 56, 51, 52, 100, 55, 53, 102, 101, 49, 57] }, .string { data := #[99, 53, 49, 102, 101, 100, 52, 97, 48, 55, 54, 51, 57, 50, 56, 98] }, .string { data := #[100, 98, 55, 101, 99, 49, 51, 57, 53, 48, 102, 52, 56, 54, 50, 97] }, .string { data := #[54, 102, 101, 57, 98, 51, 48, 56, 99, 50, 100, 55, 49, 52, 97, 53] }, .string { data := #[97, 50, 56, 52, 55, 54, 49, 53, 102, 98, 57, 101, 51, 99, 100, 48] }]) (.int .i64 ((2 : Nat) : Int))).run Tryd.prog w = .ok (.string (ordS 2)) w := by kernel_rfl
theorem ix69_3 (w : World) : (Instr.index 69 (.agg #[.string { data := #[48, 49, 50, 51, 52, 53, 54, 55, 56, 57, 97, 98, 99, 100, 101, 102] }, .string { data := #[101, 97, 52, 56, 57, 102, 100, 54, 49, 99, 48, 50, 98, 55, 53, 51] }, .string { data := #[98, 56, 99, 48, 53, 50, 102, 100, 97, 101, 51, 54, 55, 49, 57, 52] }, .string { data := #[55, 57, 51, 49, 100, 99, 98, 101, 50, 54, 53, 97, 52, 48, 102, 56] }, .string { data := #[57, 48, 53, 55, 50, 52, 97, 102, 101, 49, 98, 99, 54, 56, 51, 100] }, .string { data := #[50, 99, 54, 97, 48, 98, 56, 51, 52, 100, 55, 53, 102, 101, 49, 57] }, .string { data := #[99, 53, 49, 102, 101, 100, 52, 97, 48, 55, 54, 51, 57, 50, 56, 98] }, .string { data := #[100, 98, 55, 101, 99, 49, 51, 57, 53, 48, 102, 52, 56, 54, 50, 97] }, .string { data := #[54, 102, 101, 57, 98, 51, 48, 56, 99, 50, 100, 55, 49, 52, 97, 53] }, .string { data := #[97, 50, 56, 52, 55, 54, 49, 53, 102, 98, 57, 101, 51, 99, 100, 48] }]) (.int .i64 ((3 : Nat) : Int))).run Tryd.prog w = .ok (.string (ordS 3)) w := by kernel_rfl
theorem ix69_4 (w : World) : (Instr.index 69 (.agg #[.string { data := #[48, 49, 50, 51, 52, 53, 54, 55, 56, 57, 97, 98, 99, 100, 101, 102] }, .string { data := #[101, 97, 52, 56, 57, 102, 100, 54, 49, 99, 48, 50, 98, 55, 53, 51] }, .string { data := #[98, 56, 99, 48, 53, 50, 102, 100, 97, 101, 51, 54, 55, 49, 57, 52] }, .string { data := #[55, 57, 51, 49, 100, 99, 98, 101, 50, 54, 53, 97, 52, 48, 102, 56] }, .string { data := #[57, 48, 53, 55, 50, 52, 97, 102, 101, 49, 98, 99, 54, 56, 51, 100] }, .string { data := #[50, 99, 54, 97, 48, 98, 56, 51, 52, 100, 55, 53, 102, 101, 49, 57] }, .string { data := #[99, 53, 49, 102, 101, 100, 52, 97, 48, 55, 54, 51, 57, 50, 56, 98] }, .string { data := #[100, 98, 55, 101, 99, 49, 51, 57, 53, 48, 102, 52, 56, 54, 50, 97] }, .string { data := #[54, 102, 101, 57, 98, 51, 48, 56, 99, 50, 100, 55, 49, 52, 97, 53] }, .string { data := #[97, 50, 56, 52, 55, 54, 49, 53, 102, 98, 57, 101, 51, 99, 100, 48] }]) (.int .i64 ((4 : Nat) : Int))).run Tryd.prog w = .ok (.string (ordS 4)) w := by kernel_rfl
theorem ix69_5 (w : World) : (Instr.index 69 (.agg #[.string { data := #[48, 49, 50, 51, 52, 53, 54, 55, 56, 57, 97, 98, 99, 100, 101, 102] }, .string { data := #[101, 97, 52, 56, 57, 102, 100, 54, 49, 99, 48, 50, 98, 55, 53, 51] }, .string { data := #[98, 56, 99, 48, 53, 50, 102, 100, 97, 101, 51, 54, 55, 49, 57, 52] }, .string { data := #[55, 57, 51, 49, 100, 99, 98, 101, 50, 54, 53, 97, 52, 48, 102, 56] }, .string { data := #[57, 48, 53, 55, 50, 52, 97, 102, 101, 49, 98, 99, 54, 56, 51, 100] }, .string { data := #[50, 99, 54, 97, 48, 98, 56, 51, 52, 100, 55, 53, 102, 101, 49, 57] }, .string { data := #[99, 53, 49, 102, 101, 100, 52, 97, 48, 55, 54, 51, 57, 50, 56, 98] }, .string { data := #[100, 98, 55, 101, 99, 49, 51, 57, 53, 48, 102, 52, 56, 54, 50, 97] }, .string { data := #[54, 102, 101, 57, 98, 51, 48, 56, 99, 50, 100, 55, 49, 52, 97, 53] }, .string { data := #[97, 50, 56, 52, 55, 54, 49, 53, 102, 98, 57, 101, 51, 99, 100, 48] }]) (.int .i64 ((5 : Nat) : Int))).run Tryd.prog w = .ok (.string (ordS 5)) w := by kernel_rfl
theorem ix69_6 (w : World) : (Instr.index 69 (.agg #[.string { data := #[48, 49, 50, 51, 52, 53, 54, 55, 56, 57, 97, 98, 99, 100, 101, 102] }, .string { data := #[101, 97, 52, 56, 57, 102, 100, 54, 49, 99, 48, 50, 98, 55, 53, 51] }, .string { data := #[98, 56, 99, 48, 53, 50, 102, 100, 97, 101, 51, 54, 55, 49, 57, 52] }, .string { data := #[55, 57, 51, 49, 100, 99, 98, 101, 50, 54, 53, 97, 52, 48, 102, 56] }, .string { data := #[57, 48, 53, 55, 50, 52, 97, 102, 101, 49, 98, 99, 54, 56, 51, 100] }, .string { data := #[50, 99, 54, 97, 48, 98, 56, 51, 52, 100, 55, 53, 102, 101, 49, 57] }, .string { data := #[99, 53, 49, 102, 101, 100, 52, 97, 48, 55, 54, 51, 57, 50, 56, 98] }, .string { data := #[100, 98, 55, 101, 99, 49, 51, 57, 53, 48, 102, 52, 56, 54, 50, 97] }, .string { data := #[54, 102, 101, 57, 98, 51, 48, 56, 99, 50, 100, 55, 49, 52, 97, 53] }, .string { data := #[97, 50, 56, 52, 55, 54, 49, 53, 102, 98, 57, 101, 51, 99, 100, 48] }]) (.int .i64 ((6 : Nat) : Int))).run Tryd.prog w = .ok (.string (ordS 6)) w := by kernel_rfl
theorem ix69_7 (w : World) : (Instr.index 69 (.agg #[.string { data := #[48, 49, 50, 51, 52, 53, 54, 55, 56, 57, 97, 98, 99, 100, 101, 102] }, .string { data := #[101, 97, 52, 56, 57, 102, 100, 54, 49, 99, 48, 50, 98, 55, 53, 51] }, .string { data := #[98, 56, 99, 48, 53, 50, 102, 100, 97, 101, 51, 54, 55, 49, 57, 52] }, .string { data := #[55, 57, 51, 49, 100, 99, 98, 101, 50, 54, 53, 97, 52, 48, 102, 56] }, .string { data := #[57, 48, 53, 55, 50, 52, 97, 102, 101, 49, 98, 99, 54, 56, 51, 100] }, .string { data := #[50, 99, 54, 97, 48, 98, 56, 51, 52, 100, 55, 53, 102, 101, 49, 57] }, .string { data := #[99, 53, 49, 102, 101, 100, 52, 97, 48, 55, 54, 51, 57, 50, 56, 98] }, .string { data := #[100, 98, 55, 101, 99, 49, 51, 57, 53, 48, 102, 52, 56, 54, 50, 97] }, .string { data := #[54, 102, 101, 57, 98, 51, 48, 56, 99, 50, 100, 55, 49, 52, 97, 53] }, .string { data := #[97, 50, 56, 52, 55, 54, 49, 53, 102, 98, 57, 101, 51, 99, 100, 48] }]) (.int .i64 ((7 : Nat) : Int))).run Tryd.prog w = .ok (.string (ordS 7)) w := by kernel_rfl
theorem ix69_8 (w : World) : (Instr.index 69 (.agg #[.string { data := #[48, 49, 50, 51, 52, 53, 54, 55, 56, 57, 97, 98, 99, 100, 101, 102] }, .string { data := #[101, 97, 52, 56, 57, 102, 100, 54, 49, 99, 48, 50, 98, 55, 53, 51] }, .string { data := #[98, 56, 99, 48, 53, 50, 102, 100, 97, 101, 51, 54, 55, 49, 57, 52] }, .string { data := #[55, 57, 51, 49, 100, 99, 98, 101, 50, 54, 53, 97, 52, 48, 102, 56] }, .string { data := #[57, 48, 53, 55, 50, 52, 97, 102, 101, 49, 98, 99, 54, 56, 51, 100] }, .string { data := #[50, 99, 54, 97, 48, 98, 56, 51, 52, 100, 55, 53, 102, 101, 49, 57] }, .string { data := #[99, 53, 49, 102, 101, 100, 52, 97, 48, 55, 54, 51, 57, 50, 56, 98] }, .string { data := #[100, 98, 55, 101, 99, 49, 51, 57, 53, 48, 102, 52, 56, 54, 50, 97] }, .string { data := #[54, 102, 101, 57, 98, 51, 48, 56, 99, 50, 100, 55, 49, 52, 97, 53] }, .string { data := #[97, 50, 56, 52, 55, 54, 49, 53, 102, 98, 57, 101, 51, 99, 100, 48] }]) (.int .i64 ((8 : Nat) : Int))).run Tryd.prog w = .ok (.string (ordS 8)) w := by kernel_rfl
theorem ix69_9 (w : World) : (Instr.index 69 (.agg #[.string { data := #[48, 49, 50, 51, 52, 53, 54, 55, 56, 57, 97, 98, 99, 100, 101, 102] }, .string { data := #[101, 97, 52, 56, 57, 102, 100, 54, 49, 99, 48, 50, 98, 55, 53, 51] }, .string { data := #[98, 56, 99, 48, 53, 50, 102, 100, 97, 101, 51, 54, 55, 49, 57, 52] }, .string { data := #[55, 57, 51, 49, 100, 99, 98, 101, 50, 54, 53, 97, 52, 48, 102, 56] }, .string { data := #[57, 48, 53, 55, 50, 52, 97, 102, 101, 49, 98, 99, 54, 56, 51, 100] }, .string { data := #[50, 99, 54, 97, 48, 98, 56, 51, 52, 100, 55, 53, 102, 101, 49, 57] }, .string { data := #[99, 53, 49, 102, 101, 100, 52, 97, 48, 55, 54, 51, 57, 50, 56, 98] }, .string { data := #[100, 98, 55, 101, 99, 49, 51, 57, 53, 48, 102, 52, 56, 54, 50, 97] }, .string { data := #[54, 102, 101, 57, 98, 51, 48, 56, 99, 50, 100, 55, 49, 52, 97, 53] }, .string { data := #[97, 50, 56, 52, 55, 54, 49, 53, 102, 98, 57, 101, 51, 99, 100, 48] }]) (.int .i64 ((9 : Nat) : Int))).run Tryd.prog w = .ok (.string (ordS 9)) w := by kernel_rfl
theorem ix69 (k : Nat) (hk : k < 10) (w : World) : (Instr.index 69 (.agg #[.string { data := #[48, 49, 50, 51, 52, 53, 54, 55, 56, 57, 97, 98, 99, 100, 101, 102] }, .string { data := #[101, 97, 52, 56, 57, 102, 100, 54, 49, 99, 48, 50, 98, 55, 53, 51] }, .string { data := #[98, 56, 99, 48, 53, 50, 102, 100, 97, 101, 51, 54, 55, 49, 57, 52] }, .string { data := #[55, 57, 51, 49, 100, 99, 98, 101, 50, 54, 53, 97, 52, 48, 102, 56] }, .string { data := #[57, 48, 53, 55, 50, 52, 97, 102, 101, 49, 98, 99, 54, 56, 51, 100] }, .string { data := #[50, 99, 54, 97, 48, 98, 56, 51, 52, 100, 55, 53, 102, 101, 49, 57] }, .string { data := #[99, 53, 49, 102, 101, 100, 52, 97, 48, 55, 54, 51, 57, 50, 56, 98] }, .string { data := #[100, 98, 55, 101, 99, 49, 51, 57, 53, 48, 102, 52, 56, 54, 50, 97] }, .string { data := #[54, 102, 101, 57, 98, 51, 48, 56, 99, 50, 100, 55, 49, 52, 97, 53] }, .string { data := #[97, 50, 56, 52, 55, 54, 49, 53, 102, 98, 57, 101, 51, 99, 100, 48] }]) (.int .i64 (k : Int))).run Tryd.prog w = .ok (.string (ordS k)) w := by
  match k, hk with
  | 0, _ => exact ix69_0 w
  | 1, _ => exact ix69_1 w
  | 2, _ => exact ix69_2 w
  | 3, _ => exact ix69_3 w
  | 4, _ => exact ix69_4 w
  | 5, _ => exact ix69_5 w
  | 6, _ => exact ix69_6 w
  | 7, _ => exact ix69_7 w
  | 8, _ => exact ix69_8 w
  | 9, _ => exact ix69_9 w
set_option maxRecDepth 100000 in
theorem order_any (k : Nat) (hk : k < 10) (w : World) : Calls Tryd.prog 19 #[.int .i64 (k : Int)] w fun e w' => e = .returned (.string (ordS k)) ∧ w = w' := by
  have ix := fun w => ix69 k hk w
  generalize ordS k = S at *
  go_enter Tryd.func19, Tryd.ntmps19
  go_wp2
  go_ret
  exact ⟨rfl, rfl⟩
theorem ord_dig (k : Nat) (hk : k < 10) (j : Nat) (hj : j < 16) (h : j < (ordS k).size) : dgF (((ordS k)[j]).toNat : Int) = ((ordersL.getD k []).getD j 0 : Int) := by
  have all : ∀ k : Fin 10, ∀ j : Fin 16, dgF ((((ordS k.val).data.toList.getD j.val 0).toNat : Nat) : Int) = ((ordersL.getD k.val []).getD j.val 0 : Int) := by decide +kernel
  have h' : j < (ordS k).data.toList.length := by simpa using h
  have e : (ordS k).data.toList.getD j 0 = (ordS k)[j] := by
    simp [List.getD, List.getElem?_eq_getElem h']
    rfl
  rw [← e]
  exact all ⟨k, hk⟩ ⟨j, hj⟩

/-- One thing that is mixed. -/
def MxV (cs : List Value) : Prop := ∃ (q : Q) (x y : BitVec 32), cs = [.int .u32 (tn q.a), .int .u32 (tn q.b), .int .u32 (tn q.c), .int .u32 (tn q.d), .int .u32 (tn x), .int .u32 (tn y)]
/-- A slice of n of them. -/
def Mxs (w : World) (B : Nat) (A : Option Addr) (n : Nat) : Prop := 0 < n → ∃ b o, A = some ⟨b, o, none⟩ ∧ b < B ∧ ∀ i, i < n → ∃ cs, w.rangeAt b (o + i * 6) cs ∧ MxV cs
theorem Mxs.below {w w' : World} {B : Nat} {A : Option Addr} {n : Nat} (h : Mxs w B A n) (hb : Below B w w') : Mxs w' B A n := fun hn => by
  obtain ⟨b, o, hA, hB, hc⟩ := h hn
  refine ⟨b, o, hA, hB, fun i hi => ?_⟩
  obtain ⟨cs, hr, hv⟩ := hc i hi
  exact ⟨cs, fun j v hj => (hb.cell (p := ⟨b, o + i * 6 + j, none⟩) hB).trans (hr j v hj), hv⟩
theorem Tryd.cells35 : Tryd.prog.cellsOf 35 = 6 := by kernel_rfl
theorem Tryd.cells33 : Tryd.prog.cellsOf 33 = 4 := by kernel_rfl
theorem Tryd.cells32 : Tryd.prog.cellsOf 32 = 1 := by kernel_rfl

section
variable {H : Type} {enc : TypeId × Value → H} {W : World}
set_option maxRecDepth 100000 in
theorem open_mix {fuel : Nat} {cs : List Value} {x : DataW H × List MemPlace} (h : DataW.trod enc Tryd.prog W 0 (fun _ => true) true fuel 35 cs = some x) : MxV cs := by
  obtain ⟨y0, y1, y2, n, _, hlen, h0, h1, h2⟩ := trod_struct3 Tryd.underlying35 h
  rw [Tryd.cells35] at hlen
  match cs, hlen with
  | [c0, c1, c2, c3, c4, c5], _ =>
    simp only [Tryd.cells33, Tryd.cells32, List.drop_succ_cons, List.drop_zero, List.take_succ_cons, List.take_zero] at h0 h1 h2
    obtain ⟨zs, hl, hz, hw⟩ := arr_ints (d := y0.1) (p := y0.2) Tryd.underlying33 Tryd.underlying32 Tryd.cells32 Tryd.cells33 h0
    obtain ⟨e4, he4, _, w4⟩ := DataW.trod_int Tryd.underlying32 h1
    obtain ⟨e5, he5, _, w5⟩ := DataW.trod_int Tryd.underlying32 h2
    match zs, hl with
    | [a0, a1, a2, a3], _ =>
      obtain ⟨xa, rfl⟩ := u32_of_wf (hw a0 (by simp))
      obtain ⟨xb, rfl⟩ := u32_of_wf (hw a1 (by simp))
      obtain ⟨xc, rfl⟩ := u32_of_wf (hw a2 (by simp))
      obtain ⟨xd, rfl⟩ := u32_of_wf (hw a3 (by simp))
      obtain ⟨x4, rfl⟩ := u32_of_wf w4
      obtain ⟨x5, rfl⟩ := u32_of_wf w5
      refine ⟨⟨xa, xb, xc, xd⟩, x4, x5, ?_⟩
      simp at hz he4 he5
      obtain ⟨r0, r1, r2, r3⟩ := hz
      subst r0 r1 r2 r3 he4 he5
      rfl

set_option maxRecDepth 100000 in
theorem open_mixes {a : Option Addr} {len cap : Nat} {d : DataW H} {p : List MemPlace} (h : DataW.Trod enc Tryd.prog W 0 (fun _ => true) true 31 (.slice a len cap) d p) : Mxs W W.heap.size a len ∧ len ≤ 9223372036854775807 := by
  obtain ⟨fuel, hf⟩ := h
  rcases open_slice Tryd.underlying31 hf with ⟨hcs, _⟩ | ⟨x, l, c, m, n, D, Pl, hcs, _, hl, hm, hmm, _, hc⟩
  · simp [Value.cells] at hcs
    obtain ⟨rfl, rfl, rfl⟩ := hcs
    exact ⟨fun h => absurd h (by omega), by omega⟩
  · simp [Value.cells] at hcs
    obtain ⟨rfl, rfl, rfl⟩ := hcs
    have hlm : len ≤ m := by rw [hmm]; split <;> omega
    refine ⟨fun hp => ?_, by unfold maxLen at hm; omega⟩
    obtain ⟨cs0, h0, _⟩ := hc 0 (by omega)
    obtain ⟨_, hl0, hat0⟩ := World.cells?_some h0
    rw [Tryd.cells35] at hl0 hat0
    have h00 := hat0 0 (by omega)
    rw [List.getElem?_eq_getElem (show 0 < cs0.length by omega)] at h00
    rw [Nat.zero_mul, show x.add 0 = x from rfl] at h00
    obtain ⟨b, o, rfl, hb⟩ := addr_of h00
    refine ⟨b, o, rfl, hb, fun i hi => ?_⟩
    obtain ⟨cs', hc', ht'⟩ := hc i (by omega)
    have hv := open_mix ht'
    obtain ⟨_, hln, hat⟩ := World.cells?_some hc'
    rw [Tryd.cells35] at hat hln
    refine ⟨cs', fun j v hj => ?_, hv⟩
    have hj4 : j < 6 := by
      have := (List.getElem?_eq_some_iff.1 hj).1
      omega
    have := hat j hj4
    rw [add_at, add_at, hj] at this
    exact this
end

end Go.Proofs.YtbemnolgolecaaaDoor
