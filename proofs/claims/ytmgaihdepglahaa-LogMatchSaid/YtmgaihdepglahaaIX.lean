/-
  An element of an array of three logs.
-/
import Derived.Test.YtmgaihdepglahaaM6
import Derived.ChangeKeysEq
namespace Go.Proofs.Ytmgaihdepglahaa
open Go.RowKit

theorem u50 : Try.prog.underlying 50 = some (.array 3 27) := by kernel_rfl
theorem c27 : Try.prog.cellsOf 27 = 3 := by kernel_rfl
theorem info27 : ∃ i, Try.prog.info? 27 = some i := by
  have h := Try.i27
  cases hi : Try.prog.info? 27 with
  | none => rw [hi] at h; cases h
  | some i => exact ⟨i, rfl⟩
theorem index50 (w : World) (a b c d e f g h i : Value) (k : Int) (hk : 0 ≤ k ∧ k < 3) : (Instr.index 50 (.agg #[a, b, c, d, e, f, g, h, i]) (.int .i64 k)).run Try.prog w = .ok (.agg (#[a, b, c, d, e, f, g, h, i].extract (k.toNat * 3) (k.toNat * 3 + 3))) w := by
  obtain ⟨inf, hi⟩ := info27
  unfold Instr.index
  simp only [asIntOf, Sem.run_bind, Sem.run_pure, Result.andThen_ok, run_underlying u50]
  rw [if_pos (show 0 ≤ k ∧ k < ((3 : Nat) : Int) from hk)]
  simp [part, isAgg, run_underlying Try.underlying27, run_sizeOf w hi, c27]
theorem index50_0 (w : World) (a b c d e f g h i : Value) : (Instr.index 50 (.agg #[a, b, c, d, e, f, g, h, i]) (.int .i64 0)).run Try.prog w = .ok (.agg #[a, b, c]) w := index50 w a b c d e f g h i 0 (by decide)
theorem index50_1 (w : World) (a b c d e f g h i : Value) : (Instr.index 50 (.agg #[a, b, c, d, e, f, g, h, i]) (.int .i64 1)).run Try.prog w = .ok (.agg #[d, e, f]) w := index50 w a b c d e f g h i 1 (by decide)
theorem index50_2 (w : World) (a b c d e f g h i : Value) : (Instr.index 50 (.agg #[a, b, c, d, e, f, g, h, i]) (.int .i64 2)).run Try.prog w = .ok (.agg #[g, h, i]) w := index50 w a b c d e f g h i 2 (by decide)
end Go.Proofs.Ytmgaihdepglahaa
