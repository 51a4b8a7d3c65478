/-
  A block is the same as itself; so are nine.
-/
import Derived.Test.YtdhompiapklnaaaModel
import Derived.Test.YtdhompiapklnaaaProg
import Derived.ChangeKeysEq
import Derived.Laws.StructEq
import Derived.KernelRfl
namespace Go.Proofs.Ytdhompiapklnaaa
open Go.RowKit

theorem eqItems_self {P : Program} (w : World) (d : Nat) (e : TypeId) (k : Nat) (xs : Array Value) : ∀ (is : List Nat), (∀ i ∈ is, ∃ a, (part e xs (i * k)).run P w = .ok a w ∧ (Op.equalIn d e a a).run P w = .ok true w) → (Op.eqItems d e k xs xs is).run P w = .ok true w
  | [], _ => by simp [Op.eqItems]
  | i :: is, h => by
    obtain ⟨a, h1, h2⟩ := h i List.mem_cons_self
    simp only [Op.eqItems, Sem.run_bind, h1, h2, Result.andThen_ok, Bool.not_true, Bool.false_eq_true, if_false]
    exact eqItems_self w d e k xs is fun j hj => h j (List.mem_cons_of_mem _ hj)

theorem Try.cells5' : Try.prog.cellsOf 5 = 1 := by kernel_rfl
theorem Try.cells39' : Try.prog.cellsOf 39 = 64 := by kernel_rfl
theorem Try.underlying5' : Try.prog.underlying 5 = some (.int .u8) := by kernel_rfl
theorem Try.underlying53' : Try.prog.underlying 53 = some (.array 9 39) := by kernel_rfl

/-- All are bytes. -/
def U8s (n : Nat) (xs : Array Value) : Prop := ∀ i, i < n → ∃ z, xs[i]? = some (.int .u8 z)
theorem B64.u8s {b : List Value} (h : B64 b) : U8s 64 b.toArray := fun i hi => by
  have hi' : i < b.length := by rw [h.1]; exact hi
  obtain ⟨z, hz⟩ := h.2 b[i] (List.getElem_mem hi')
  exact ⟨z, by rw [List.getElem?_toArray, List.getElem?_eq_getElem hi', hz]⟩

theorem equalIn39 (w : World) (d : Nat) (xs : Array Value) (h : U8s 64 xs) : (Op.equalIn (d + 2) 39 (.agg xs) (.agg xs)).run Try.prog w = .ok true w := by
  cases hi : Try.prog.info? 5 with
  | none =>
    have : (Try.prog.info? 5).isSome = true := by kernel_rfl
    rw [hi] at this
    cases this
  | some i0 =>
    rw [run_equalIn_array w (d + 1) xs xs Try.underlying39 hi, Try.cells5']
    refine eqItems_self w (d + 1) 5 1 xs _ fun i hi' => ?_
    obtain ⟨z, hz⟩ := h i (List.mem_range.1 hi')
    refine ⟨.int .u8 z, ?_, ?_⟩
    · simp [part, isAgg, run_underlying Try.underlying5', hz]
    · rw [run_equalIn_int w d 5 .u8 .u8 z z Try.underlying5']
      simp
theorem eq39 (w : World) (b : List Value) (h : B64 b) : (binOp .eql 39 (.agg b.toArray) (.agg b.toArray)).run Try.prog w = .ok (.bool true) w := by
  rw [run_eql_struct, equalIn39 w 9998 b.toArray h.u8s]
  rfl
theorem ne39 (w : World) (b : List Value) (h : B64 b) : (binOp .neq 39 (.agg b.toArray) (.agg b.toArray)).run Try.prog w = .ok (.bool false) w := by
  rw [run_neq_struct, equalIn39 w 9998 b.toArray h.u8s]
  rfl

theorem equalIn53 (w : World) (d : Nat) (xs : Array Value) (h : U8s 576 xs) : (Op.equalIn (d + 3) 53 (.agg xs) (.agg xs)).run Try.prog w = .ok true w := by
  cases hi : Try.prog.info? 39 with
  | none =>
    have : (Try.prog.info? 39).isSome = true := by kernel_rfl
    rw [hi] at this
    cases this
  | some i0 =>
    rw [run_equalIn_array w (d + 2) xs xs Try.underlying53' hi, Try.cells39']
    refine eqItems_self w (d + 2) 39 64 xs _ fun i hi' => ?_
    have hi9 := List.mem_range.1 hi'
    refine ⟨.agg (xs.extract (i * 64) (i * 64 + 64)), ?_, equalIn39 w d _ fun j hj => ?_⟩
    · simp [part, isAgg, run_underlying Try.underlying39]
    · obtain ⟨z, hz⟩ := h (i * 64 + j) (by omega)
      refine ⟨z, ?_⟩
      have hlt : i * 64 + j < xs.size := (Array.getElem?_eq_some_iff.1 hz).1
      rw [Array.getElem?_extract, if_pos (by omega)]
      exact hz
theorem ne53 (w : World) (xs : Array Value) (h : U8s 576 xs) : (binOp .neq 53 (.agg xs) (.agg xs)).run Try.prog w = .ok (.bool false) w := by
  rw [run_neq_struct, equalIn53 w 9997 xs h]
  rfl
theorem eq53 (w : World) (xs : Array Value) (h : U8s 576 xs) : (binOp .eql 53 (.agg xs) (.agg xs)).run Try.prog w = .ok (.bool true) w := by
  rw [run_eql_struct, equalIn53 w 9997 xs h]
  rfl

end Go.Proofs.Ytdhompiapklnaaa
