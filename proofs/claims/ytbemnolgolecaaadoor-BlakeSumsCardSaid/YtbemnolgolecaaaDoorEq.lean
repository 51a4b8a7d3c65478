/-
  When arrays of numbers are the same.
-/
import Derived.Test.YtbemnolgolecaaaDoorC1
import Derived.ChangeKeysEq
import Derived.Laws.StructEq
namespace Go.Proofs.YtbemnolgolecaaaDoor
open Go.RowKit

theorem eqItems_int {P : Program} (w : World) (d : Nat) (e : TypeId) (k : IntKind) (he : P.underlying e = some (.int k)) (xs ys : Array Value) (X Y : Nat → Int) :
    ∀ (is : List Nat), (∀ i ∈ is, xs[i]? = some (.int k (X i)) ∧ ys[i]? = some (.int k (Y i))) → (Op.eqItems (d + 1) e 1 xs ys is).run P w = .ok (decide (∀ i ∈ is, X i = Y i)) w
  | [], _ => by simp [Op.eqItems]
  | i :: is, h => by
    obtain ⟨h1, h2⟩ := h i List.mem_cons_self
    have p1 : (part e xs (i * 1)).run P w = .ok (.int k (X i)) w := by simp [part, isAgg, run_underlying he, h1]
    have p2 : (part e ys (i * 1)).run P w = .ok (.int k (Y i)) w := by simp [part, isAgg, run_underlying he, h2]
    have q := run_equalIn_int w d e k k (X i) (Y i) he
    have ih := eqItems_int w d e k he xs ys X Y is fun j hj => h j (List.mem_cons_of_mem _ hj)
    simp only [Op.eqItems, Sem.run_bind, p1, p2, q, Result.andThen_ok]
    by_cases hXY : X i = Y i
    · simp [hXY, ih]
    · simp [hXY]

theorem eq_ints {P : Program} (w : World) (t e : TypeId) (n : Nat) (k : IntKind) (i0 : TypeInfo) (ht : P.underlying t = some (.array n e)) (he : P.underlying e = some (.int k)) (hi : P.info? e = some i0) (hc : P.cellsOf e = 1)
    (a b : List Int) (ha : a.length = n) (hb : b.length = n) (d : Nat) : (Op.equalIn (d + 2) t (.agg (a.map (Value.int k)).toArray) (.agg (b.map (Value.int k)).toArray)).run P w = .ok (decide (a = b)) w := by
  rw [run_equalIn_array w (d + 1) _ _ ht hi, hc, eqItems_int w d e k he _ _ (fun i => a.getD i 0) (fun i => b.getD i 0)]
  · congr 1
    rw [Bool.eq_iff_iff, decide_eq_true_iff, decide_eq_true_iff]
    constructor
    · intro h
      apply List.ext_getElem?
      intro i
      by_cases hi' : i < n
      · have := h i (List.mem_range.2 hi')
        simp only [List.getD, List.getElem?_eq_getElem (show i < a.length by omega), List.getElem?_eq_getElem (show i < b.length by omega), Option.getD_some] at this
        rw [List.getElem?_eq_getElem (show i < a.length by omega), List.getElem?_eq_getElem (show i < b.length by omega), this]
      · rw [List.getElem?_eq_none (by omega), List.getElem?_eq_none (by omega)]
    · rintro rfl i _
      rfl
  · intro i hi'
    have hlt := List.mem_range.1 hi'
    simp [List.getD, List.getElem?_eq_getElem (show i < a.length by omega), List.getElem?_eq_getElem (show i < b.length by omega)]

theorem info5' : ∃ i, Tryd.prog.info? 5 = some i := by
  obtain ⟨i0, hi, _⟩ := info_parts Tryd.info5
  exact ⟨i0, hi⟩
theorem eq27 (w : World) (a b : List Int) (ha : a.length = 32) (hb : b.length = 32) : (binOp .eql 27 (.agg (BL a).toArray) (.agg (BL b).toArray)).run Tryd.prog w = .ok (.bool (decide (a = b))) w := by
  obtain ⟨i0, hi⟩ := info5'
  have q : (Op.equalIn 10000 27 (.agg (BL a).toArray) (.agg (BL b).toArray)).run Tryd.prog w = .ok (decide (a = b)) w := eq_ints w 27 5 32 .u8 i0 Tryd.underlying27 Tryd.underlying5 hi (by kernel_rfl) a b ha hb 9998
  rw [run_eql_struct, q]
  rfl
theorem ne27 (w : World) (a b : List Int) (ha : a.length = 32) (hb : b.length = 32) : (binOp .neq 27 (.agg (BL a).toArray) (.agg (BL b).toArray)).run Tryd.prog w = .ok (.bool (!decide (a = b))) w := by
  obtain ⟨i0, hi⟩ := info5'
  have q : (Op.equalIn 10000 27 (.agg (BL a).toArray) (.agg (BL b).toArray)).run Tryd.prog w = .ok (decide (a = b)) w := eq_ints w 27 5 32 .u8 i0 Tryd.underlying27 Tryd.underlying5 hi (by kernel_rfl) a b ha hb 9998
  rw [run_neq_struct, q]
  rfl

end Go.Proofs.YtbemnolgolecaaaDoor
