/-
  Laws on arrays as values: what is loaded out of, and stored into, rows of cells.
-/
import Derived.Test.YtdhompiapklnaaaD1
namespace Go.Proofs.Ytdhompiapklnaaa
open Go.RowKit

theorem Try.z86 : ∀ w, (zeroValue 86).run Try.prog w = .ok (.agg (Value.int .i64 0 :: Z0).toArray) w := (zero_of_info (n := 65) (by kernel_rfl)).1
theorem Try.i86 : (Try.prog.info? 86).map (·.size) = some 65 := by kernel_rfl
theorem Try.z75 : ∀ w, (zeroValue 75).run Try.prog w = .ok (.agg (Value.int .i64 0 :: Z0).toArray) w := (zero_of_info (n := 65) (by kernel_rfl)).1
theorem Try.i75 : (Try.prog.info? 75).map (·.size) = some 65 := by kernel_rfl
theorem Try.z39 : ∀ w, (zeroValue 39).run Try.prog w = .ok (.agg Z0.toArray) w := (zero_of_info (n := 64) (by kernel_rfl)).1
theorem Try.i39 : (Try.prog.info? 39).map (·.size) = some 64 := by kernel_rfl

theorem put1_len {e : Int × List Value} (h : B64 e.2) : (put1 e).length = 65 := by simp [put1, h.1]
theorem put1_one {e : Int × List Value} (h : B64 e.2) : ∀ v ∈ put1 e, v.oneCell' = true := by
  intro v hv
  rcases List.mem_cons.1 hv with rfl | hv
  · rfl
  · exact h.one v hv

theorem setCells_new (w : World) (c : Array Value) (t : TypeId) (vs : List Value) (hc : c.size = vs.length) : (w.alloc (.cells c t)).setCells w.heap.size 0 vs = w.alloc (.cells vs.toArray t) := by
  have hh : ∀ k : Nat, ((w.alloc (.cells c t)).setCells w.heap.size 0 vs).heap[k]? = (w.alloc (.cells vs.toArray t)).heap[k]? := by
    intro k
    by_cases hk : k = w.heap.size
    · subst hk
      rw [heap_setCells_same vs _ w.heap.size 0 c t (heap_alloc_new w _), heap_alloc_new w, lay_whole c vs hc]
    · rw [heap_setCells_other vs _ _ _ k hk]
      show (w.heap.push _)[k]? = (w.heap.push _)[k]?
      simp only [Array.getElem?_push, if_neg hk]
  have key : ∀ (vs : List Value) (w : World) (g o : Nat), w.setCells g o vs = { w with heap := (w.setCells g o vs).heap } := by
    intro vs
    induction vs with
    | nil => intro w g o; rfl
    | cons v r ih => intro w g o; rw [World.setCells, ih]; rfl
  rw [key]
  have : ((w.alloc (.cells c t)).setCells w.heap.size 0 vs).heap = (w.alloc (.cells vs.toArray t)).heap := Array.ext_getElem? hh
  rw [this]
  rfl

/-- A whole row into the block that was made last. -/
theorem wpList_store_new {P : Program} {ops : Array Oper} {rest : List Oper} {op : Oper} {a : Act} {Q : Exit → Act → World → Prop} (w : World) (hgd : op.guard = none) (ty : TypeId) (x y : Operand) (ho : op.op = .store ty x y)
    (n : Nat) (c : Array Value) (t : TypeId) (cells : List Value) (hx : a.eval x = .pointer (some ⟨n, 0, none⟩)) (hy : a.eval y = .agg cells.toArray) (hn : n = w.heap.size)
    (hc : c.size = cells.length) (hi : (P.info? ty).map (·.size) = some cells.length) (h1 : ∀ v ∈ cells, v.oneCell' = true)
    (h : wpList P ops Q rest (a.put op.dst undef) (w.alloc (.cells cells.toArray t))) : wpList P ops Q (op :: rest) a (w.alloc (.cells c t)) := by
  subst hn
  refine wpList_store_mid hgd ty x y ho w.heap.size 0 cells.toArray hx hy ?_ (by simpa using hi) (all_oneCell_toArray h1) ?_
  · intro j hj
    simp only [Nat.zero_add]
    have hj' : j < c.size := by simpa [hc] using hj
    have hb := Blk.new w t c
    refine ⟨?_, hb.frozen j⟩
    rw [hb.cell j]
    simp [hj']
  · rw [List.toList_toArray, setCells_new w c t cells hc]
    exact h

/-- The next operation is a load. -/
theorem at_load {P : Program} {ops : Array Oper} {Q : Exit → Act → World → Prop} {rest : List Oper} {dst : Option Tmp} {t ty : TypeId} {x : Operand} {pos : String} {aft : Array Edge} {g : Option (Nat × Bool)} {a : Act} {w : World}
    (h : wpList P ops Q (⟨dst, .load t x, ty, pos, aft, g⟩ :: rest) a w) : wpList P ops Q (⟨dst, .load t x, ty, pos, aft, g⟩ :: rest) a w := h
/-- The next operation is a store. -/
theorem at_store {P : Program} {ops : Array Oper} {Q : Exit → Act → World → Prop} {rest : List Oper} {dst : Option Tmp} {t ty : TypeId} {x y : Operand} {pos : String} {aft : Array Edge} {g : Option (Nat × Bool)} {a : Act} {w : World}
    (h : wpList P ops Q (⟨dst, .store t x y, ty, pos, aft, g⟩ :: rest) a w) : wpList P ops Q (⟨dst, .store t x y, ty, pos, aft, g⟩ :: rest) a w := h

theorem makeInts (n : Nat) (hn : n ≤ 10000000) (W : World) : (Instr.makeSlice 48 (.int .i64 (n : Int)) (.int .i64 (n : Int))).run Try.prog W = .ok (.slice (some ⟨W.heap.size, 0, none⟩) n n) (W.alloc (.cells (madeCells #[.int .i64 0] n) 3)) := by
  obtain ⟨i0, hi, hz0, hz1, hz2⟩ := info_parts (show (Try.prog.info? 3).map (fun i => (i.zero, i.size, i.bytes)) = some (some (.int .i64 0), 1, 8) by kernel_rfl)
  have h := run_make (P := Try.prog) W 48 3 i0 (.int .i64 0) Try.underlying48 hi hz0 .i64 .i64 n n (by omega) (by omega) (by rw [hz2]; omega) (by omega)
  simpa [hz1, Value.cells] using h
theorem makeBools (n : Nat) (hn : n ≤ 10000000) (W : World) : (Instr.makeSlice 35 (.int .i64 (n : Int)) (.int .i64 (n : Int))).run Try.prog W = .ok (.slice (some ⟨W.heap.size, 0, none⟩) n n) (W.alloc (.cells (madeCells #[.bool false] n) 4)) := by
  obtain ⟨i0, hi, hz0, hz1, hz2⟩ := info_parts (show (Try.prog.info? 4).map (fun i => (i.zero, i.size, i.bytes)) = some (some (.bool false), 1, 1) by kernel_rfl)
  have h := run_make (P := Try.prog) W 35 4 i0 (.bool false) Try.underlying35 hi hz0 .i64 .i64 n n (by omega) (by omega) (by rw [hz2]; omega) (by omega)
  simpa [hz1, Value.cells] using h

end Go.Proofs.Ytdhompiapklnaaa
