/-
  What is built out of blocks: a write, and a slice of one.
-/
import Derived.Great.BuildSlice
import Derived.Test.YtdhompiapklnaaaArr
namespace Go.Proofs.Ytdhompiapklnaaa
open Go.RowKit

theorem fold_lay : ∀ (cs : List Value) (k : Nat) (a : Array Value) (o : Nat), ((cs.zipIdx k).foldl (fun (acc : Array Value) (x : Value × Nat) => acc.setIfInBounds (o + x.2) x.1) a) = lay a (o + k) cs
  | [], _, _, _ => rfl
  | c :: r, k, a, o => by
    rw [List.zipIdx_cons, List.foldl_cons, fold_lay r (k + 1), lay]
    rfl

theorem fill_one (place : Nat → Option (Nat × Nat)) (cells : Array Value) (i off : Nat) (v : Value) (rest : List (Nat × Value)) (hp : place i = some (off, v.cells.size)) (hs : off + v.cells.size ≤ cells.size) :
    Instr.fill place cells ((i, v) :: rest) = Instr.fill place (lay cells off v.cells.toList) rest := by
  rw [Instr.fill, hp]
  simp only [ne_eq, not_true_eq_false, decide_false, Bool.false_or, decide_eq_true_eq]
  rw [if_neg (by omega)]
  congr 1
  have := fold_lay v.cells.toList 0 cells off
  rw [Nat.add_zero] at this
  rw [← this, ← Array.foldl_toList, Array.toList_zipIdx]

theorem lay_put1 (i : Int) (B : List Value) (hB : B.length = 64) : lay (lay (Value.int .i64 0 :: Z0).toArray 0 [.int .i64 i]) 1 B = (put1 (i, B)).toArray := by
  have h0 : lay (Value.int .i64 0 :: Z0).toArray 0 [.int .i64 i] = (Value.int .i64 i :: Z0).toArray := by
    rw [lay, lay]
    simp
  rw [h0]
  apply Array.ext_getElem?
  intro j
  have hs : (Value.int .i64 i :: Z0).toArray.size = 65 := by rw [List.size_toArray, List.length_cons, Z0.ok.1]
  rw [lay_get B _ 1 j (by rw [hs, hB]; omega), hB, List.getElem?_toArray, List.getElem?_toArray, put1]
  cases j with
  | zero => rfl
  | succ j =>
    by_cases hj : j < 64
    · rw [if_pos (by omega), List.getElem?_cons_succ, Nat.add_sub_cancel]
    · rw [if_neg (by omega), List.getElem?_cons_succ, List.getElem?_cons_succ, List.getElem?_eq_none (by rw [Z0.ok.1]; omega), List.getElem?_eq_none (by show B.length ≤ j; omega)]


set_option maxRecDepth 100000 in
theorem build86 (i : Int) (B : List Value) (hB : B.length = 64) (w : World) : (Instr.build 86 #[(0, .int .i64 i), (1, .agg B.toArray)]).run Try.prog w = .ok (.agg (put1 (i, B)).toArray) w := by
  refine run_build w 86 _ _ ?_
  have h1 : (Try.prog.info? 86).map (·.zero) = some (some (.agg (Value.int .i64 0 :: Z0).toArray)) := by kernel_rfl
  cases hi : Try.prog.info? 86 with
  | none => rw [hi] at h1; cases h1
  | some it =>
    rw [hi] at h1
    have hz : it.zero = some (.agg (Value.int .i64 0 :: Z0).toArray) := Option.some.inj h1
    have hm : (match Try.prog.underlying 86 with | some (.struct fields) => fields.toList.mapM (fun f => (Try.prog.info? f.type).map fun i => (f.offset, i.size)) | _ => none) = some [(0, 1), (1, 64)] := by kernel_rfl
    rw [Try.underlying86] at hm
    unfold Program.built
    rw [hi, Try.underlying86]
    simp only [hz, hm]
    rw [fill_one _ _ 0 0 _ _ rfl (by simp [Value.cells]), fill_one _ _ 1 1 _ _ (by simp [Value.cells, hB]) (by rw [lay_size]; simp [Value.cells, hB, Z0.ok.1])]
    rw [Instr.fill]
    exact congrArg some (lay_put1 i B hB)

theorem buildS86 (X : List Value) (hX : X.length = 65) (w : World) : (Instr.buildSlice 71 1 #[(0, .agg X.toArray)]).run Try.prog w = .ok (.slice (some ⟨w.heap.size, 0, none⟩) 1 1) (w.alloc (.cells X.toArray 86)) := by
  obtain ⟨i0, hi, hz0, hz1, hz2⟩ := info_parts (show (Try.prog.info? 86).map (fun i => (i.zero, i.size, i.bytes)) = some (some (.agg (Value.int .i64 0 :: Z0).toArray), 65, 72) by kernel_rfl)
  refine run_buildSlice w 71 86 1 _ _ i0 _ Try.underlying71 hi hz0 (by rw [hz1]; decide) (by rw [hz1]; decide) ?_
  rw [fill_one _ _ 0 0 _ _ (by simp [Value.cells, hz1, hX]) (by simp [Value.cells, hz1, hX])]
  rw [Instr.fill]
  exact congrArg some (lay_whole _ _ (by simp [hz1, hX, Value.cells]))

set_option maxRecDepth 100000 in
theorem build75 (i : Int) (B : List Value) (hB : B.length = 64) (w : World) : (Instr.build 75 #[(0, .int .i64 i), (1, .agg B.toArray)]).run Try.prog w = .ok (.agg (put1 (i, B)).toArray) w := by
  refine run_build w 75 _ _ ?_
  have h1 : (Try.prog.info? 75).map (·.zero) = some (some (.agg (Value.int .i64 0 :: Z0).toArray)) := by kernel_rfl
  cases hi : Try.prog.info? 75 with
  | none => rw [hi] at h1; cases h1
  | some it =>
    rw [hi] at h1
    have hz : it.zero = some (.agg (Value.int .i64 0 :: Z0).toArray) := Option.some.inj h1
    have hm : (match Try.prog.underlying 75 with | some (.struct fields) => fields.toList.mapM (fun f => (Try.prog.info? f.type).map fun i => (f.offset, i.size)) | _ => none) = some [(0, 1), (1, 64)] := by kernel_rfl
    rw [Try.underlying75] at hm
    unfold Program.built
    rw [hi, Try.underlying75]
    simp only [hz, hm]
    rw [fill_one _ _ 0 0 _ _ rfl (by simp [Value.cells]), fill_one _ _ 1 1 _ _ (by simp [Value.cells, hB]) (by rw [lay_size]; simp [Value.cells, hB, Z0.ok.1])]
    rw [Instr.fill]
    exact congrArg some (lay_put1 i B hB)

theorem buildS75 (X : List Value) (hX : X.length = 65) (w : World) : (Instr.buildSlice 30 1 #[(0, .agg X.toArray)]).run Try.prog w = .ok (.slice (some ⟨w.heap.size, 0, none⟩) 1 1) (w.alloc (.cells X.toArray 75)) := by
  obtain ⟨i0, hi, hz0, hz1, hz2⟩ := info_parts (show (Try.prog.info? 75).map (fun i => (i.zero, i.size, i.bytes)) = some (some (.agg (Value.int .i64 0 :: Z0).toArray), 65, 72) by kernel_rfl)
  refine run_buildSlice w 30 75 1 _ _ i0 _ Try.underlying30 hi hz0 (by rw [hz1]; decide) (by rw [hz1]; decide) ?_
  rw [fill_one _ _ 0 0 _ _ (by simp [Value.cells, hz1, hX]) (by simp [Value.cells, hz1, hX])]
  rw [Instr.fill]
  exact congrArg some (lay_whole _ _ (by simp [hz1, hX, Value.cells]))

theorem wp_buildS86 {o : Oper} {a : Act} {w : World} {K : Act → World → Prop} {Q : Exit → Act → World → Prop} (x : Operand) (X : List Value) (ho : o.op = .buildSlice 71 1 #[(0, x)]) (hx : a.eval x = .agg X.toArray) (hX : X.length = 65)
    (h : K (a.put o.dst (.slice (some ⟨w.heap.size, 0, none⟩) 1 1)) (w.alloc (.cells X.toArray 86))) : o.wp Try.prog a w K Q := by
  unfold Oper.wp execOp
  simp only [ho, List.map_toArray, List.map_cons, List.map_nil, hx, Sem.run_bind, buildS86 X hX w, Result.andThen_ok, Sem.run_pure]
  exact h

theorem wp_buildS75 {o : Oper} {a : Act} {w : World} {K : Act → World → Prop} {Q : Exit → Act → World → Prop} (x : Operand) (X : List Value) (ho : o.op = .buildSlice 30 1 #[(0, x)]) (hx : a.eval x = .agg X.toArray) (hX : X.length = 65)
    (h : K (a.put o.dst (.slice (some ⟨w.heap.size, 0, none⟩) 1 1)) (w.alloc (.cells X.toArray 75))) : o.wp Try.prog a w K Q := by
  unfold Oper.wp execOp
  simp only [ho, List.map_toArray, List.map_cons, List.map_nil, hx, Sem.run_bind, buildS75 X hX w, Result.andThen_ok, Sem.run_pure]
  exact h

theorem exec_build86 {o : Oper} {a : Act} (x y : Operand) (i : Int) (B : List Value) (ho : o.op = .build 86 #[(0, x), (1, y)]) (hx : a.eval x = .int .i64 i) (hy : a.eval y = .agg B.toArray) (hB : B.length = 64) (w : World) :
    (execOp a.eval o).run Try.prog w = .ok (.value (.agg (put1 (i, B)).toArray)) w := by
  unfold execOp
  simp only [ho, List.map_toArray, List.map_cons, List.map_nil, hx, hy, Sem.run_bind, build86 i B hB w, Result.andThen_ok, Sem.run_pure]

theorem exec_build75 {o : Oper} {a : Act} (x y : Operand) (i : Int) (B : List Value) (ho : o.op = .build 75 #[(0, x), (1, y)]) (hx : a.eval x = .int .i64 i) (hy : a.eval y = .agg B.toArray) (hB : B.length = 64) (w : World) :
    (execOp a.eval o).run Try.prog w = .ok (.value (.agg (put1 (i, B)).toArray)) w := by
  unfold execOp
  simp only [ho, List.map_toArray, List.map_cons, List.map_nil, hx, hy, Sem.run_bind, build75 i B hB w, Result.andThen_ok, Sem.run_pure]

end Go.Proofs.Ytdhompiapklnaaa
