/-
  What the rows' condition on the listed table gives a walk, and a world that meets it.
-/
import Derived.Test.YtfclppopelmdgaaDoorRows
import Derived.Test.YtfclppopelmdgaaDoorC3
import Derived.ChangeSame
import Derived.ChangeVars
import Derived.JoinedOf
import Derived.RowKit
import Derived.LaidLaws
import Derived.Lib.LaidTab
import Derived.Lib.LaidU8
import Derived.LaidSub
namespace Go.Proofs.YtfclppopelmdgaaDoor
open Go.ChangeShapes Go.WideShapes Go.RowKit

def laidC : List (String × DataW Unit) := [("tallyhouse/conf.rows", Rows.laid_tallyhouse_conf_rows)]
theorem gg0 : Tryd.prog.globalNamed "tallyhouse/conf.rows" = some 0 := by kernel_rfl
theorem gt0 : (Tryd.prog.globals[0]?).map (·.type) = some 82 := by kernel_rfl
theorem Tryd.c3 : Tryd.prog.cellsOf 3 = 1 := by kernel_rfl
theorem Tryd.c81 : Tryd.prog.cellsOf 81 = 5 := by kernel_rfl
theorem rows_data : Rows.laid_tallyhouse_conf_rows = (.agg (rowsL.map fun r => Lib.tabData .i64 r) : DataW Unit) := by kernel_rfl
theorem rowsL_get : ∀ i : Fin 32, rowsL.getD i.val [] = row5 i.val := by decide +kernel

theorem rows_cells {W : World} {cs : List Value} {fuel : Nat} {p : List MemPlace} (h : DataW.trod (fun _ => ()) Tryd.prog W 0 (fun _ => true) false fuel 82 cs = some (.agg (rowsL.map fun r => Lib.tabData .i64 r), p)) (i j : Nat) (hi : i < 32) (hj : j < 5) :
    cs[i * 5 + j]? = some (.int .i64 ((row5 i).getD j 0)) := by
  obtain ⟨f', d, q, hd, hr⟩ := Lib.array_elem Tryd.underlying82 h i hi
  have hi' : i < rowsL.length := by rw [show rowsL.length = 32 from rfl]; exact hi
  rw [List.getElem?_map, List.getElem?_eq_getElem hi', Option.map_some, Option.some.injEq] at hd
  rw [← hd, Tryd.c81] at hr
  have hc := Lib.cells_of_tab Tryd.underlying81 Tryd.underlying3 Tryd.c3 Tryd.c81 hr
  have e : rowsL[i] = row5 i := by
    have := rowsL_get ⟨i, hi⟩
    simpa [List.getD, hi'] using this
  rw [e] at hc
  have hl : j < (row5 i).length := by rw [row5_len ⟨i, hi⟩]; exact hj
  have := congrArg (·[j]?) hc
  simp only [List.getElem?_take, List.getElem?_drop, if_pos hj, List.getElem?_map, List.getElem?_eq_getElem hl, Option.map_some] at this
  rw [this]
  simp [List.getD, List.getElem?_eq_getElem hl]

theorem gl_of_laid {W : World} (h : laidMet Tryd.prog laidC W) : Gl W := by
  obtain ⟨a0, b0, cs0, f0, p0, hg0, ht0, hv0, hd0⟩ := Lib.laidMet.reads h (n := "tallyhouse/conf.rows") (d := Rows.laid_tallyhouse_conf_rows) (by simp [laidC])
  obtain rfl := Option.some.inj (gg0.symm.trans hg0)
  obtain rfl := Option.some.inj (gt0.symm.trans ht0)
  rw [rows_data] at hd0
  have c0 := rows_cells hd0
  have r : ∀ G, G < 32 → W.rangeAt 0 (G * 5) (IL (row5 G)) := fun G hG j v hj => by
    have hl : j < 5 := by
      have := (List.getElem?_eq_some_iff.1 hj).1
      rw [IL.len, row5_len ⟨G, hG⟩] at this
      exact this
    have := World.var?_cell hg0 hv0 (G * 5 + j)
    rw [this, ← Array.getElem?_toList, c0 G j hG hl, ← hj]
    have hl2 : j < (row5 G).length := by rw [row5_len ⟨G, hG⟩]; exact hl
    simp [IL, List.getD, hl2]
  refine ⟨r, ?_⟩
  have h2 := r 0 (by omega) 0 (.int .i64 0) (by kernel_rfl)
  rcases Nat.lt_or_ge 0 W.heap.size with hlt | hge
  · exact hlt
  · simp [World.cell?, Array.getElem?_eq_none hge] at h2

/-- A world that meets the condition: the settled one, the table laid. -/
noncomputable def laidWorld (os : Os) : World :=
  let w0 := World.holding Tryd.prog os ⟨#[], #[], []⟩
  { w0 with heap := w0.heap.modify 0 fun
      | .cells _ t frozen => .cells (IL rowsL.flatten).toArray t frozen
      | o => o }
theorem laidWorld_met (os : Os) (args : Array Value) : laidMet Tryd.prog laidC ((laidWorld os).forCall (fun _ _ => 0) ⟨#[], args, []⟩).memory :=
  laidMet_of_run' 8 (by kernel_rfl) (by kernel_rfl)

end Go.Proofs.YtfclppopelmdgaaDoor
