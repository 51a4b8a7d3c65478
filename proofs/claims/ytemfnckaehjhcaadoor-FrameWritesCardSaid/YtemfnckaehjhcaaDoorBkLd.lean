/-
  What the rows' condition on the listed tables gives a walk, and a world that meets it.
-/
import Derived.Test.YtemfnckaehjhcaaDoorRows
import Derived.Test.YtemfnckaehjhcaaDoorBkA
import Derived.ChangeSame
import Derived.ChangeVars
import Derived.JoinedOf
import Derived.RowKit
import Derived.LaidLaws
import Derived.Lib.LaidTab
import Derived.Lib.LaidU8
import Derived.LaidSub
namespace Go.Proofs.YtemfnckaehjhcaaDoor.Bk
open Go.ChangeShapes Go.WideShapes Go.RowKit

def laid3 : List (String × DataW Unit) := [("tallyhouse/blake.start", Rows.laid_tallyhouse_blake_start), ("tallyhouse/blake.orders", Rows.laid_tallyhouse_blake_orders), ("tallyhouse/blake.fours", Rows.laid_tallyhouse_blake_fours)]
theorem g0 : Tryd.prog.globalNamed "tallyhouse/blake.start" = some 0 := by kernel_rfl
theorem g1 : Tryd.prog.globalNamed "tallyhouse/blake.orders" = some 1 := by kernel_rfl
theorem g2 : Tryd.prog.globalNamed "tallyhouse/blake.fours" = some 2 := by kernel_rfl
theorem t0 : (Tryd.prog.globals[0]?).map (·.type) = some 107 := by kernel_rfl
theorem t1 : (Tryd.prog.globals[1]?).map (·.type) = some 130 := by kernel_rfl
theorem t2 : (Tryd.prog.globals[2]?).map (·.type) = some 147 := by kernel_rfl
theorem Tryd.c32 : Tryd.prog.cellsOf 32 = 1 := by kernel_rfl
theorem Tryd.c3 : Tryd.prog.cellsOf 3 = 1 := by kernel_rfl
theorem Tryd.c42 : Tryd.prog.cellsOf 107 = 8 := by kernel_rfl
theorem Tryd.c37 : Tryd.prog.cellsOf 129 = 16 := by kernel_rfl
theorem Tryd.c83 : Tryd.prog.cellsOf 146 = 4 := by kernel_rfl

theorem start_data : Rows.laid_tallyhouse_blake_start = (Lib.tabData .u32 (startL.map fun x => (tn x : Int)) : DataW Unit) := by rfl
theorem orders_data : Rows.laid_tallyhouse_blake_orders = (.agg (ordersL.map fun r => Lib.tabData .i64 (r.map fun (n : Nat) => (n : Int))) : DataW Unit) := by rfl
theorem fours_data : Rows.laid_tallyhouse_blake_fours = (.agg (foursL.map fun r => Lib.tabData .i64 (r.map fun (n : Nat) => (n : Int))) : DataW Unit) := by rfl

/-- Rows of places, one behind the other. -/
theorem rows_cells {W : World} {t e : TypeId} {m k : Nat} {rows : List (List Nat)} {cs : List Value} {fuel : Nat} {p : List MemPlace} (ht : Tryd.prog.underlying t = some (.array m e)) (he : Tryd.prog.underlying e = some (.array k 3)) (hce : Tryd.prog.cellsOf e = k) (hrows : rows.length = m) (hk : ∀ r ∈ rows, r.length = k)
    (h : DataW.trod (fun _ => ()) Tryd.prog W 0 (fun _ => true) false fuel t cs = some (.agg (rows.map fun r => Lib.tabData .i64 (r.map fun (n : Nat) => (n : Int))), p)) (i j : Nat) (hi : i < m) (hj : j < k) : cs[i * k + j]? = some (.int .i64 ((rows.getD i []).getD j 0 : Int)) := by
  obtain ⟨f', d, q, hd, hr⟩ := Lib.array_elem ht h i hi
  have hi' : i < rows.length := by omega
  rw [List.getElem?_map, List.getElem?_eq_getElem hi', Option.map_some, Option.some.injEq] at hd
  rw [← hd, hce] at hr
  have hc := Lib.cells_of_tab he Tryd.underlying3 Tryd.c3 hce hr
  have hl : j < (rows[i]).length := by rw [hk _ (List.getElem_mem hi')]; exact hj
  have := congrArg (·[j]?) hc
  simp only [List.getElem?_take, List.getElem?_drop, if_pos hj, List.getElem?_map, List.getElem?_eq_getElem hl, Option.map_some] at this
  rw [this]
  simp [List.getD, List.getElem?_eq_getElem hi', List.getElem?_eq_getElem hl]

theorem flat_at (rows : List (List Nat)) (k : Nat) (hk : ∀ r ∈ rows, r.length = k) (x : Nat) (v : Value) (h : (IL rows.flatten)[x]? = some v) : x < rows.length * k ∧ ∃ i j, i < rows.length ∧ j < k ∧ x = i * k + j ∧ v = .int .i64 ((rows.getD i []).getD j 0 : Int) := by
  induction rows generalizing x with
  | nil => simp [IL] at h
  | cons r rs ih =>
    have hr := hk r List.mem_cons_self
    have hrs : ∀ r ∈ rs, r.length = k := fun r h => hk r (List.mem_cons_of_mem _ h)
    unfold IL at h ih
    rw [List.flatten_cons, List.map_append] at h
    by_cases hx : x < k
    · rw [List.getElem?_append_left (by rw [List.length_map, hr]; exact hx), List.getElem?_map, List.getElem?_eq_getElem (show x < r.length by omega), Option.map_some, Option.some.injEq] at h
      refine ⟨by rw [List.length_cons, Nat.succ_mul]; omega, 0, x, by simp, hx, by simp, ?_⟩
      rw [← h]
      simp [List.getD, List.getElem?_eq_getElem (show x < r.length by omega)]
    · rw [List.getElem?_append_right (by rw [List.length_map, hr]; omega), List.length_map, hr] at h
      obtain ⟨h1, i, j, hi, hj, he, hv⟩ := ih hrs _ h
      refine ⟨by rw [List.length_cons, Nat.succ_mul]; omega, i + 1, j, by simpa using hi, hj, by rw [Nat.succ_mul]; omega, ?_⟩
      rw [hv]
      simp

set_option maxRecDepth 100000 in
theorem gl_of_laid {W : World} (h : laidMet Tryd.prog laid3 W) : Gl W := by
  obtain ⟨a0, b0, cs0, f0, p0, hg0, ht0, hv0, hd0⟩ := Lib.laidMet.reads h (n := "tallyhouse/blake.start") (d := Rows.laid_tallyhouse_blake_start) (by simp [laid3])
  obtain ⟨a1, b1, cs1, f1, p1, hg1, ht1, hv1, hd1⟩ := Lib.laidMet.reads h (n := "tallyhouse/blake.orders") (d := Rows.laid_tallyhouse_blake_orders) (by simp [laid3])
  obtain ⟨a2, b2, cs2, f2, p2, hg2, ht2, hv2, hd2⟩ := Lib.laidMet.reads h (n := "tallyhouse/blake.fours") (d := Rows.laid_tallyhouse_blake_fours) (by simp [laid3])
  obtain rfl := Option.some.inj (g0.symm.trans hg0)
  obtain rfl := Option.some.inj (g1.symm.trans hg1)
  obtain rfl := Option.some.inj (g2.symm.trans hg2)
  obtain rfl := Option.some.inj (t0.symm.trans ht0)
  obtain rfl := Option.some.inj (t1.symm.trans ht1)
  obtain rfl := Option.some.inj (t2.symm.trans ht2)
  rw [start_data] at hd0
  rw [orders_data] at hd1
  rw [fours_data] at hd2
  have c0 := Lib.cells_of_tab Tryd.underlying107 Tryd.underlying106 Tryd.c32 Tryd.c42 hd0
  have c1 := fun i j => rows_cells (k := 16) Tryd.underlying130 Tryd.underlying129 Tryd.c37 (rows := ordersL) rfl (by decide) hd1 i j
  have c2 := fun i j => rows_cells (k := 4) Tryd.underlying147 Tryd.underlying146 Tryd.c83 (rows := foursL) rfl (by decide) hd2 i j
  have s : W.rangeAt 0 0 (UL startL) := fun j v hj => by
    rw [Nat.zero_add]
    have := World.var?_cell hg0 hv0 j
    rw [this, ← Array.getElem?_toList, c0, List.map_map]
    exact hj
  have o : W.rangeAt 1 0 (IL ordersL.flatten) := fun x v hx => by
    rw [Nat.zero_add]
    obtain ⟨_, i, j, hi, hj, rfl, rfl⟩ := flat_at ordersL 16 (by decide) x v hx
    have := World.var?_cell hg1 hv1 (i * 16 + j)
    rw [this, ← Array.getElem?_toList, c1 i j hi hj]
  have f : W.rangeAt 2 0 (IL foursL.flatten) := fun x v hx => by
    rw [Nat.zero_add]
    obtain ⟨_, i, j, hi, hj, rfl, rfl⟩ := flat_at foursL 4 (by decide) x v hx
    have := World.var?_cell hg2 hv2 (i * 4 + j)
    rw [this, ← Array.getElem?_toList, c2 i j hi hj]
  refine ⟨s, o, f, ?_⟩
  have h2 := f 0 (.int .i64 0) rfl
  rcases Nat.lt_or_ge 2 W.heap.size with hlt | hge
  · exact hlt
  · simp [World.cell?, Array.getElem?_eq_none hge] at h2

/-- A world that meets the condition: the settled one, the tables laid. -/
noncomputable def laidWorld (os : Os) : World :=
  let w0 := World.holding Tryd.prog os ⟨#[], #[], []⟩
  { w0 with heap := ((w0.heap.modify 0 fun
      | .cells _ t frozen => .cells (UL startL).toArray t frozen
      | o => o).modify 1 fun
      | .cells _ t frozen => .cells (IL ordersL.flatten).toArray t frozen
      | o => o).modify 2 fun
      | .cells _ t frozen => .cells (IL foursL.flatten).toArray t frozen
      | o => o }
theorem laidWorld_met (os : Os) (args : Array Value) : laidMet Tryd.prog laid3 ((laidWorld os).forCall (fun _ _ => 0) ⟨#[], args, []⟩).memory :=
  laidMet_of_run' 8 (by kernel_rfl) (by kernel_rfl)

end Go.Proofs.YtemfnckaehjhcaaDoor.Bk
