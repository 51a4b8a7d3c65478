/-
  What the rows' condition on the listed variables gives a walk, and a world that meets it.
-/
import Derived.Test.YtblcfjliabeaiaaDoorRows
import Derived.Test.YtblcfjliabeaiaaDoorL5
import Derived.ChangeSame
import Derived.ChangeVars
import Derived.JoinedOf
import Derived.RowKit
import Derived.LaidLaws
import Derived.Lib.LaidTab
import Derived.Lib.LaidU8
import Derived.LaidSub
namespace Go.Proofs.YtblcfjliabeaiaaDoor
open Go.ChangeShapes Go.WideShapes Go.RowKit

def laid6 : List (String × DataW Unit) := [("math/bits.deBruijn32tab", Rows.laid_math_bits_deBruijn32tab), ("math/bits.deBruijn64tab", Rows.laid_math_bits_deBruijn64tab), ("internal/strconv.uint64pow10", Rows.laid_internal_strconv_uint64pow10), ("strconv.ErrRange", Rows.laid_strconv_ErrRange), ("strconv.ErrSyntax", Rows.laid_strconv_ErrSyntax), ("tallyhouse/lex.kept", Rows.laid_tallyhouse_lex_kept)]
theorem gn0 : Tryd.prog.globalNamed "tallyhouse/lex.kept" = some 0 := by kernel_rfl
theorem gn2 : Tryd.prog.globalNamed "internal/strconv.uint64pow10" = some 2 := by kernel_rfl
theorem gn6 : Tryd.prog.globalNamed "strconv.ErrRange" = some 6 := by kernel_rfl
theorem gt0 : (Tryd.prog.globals[0]?).map (·.type) = some 66 := by kernel_rfl
theorem gt2 : (Tryd.prog.globals[2]?).map (·.type) = some 110 := by kernel_rfl
theorem gt6 : (Tryd.prog.globals[6]?).map (·.type) = some 58 := by kernel_rfl
theorem Tryd.c9 : Tryd.prog.cellsOf 9 = 1 := by kernel_rfl
theorem Tryd.c87 : Tryd.prog.cellsOf 87 = 1 := by kernel_rfl
theorem Tryd.c110 : Tryd.prog.cellsOf 110 = 20 := by kernel_rfl
theorem kept_data : Rows.laid_tallyhouse_lex_kept = (.agg (keptL.map fun k => .lit (.string k)) : DataW Unit) := by kernel_rfl
theorem pow_data : Rows.laid_internal_strconv_uint64pow10 = (Lib.tabData .u64 Lib.pow10Tab : DataW Unit) := by kernel_rfl

theorem gl_of_laid {W : World} (h : laidMet Tryd.prog laid6 W) : Gl W := by
  obtain ⟨a0, b0, cs0, f0, p0, hg0, ht0, hv0, hd0⟩ := Lib.laidMet.reads h (n := "tallyhouse/lex.kept") (d := Rows.laid_tallyhouse_lex_kept) (by simp [laid6])
  obtain ⟨a2, b2, cs2, f2, p2, hg2, ht2, hv2, hd2⟩ := Lib.laidMet.reads h (n := "internal/strconv.uint64pow10") (d := Rows.laid_internal_strconv_uint64pow10) (by simp [laid6])
  obtain ⟨a6, b6, cs6, f6, p6, hg6, ht6, hv6, hd6⟩ := Lib.laidMet.reads h (n := "strconv.ErrRange") (d := Rows.laid_strconv_ErrRange) (by simp [laid6])
  obtain rfl := Option.some.inj (gn0.symm.trans hg0)
  obtain rfl := Option.some.inj (gt0.symm.trans ht0)
  obtain rfl := Option.some.inj (gn2.symm.trans hg2)
  obtain rfl := Option.some.inj (gt2.symm.trans ht2)
  obtain rfl := Option.some.inj (gn6.symm.trans hg6)
  obtain rfl := Option.some.inj (gt6.symm.trans ht6)
  rw [kept_data] at hd0
  rw [pow_data] at hd2
  have k : ∀ i, i < 35 → W.cell? ⟨0, i, none⟩ = some (tx (keptL.getD i [])) := fun i hi => by
    obtain ⟨f', d, q, hd, hr⟩ := Lib.array_elem Tryd.underlying66 hd0 i hi
    have hi' : i < keptL.length := hi
    rw [List.getElem?_map, List.getElem?_eq_getElem hi', Option.map_some, Option.some.injEq] at hd
    rw [← hd, Tryd.c9, Nat.mul_one] at hr
    obtain ⟨s, hs, hx, _⟩ := DataW.trod_string Tryd.underlying9 hr
    simp only [Prod.mk.injEq, DataW.lit.injEq] at hx
    have e : keptL[i] = s.data.toList := by
      have := hx.1
      injection this
    have hc := congrArg (·[0]?) hs
    simp only [List.getElem?_take, List.getElem?_drop, List.getElem?_cons_zero, Nat.add_zero] at hc
    rw [World.var?_cell hg0 hv0 i, ← Array.getElem?_toList]
    have hc2 : cs0.toList[i]? = some (.string s) := by simpa using hc
    rw [hc2]
    have e2 : keptL.getD i [] = s.data.toList := by
      rw [← e]
      simp [List.getD, hi']
    rw [e2]
  have tab : Lib.TabIs Tryd.prog W "internal/strconv.uint64pow10" .u64 Lib.pow10Tab := by
    unfold Lib.TabIs
    rw [hv2, ← Lib.cells_of_tab Tryd.underlying110 Tryd.underlying87 Tryd.c87 Tryd.c110 hd2]
  have rg : ∃ tp p, W.var? Tryd.prog "strconv.ErrRange" = some #[.iface tp p] := by
    obtain ⟨f', u, v, hc, _, _⟩ := iface_of_trod Tryd.underlying58 hd6
    refine ⟨u, v, hv6.trans ?_⟩
    rw [← Array.toArray_toList (xs := cs6), hc]
  refine ⟨k, rg, tab, ?_⟩
  obtain ⟨tp, p, hv⟩ := rg
  have h6 := World.var?_cell gn6 hv 0
  rcases Nat.lt_or_ge 6 W.heap.size with hlt | hge
  · exact hlt
  · simp [World.cell?, Array.getElem?_eq_none hge] at h6

/-- A world that meets the condition: the settled one, the tables laid, the two errors behind it. -/
noncomputable def low : Nat := (World.holding Tryd.prog default ⟨#[], #[], []⟩).heap.size
abbrev rangeS : ByteArray := ⟨#[118, 97, 108, 117, 101, 32, 111, 117, 116, 32, 111, 102, 32, 114, 97, 110, 103, 101]⟩
abbrev syntaxS : ByteArray := ⟨#[105, 110, 118, 97, 108, 105, 100, 32, 115, 121, 110, 116, 97, 120]⟩
def setCs (h : Array Obj) (g : Nat) (cs : Array Value) : Array Obj := h.modify g fun
  | .cells _ t frozen => .cells cs t frozen
  | o => o
def litCells : DataW Unit → Array Value
  | .agg l => (l.map fun | .lit (.int k n) => Value.int k n | _ => undef).toArray
  | _ => #[]
noncomputable def laidWorld (os : Os) : World :=
  let w0 := World.holding Tryd.prog os ⟨#[.cells #[.string rangeS] 129, .cells #[.string syntaxS] 129], #[], []⟩
  { w0 with heap := setCs (setCs (setCs (setCs (setCs (setCs w0.heap 0 (keptL.map tx).toArray) 2 (litCells Rows.laid_internal_strconv_uint64pow10)) 3 (litCells Rows.laid_math_bits_deBruijn32tab)) 4 (litCells Rows.laid_math_bits_deBruijn64tab)) 6 #[.iface 127 (.pointer (some ⟨low, 0, none⟩))]) 5 #[.iface 127 (.pointer (some ⟨low + 1, 0, none⟩))] }
set_option maxRecDepth 100000 in
theorem laidWorld_met (os : Os) (args : Array Value) : laidMet Tryd.prog laid6 ((laidWorld os).forCall (fun _ _ => 0) ⟨#[], args, []⟩).memory :=
  laidMet_of_run' 8 (by kernel_rfl) (by kernel_rfl)
end Go.Proofs.YtblcfjliabeaiaaDoor
