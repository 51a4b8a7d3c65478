/-
  Several texts in one: Ld, Op0.
-/
import Derived.Test.YtiipglmbfgmbbaaGreatDoorRows
import Derived.Test.YtiipglmbfgmbbaaGreatDoorPkM
import Derived.ChangeSame
import Derived.ChangeVars
import Derived.JoinedOf
import Derived.RowKit
import Derived.LaidLaws
import Derived.Lib.LaidTab
import Derived.Lib.LaidU8
import Derived.LaidSub
import Derived.ProofKit
import Derived.OpenShut
import Derived.ShutString
import Derived.ChangeOld
import Derived.Below
import Derived.Deep.Slices
import Derived.Deep.Strs
namespace Go.Proofs.YtiipglmbfgmbbaaGreatDoor
open Go.ChangeShapes Go.WideShapes Go.RowKit

def laid8 : List (String × DataW Unit) := [("math/bits.deBruijn32tab", Rows.laid_math_bits_deBruijn32tab), ("math/bits.deBruijn64tab", Rows.laid_math_bits_deBruijn64tab), ("internal/strconv.uint64pow10", Rows.laid_internal_strconv_uint64pow10), ("strconv.ErrRange", Rows.laid_strconv_ErrRange), ("strconv.ErrSyntax", Rows.laid_strconv_ErrSyntax), ("tallyhouse/lex.kept", Rows.laid_tallyhouse_lex_kept), ("tallyhouse/parse.firstWords", Rows.laid_tallyhouse_parse_firstWords), ("tallyhouse/parse.typeWords", Rows.laid_tallyhouse_parse_typeWords)]
theorem gn0 : Tryz.prog.globalNamed "tallyhouse/lex.kept" = some 2 := by kernel_rfl
theorem gn2 : Tryz.prog.globalNamed "internal/strconv.uint64pow10" = some 3 := by kernel_rfl
theorem gn6 : Tryz.prog.globalNamed "strconv.ErrRange" = some 5 := by kernel_rfl
theorem gn8 : Tryz.prog.globalNamed "math/bits.deBruijn64tab" = some 8 := by kernel_rfl
theorem gnf : Tryz.prog.globalNamed "tallyhouse/parse.firstWords" = some 0 := by kernel_rfl
theorem gnt : Tryz.prog.globalNamed "tallyhouse/parse.typeWords" = some 1 := by kernel_rfl
theorem gt0 : (Tryz.prog.globals[2]?).map (·.type) = some 170 := by kernel_rfl
theorem gt2 : (Tryz.prog.globals[3]?).map (·.type) = some 184 := by kernel_rfl
theorem gt6 : (Tryz.prog.globals[5]?).map (·.type) = some 90 := by kernel_rfl
theorem gtf : (Tryz.prog.globals[0]?).map (·.type) = some 135 := by kernel_rfl
theorem gtt : (Tryz.prog.globals[1]?).map (·.type) = some 141 := by kernel_rfl
theorem gt8 : (Tryz.prog.globals[8]?).map (·.type) = some 205 := by kernel_rfl
theorem Tryz.c9 : Tryz.prog.cellsOf 9 = 1 := by kernel_rfl
theorem Tryz.c153 : Tryz.prog.cellsOf 153 = 1 := by kernel_rfl
theorem Tryz.c184 : Tryz.prog.cellsOf 184 = 20 := by kernel_rfl
theorem fw_data : Rows.laid_tallyhouse_parse_firstWords = (.agg (fwL.map fun k => .lit (.string k)) : DataW Unit) := by kernel_rfl
theorem tw_data : Rows.laid_tallyhouse_parse_typeWords = (.agg (twL.map fun k => .lit (.string k)) : DataW Unit) := by kernel_rfl
theorem kept_data : Rows.laid_tallyhouse_lex_kept = (.agg (keptL.map fun k => .lit (.string k)) : DataW Unit) := by kernel_rfl
theorem pow_data : Rows.laid_internal_strconv_uint64pow10 = (Lib.tabData .u64 Lib.pow10Tab : DataW Unit) := by kernel_rfl

theorem gl_of_laid {W : World} (h : laidMet Tryz.prog laid8 W) : Gl W := by
  obtain ⟨a0, b0, cs0, f0, p0, hg0, ht0, hv0, hd0⟩ := Lib.laidMet.reads h (n := "tallyhouse/lex.kept") (d := Rows.laid_tallyhouse_lex_kept) (by simp [laid8])
  obtain ⟨a2, b2, cs2, f2, p2, hg2, ht2, hv2, hd2⟩ := Lib.laidMet.reads h (n := "internal/strconv.uint64pow10") (d := Rows.laid_internal_strconv_uint64pow10) (by simp [laid8])
  obtain ⟨a6, b6, cs6, f6, p6, hg6, ht6, hv6, hd6⟩ := Lib.laidMet.reads h (n := "strconv.ErrRange") (d := Rows.laid_strconv_ErrRange) (by simp [laid8])
  obtain rfl := Option.some.inj (gn0.symm.trans hg0)
  obtain rfl := Option.some.inj (gt0.symm.trans ht0)
  obtain rfl := Option.some.inj (gn2.symm.trans hg2)
  obtain rfl := Option.some.inj (gt2.symm.trans ht2)
  obtain rfl := Option.some.inj (gn6.symm.trans hg6)
  obtain rfl := Option.some.inj (gt6.symm.trans ht6)
  rw [kept_data] at hd0
  rw [pow_data] at hd2
  have k : ∀ i, i < 35 → W.cell? ⟨2, i, none⟩ = some (tx (keptL.getD i [])) := fun i hi => by
    obtain ⟨f', d, q, hd, hr⟩ := Lib.array_elem Tryz.underlying170 hd0 i hi
    have hi' : i < keptL.length := hi
    rw [List.getElem?_map, List.getElem?_eq_getElem hi', Option.map_some, Option.some.injEq] at hd
    rw [← hd, Tryz.c9, Nat.mul_one] at hr
    obtain ⟨s, hs, hx, _⟩ := DataW.trod_string Tryz.underlying9 hr
    simp only [Prod.mk.injEq, DataW.lit.injEq] at hx
    have e : keptL[i] = s.data.toList := by
      have := hx.1
      injection this
    have hc := congrArg (·[0]?) hs
    simp only [List.getElem?_take, List.getElem?_drop, List.getElem?_cons_zero, Nat.add_zero] at hc
    rw [World.var?_cell hg0 hv0 i, ← Array.getElem?_toList]
    have hc2 : cs0.toList[i]? = some (.string s) := by simpa using hc
    rw [hc2]
    have e2 : keptL.getD i [] = s.data.toList := by
      rw [← e]
      simp [List.getD, hi']
    rw [e2]
  have tab : Lib.TabIs Tryz.prog W "internal/strconv.uint64pow10" .u64 Lib.pow10Tab := by
    unfold Lib.TabIs
    rw [hv2, ← Lib.cells_of_tab Tryz.underlying184 Tryz.underlying153 Tryz.c153 Tryz.c184 hd2]
  have rg : ∃ tp p, W.var? Tryz.prog "strconv.ErrRange" = some #[.iface tp p] := by
    obtain ⟨f', u, v, hc, _, _⟩ := iface_of_trod Tryz.underlying90 hd6
    refine ⟨u, v, hv6.trans ?_⟩
    rw [← Array.toArray_toList (xs := cs6), hc]
  refine ⟨k, rg, tab, ?_⟩
  obtain ⟨a8, b8, cs8, f8, p8, hg8, ht8, hv8, hd8⟩ := Lib.laidMet.reads h (n := "math/bits.deBruijn64tab") (d := Rows.laid_math_bits_deBruijn64tab) (by simp [laid8])
  obtain rfl := Option.some.inj (gn8.symm.trans hg8)
  obtain rfl := Option.some.inj (gt8.symm.trans ht8)
  rcases Nat.lt_or_ge 8 W.heap.size with hlt | hge
  · exact hlt
  · exfalso
    unfold World.var? at hv8
    rw [gn8, Option.bind_some, Array.getElem?_eq_none hge] at hv8
    cases hv8
theorem gp_of_laid {W : World} (h : laidMet Tryz.prog laid8 W) : Gp W := by
  obtain ⟨a0, b0, cs0, f0, p0, hg0, ht0, hv0, hd0⟩ := Lib.laidMet.reads h (n := "tallyhouse/parse.firstWords") (d := Rows.laid_tallyhouse_parse_firstWords) (by simp [laid8])
  obtain ⟨a1, b1, cs1, f1, p1, hg1, ht1, hv1, hd1⟩ := Lib.laidMet.reads h (n := "tallyhouse/parse.typeWords") (d := Rows.laid_tallyhouse_parse_typeWords) (by simp [laid8])
  obtain rfl := Option.some.inj (gnf.symm.trans hg0)
  obtain rfl := Option.some.inj (gtf.symm.trans ht0)
  obtain rfl := Option.some.inj (gnt.symm.trans hg1)
  obtain rfl := Option.some.inj (gtt.symm.trans ht1)
  rw [fw_data] at hd0
  rw [tw_data] at hd1
  have k0 : ∀ i, i < 7 → W.cell? ⟨0, i, none⟩ = some (tx (fwL.getD i [])) := fun i hi => by
    obtain ⟨f', d, q, hd, hr⟩ := Lib.array_elem Tryz.underlying135 hd0 i hi
    have hi' : i < fwL.length := hi
    rw [List.getElem?_map, List.getElem?_eq_getElem hi', Option.map_some, Option.some.injEq] at hd
    rw [← hd, Tryz.c9, Nat.mul_one] at hr
    obtain ⟨s, hs, hx, _⟩ := DataW.trod_string Tryz.underlying9 hr
    simp only [Prod.mk.injEq, DataW.lit.injEq] at hx
    have e : fwL[i] = s.data.toList := by
      have := hx.1
      injection this
    have hc := congrArg (·[0]?) hs
    simp only [List.getElem?_take, List.getElem?_drop, List.getElem?_cons_zero, Nat.add_zero] at hc
    rw [World.var?_cell hg0 hv0 i, ← Array.getElem?_toList]
    have hc2 : cs0.toList[i]? = some (.string s) := by simpa using hc
    rw [hc2]
    have e2 : fwL.getD i [] = s.data.toList := by
      rw [← e]
      simp [List.getD, hi']
    rw [e2]
  have k1 : ∀ i, i < 5 → W.cell? ⟨1, i, none⟩ = some (tx (twL.getD i [])) := fun i hi => by
    obtain ⟨f', d, q, hd, hr⟩ := Lib.array_elem Tryz.underlying141 hd1 i hi
    have hi' : i < twL.length := hi
    rw [List.getElem?_map, List.getElem?_eq_getElem hi', Option.map_some, Option.some.injEq] at hd
    rw [← hd, Tryz.c9, Nat.mul_one] at hr
    obtain ⟨s, hs, hx, _⟩ := DataW.trod_string Tryz.underlying9 hr
    simp only [Prod.mk.injEq, DataW.lit.injEq] at hx
    have e : twL[i] = s.data.toList := by
      have := hx.1
      injection this
    have hc := congrArg (·[0]?) hs
    simp only [List.getElem?_take, List.getElem?_drop, List.getElem?_cons_zero, Nat.add_zero] at hc
    rw [World.var?_cell hg1 hv1 i, ← Array.getElem?_toList]
    have hc2 : cs1.toList[i]? = some (.string s) := by simpa using hc
    rw [hc2]
    have e2 : twL.getD i [] = s.data.toList := by
      rw [← e]
      simp [List.getD, hi']
    rw [e2]
  exact ⟨k0, k1⟩
/-- A world that meets the condition: the settled one, the tables laid, the two errors behind it. -/
noncomputable def low : Nat := (World.holding Tryz.prog default ⟨#[], #[], []⟩).heap.size
abbrev rangeS : ByteArray := ⟨#[118, 97, 108, 117, 101, 32, 111, 117, 116, 32, 111, 102, 32, 114, 97, 110, 103, 101]⟩
abbrev syntaxS : ByteArray := ⟨#[105, 110, 118, 97, 108, 105, 100, 32, 115, 121, 110, 116, 97, 120]⟩
def setCs (h : Array Obj) (g : Nat) (cs : Array Value) : Array Obj := h.modify g fun
  | .cells _ t frozen => .cells cs t frozen
  | o => o
def litCells : DataW Unit → Array Value
  | .agg l => (l.map fun | .lit (.int k n) => Value.int k n | _ => undef).toArray
  | _ => #[]
noncomputable def laidWorld (os : Os) : World :=
  let w0 := World.holding Tryz.prog os ⟨#[.cells #[.string rangeS] 209, .cells #[.string syntaxS] 209], #[], []⟩
  { w0 with heap := setCs (setCs (setCs (setCs (setCs (setCs (setCs (setCs w0.heap 0 (fwL.map tx).toArray) 1 (twL.map tx).toArray) 2 (keptL.map tx).toArray) 3 (litCells Rows.laid_internal_strconv_uint64pow10)) 7 (litCells Rows.laid_math_bits_deBruijn32tab)) 8 (litCells Rows.laid_math_bits_deBruijn64tab)) 5 #[.iface 207 (.pointer (some ⟨low, 0, none⟩))]) 4 #[.iface 207 (.pointer (some ⟨low + 1, 0, none⟩))] }
set_option maxRecDepth 100000 in
theorem laidWorld_met (os : Os) (args : Array Value) : laidMet Tryz.prog laid8 ((laidWorld os).forCall (fun _ _ => 0) ⟨#[], args, []⟩).memory :=
  laidMet_of_run' 8 (by kernel_rfl) (by kernel_rfl)
end Go.Proofs.YtiipglmbfgmbbaaGreatDoor

namespace Go.Proofs.YtiipglmbfgmbbaaGreatDoor
open Go.ChangeShapes Go.WideShapes Go.ChangeAt Go.RowKit Go.Deep

theorem ownOk : ownKnob Tryz.prog.godebug = none := by kernel_rfl
theorem laidOk : laidOutB Tryz.prog = true := by kernel_rfl
theorem addr_of {w : World} {a : Addr} {v : Value} (h : w.cell? (a.add 0) = some v) : ∃ b o, a = ⟨b, o, none⟩ ∧ b < w.heap.size := by
  rw [show a.add 0 = a from rfl] at h
  obtain ⟨b, o, s⟩ := a
  have hs : s = none := World.cell?_spot h
  subst hs
  exact ⟨b, o, rfl, World.block_lt_of_cell? w _ h⟩
theorem add_at (b o i : Nat) : (⟨b, o, none⟩ : Addr).add i = ⟨b, o + i, none⟩ := by by_cases h0 : i = 0 <;> simp [Addr.add, h0]
end Go.Proofs.YtiipglmbfgmbbaaGreatDoor
