/-
  For the law BlakeDigits: a load under a guard, Parse of whatever text.
-/
import Derived.Test.YtbemnolgolecaaaDoorL2
import Derived.Test.YtbemnolgolecaaaDoorT3
import Derived.Test.YtbemnolgolecaaaDoorC4
namespace Go.Proofs.YtbemnolgolecaaaDoor
open Go.RowKit
attribute [local go_sem ↓] Tryd.z42 Tryd.z70 Tryd.z27 Tryd.z45 Tryd.z37 Tryd.z38

/-- A load of an array under a guard that holds. -/
theorem wpList_load_if {P : Program} {ops : Array Oper} {rest : List Oper} {op : Oper} {a : Act} {w : World} {Q : Exit → Act → World → Prop} (hw : Region.wanted op (yielded ops a.tmps) = true) (ty : TypeId) (x : Operand) (ho : op.op = .load ty x)
    (b o : Nat) (hx : a.eval x = .pointer (some ⟨b, o, none⟩)) (cs : List Value) (d : TypeDesc) (hc : w.rangeAt b o cs)
    (hu : P.underlying ty = some d) (hd : d.isRow = true) (hi : (P.info? ty).map (·.size) = some cs.length)
    (h : wpList P ops Q rest (a.put op.dst (.agg cs.toArray)) w) : wpList P ops Q (op :: rest) a w := by
  unfold wpList
  rw [if_pos hw]
  exact .inl (wp_load_mid ty x ho b o hx cs d hc hu hd hi h)

/-- Where the walk stands: both digests in blocks of their own. -/
structure DW (w0 : World) (a b : List Int) (w : World) : Prop where
  below : Below w0.heap.size w0 w
  ba : Blk w w0.heap.size 27 (BL a).toArray
  bb : Blk w (w0.heap.size + 1) 27 (BL b).toArray
theorem DW.low {w0 w w' : World} {a b : List Int} (s : DW w0 a b w) (hb : Below w.heap.size w w') : DW w0 a b w' := ⟨s.below.trans (hb.mono s.below.size), s.ba.below hb s.ba.lt, s.bb.below hb s.bb.lt⟩

theorem parse_any (s : ByteArray) : ∃ id er, (∀ w, Calls Tryd.prog 28 #[.string s] w (Parsed w id er)) ∧ id.length = 32 ∧ ((er = 0 ∧ strOfNums (textF id) = s ∧ Bs id) ∨ (er = 130 ∧ id = Z32)) := by
  by_cases hs : s.size = 64
  · refine ⟨pId s, pEr s, fun w => parse_64 s hs w, ?_, ?_⟩
    · unfold pId
      split
      · exact ofd_len _ _
      · rfl
    · by_cases ok : okd s 32
      · refine .inl ⟨if_pos ok, ?_, ?_⟩
        · rw [show pId s = ofd s 32 from if_pos ok]
          exact text_parse s hs ok
        · rw [show pId s = ofd s 32 from if_pos ok]
          intro j
          by_cases hj : j < 32
          · rw [ofd_at s j hj]
            have := ok j hj
            have r0 := dg_range s (2 * j)
            have r1 := dg_range s (2 * j + 1)
            omega
          · rw [List.getD_eq_getElem?_getD, List.getElem?_eq_none (by rw [ofd_len]; omega)]
            decide
      · exact .inr ⟨if_neg ok, if_neg ok⟩
  · exact ⟨Z32, 130, fun w => parse_len s hs w, rfl, .inr ⟨rfl, rfl⟩⟩

end Go.Proofs.YtbemnolgolecaaaDoor
