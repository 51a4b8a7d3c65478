/-
  NARROWER THAN 'FOR EVERY INPUT', by the rows' own cells (each row's printed sentence says how): ConfMay: laid · ConfReach: laid · ConfMoves: laid · ConfCodes: laid · ConfShare: laid · ConfGrows: laid · ConfReturns: laid.
  DERIVED. THE GIVEN ROWS OF THIS SEAT. 7 by the template 'for every input the law returns true; each argument reads behind the call as it read before'; 0 by the template 'total and deterministic' (their statements: YtfclppopelmdgaaDoorTotals.lean).
  GIVEN WITH THE SEED: the statements are not yours to turn. If you find one false, say at which input.
  Laid BY PROGRAM, IN A SANDBOX (cutbox-rows.mjs): the forced cells as the released guide's own fill.sh prints them over the translation dac4b74595034902… (all of the seat's roots in one cut). By AI agents, Wed Nov 11 2026. No macro, syntax, notation, axiom, sorry.
-/
import Derived.Test.YtfclppopelmdgaaDoorChecked
import GoSem.Claim
import GoSem.ClaimJoined
import GoSem.ClaimMapViews
import Derived.JoinedTies
import Derived.KernelRfl
namespace Go.Proofs.YtfclppopelmdgaaDoor
/- THE CELL 'sum', in the pinned program and in every row, IS THE sha256 OF THE DUMP (.gsa) THAT YtfclppopelmdgaaDoorProg.lean LOADS. Nothing in Lean hashes anything: it is a label: what it is worth is what the hold of that sum in a sandbox is worth. -/
noncomputable def Tryd.pinned : Pinned := { name := "ytfclppopelmdgaadoor", sum := "dac4b7459503490299df4a731e55c760845d263176e11f391da63301638ee6c6", checked := Tryd.checked }
namespace Rows
def none {H : Type} : Left H := { results := [], args := [] }

/- WHAT THE LISTED PACKAGE-LEVEL VARIABLES READ AS WHEN THE CALL BEGINS. Each datum BY PROGRAM (the guide's laid-datum.mjs) off the statement by which the dump's own 'gosem.cut.vars' lays the variable. In a bare row this is a premise. The card (YtfclppopelmdgaaDoorCards.lean) ties it to the program's text. -/
def laid_tallyhouse_conf_rows {H : Type} : DataW H := .agg [.agg [.lit (.int .i64 0), .lit (.int .i64 0), .lit (.int .i64 0), .lit (.int .i64 0), .lit (.int .i64 0)], .agg [.lit (.int .i64 1), .lit (.int .i64 0), .lit (.int .i64 0), .lit (.int .i64 0), .lit (.int .i64 0)], .agg [.lit (.int .i64 2), .lit (.int .i64 0), .lit (.int .i64 0), .lit (.int .i64 0), .lit (.int .i64 0)], .agg [.lit (.int .i64 1), .lit (.int .i64 2), .lit (.int .i64 0), .lit (.int .i64 0), .lit (.int .i64 0)], .agg [.lit (.int .i64 3), .lit (.int .i64 0), .lit (.int .i64 0), .lit (.int .i64 0), .lit (.int .i64 0)], .agg [.lit (.int .i64 1), .lit (.int .i64 3), .lit (.int .i64 0), .lit (.int .i64 0), .lit (.int .i64 0)], .agg [.lit (.int .i64 2), .lit (.int .i64 3), .lit (.int .i64 0), .lit (.int .i64 0), .lit (.int .i64 0)], .agg [.lit (.int .i64 1), .lit (.int .i64 2), .lit (.int .i64 3), .lit (.int .i64 0), .lit (.int .i64 0)], .agg [.lit (.int .i64 4), .lit (.int .i64 0), .lit (.int .i64 0), .lit (.int .i64 0), .lit (.int .i64 0)], .agg [.lit (.int .i64 1), .lit (.int .i64 4), .lit (.int .i64 0), .lit (.int .i64 0), .lit (.int .i64 0)], .agg [.lit (.int .i64 2), .lit (.int .i64 4), .lit (.int .i64 0), .lit (.int .i64 0), .lit (.int .i64 0)], .agg [.lit (.int .i64 1), .lit (.int .i64 2), .lit (.int .i64 4), .lit (.int .i64 0), .lit (.int .i64 0)], .agg [.lit (.int .i64 3), .lit (.int .i64 4), .lit (.int .i64 0), .lit (.int .i64 0), .lit (.int .i64 0)], .agg [.lit (.int .i64 1), .lit (.int .i64 3), .lit (.int .i64 4), .lit (.int .i64 0), .lit (.int .i64 0)], .agg [.lit (.int .i64 2), .lit (.int .i64 3), .lit (.int .i64 4), .lit (.int .i64 0), .lit (.int .i64 0)], .agg [.lit (.int .i64 1), .lit (.int .i64 2), .lit (.int .i64 3), .lit (.int .i64 4), .lit (.int .i64 0)], .agg [.lit (.int .i64 5), .lit (.int .i64 0), .lit (.int .i64 0), .lit (.int .i64 0), .lit (.int .i64 0)], .agg [.lit (.int .i64 1), .lit (.int .i64 5), .lit (.int .i64 0), .lit (.int .i64 0), .lit (.int .i64 0)], .agg [.lit (.int .i64 2), .lit (.int .i64 5), .lit (.int .i64 0), .lit (.int .i64 0), .lit (.int .i64 0)], .agg [.lit (.int .i64 1), .lit (.int .i64 2), .lit (.int .i64 5), .lit (.int .i64 0), .lit (.int .i64 0)], .agg [.lit (.int .i64 3), .lit (.int .i64 5), .lit (.int .i64 0), .lit (.int .i64 0), .lit (.int .i64 0)], .agg [.lit (.int .i64 1), .lit (.int .i64 3), .lit (.int .i64 5), .lit (.int .i64 0), .lit (.int .i64 0)], .agg [.lit (.int .i64 2), .lit (.int .i64 3), .lit (.int .i64 5), .lit (.int .i64 0), .lit (.int .i64 0)], .agg [.lit (.int .i64 1), .lit (.int .i64 2), .lit (.int .i64 3), .lit (.int .i64 5), .lit (.int .i64 0)], .agg [.lit (.int .i64 4), .lit (.int .i64 5), .lit (.int .i64 0), .lit (.int .i64 0), .lit (.int .i64 0)], .agg [.lit (.int .i64 1), .lit (.int .i64 4), .lit (.int .i64 5), .lit (.int .i64 0), .lit (.int .i64 0)], .agg [.lit (.int .i64 2), .lit (.int .i64 4), .lit (.int .i64 5), .lit (.int .i64 0), .lit (.int .i64 0)], .agg [.lit (.int .i64 1), .lit (.int .i64 2), .lit (.int .i64 4), .lit (.int .i64 5), .lit (.int .i64 0)], .agg [.lit (.int .i64 3), .lit (.int .i64 4), .lit (.int .i64 5), .lit (.int .i64 0), .lit (.int .i64 0)], .agg [.lit (.int .i64 1), .lit (.int .i64 3), .lit (.int .i64 4), .lit (.int .i64 5), .lit (.int .i64 0)], .agg [.lit (.int .i64 2), .lit (.int .i64 3), .lit (.int .i64 4), .lit (.int .i64 5), .lit (.int .i64 0)], .agg [.lit (.int .i64 1), .lit (.int .i64 2), .lit (.int .i64 3), .lit (.int .i64 4), .lit (.int .i64 5)]]

/-- 'tallyhouselaw08.ConfMay': WHATEVER THE INPUT: true; the input reads as it did. -/
def confMaySpec : ChangeSpec := { name := "confMay", fn := fun _ => fun
  | [d1, d2, d3] => { results := [.lit (.bool true)], args := [d1, d2, d3] }
  | _ => none }
def confMayRow : OpenClaim := { program := "ytfclppopelmdgaadoor", sum := "dac4b7459503490299df4a731e55c760845d263176e11f391da63301638ee6c6", func := "tallyhouse/tallyhouselaw08.ConfMay", spec := "confMay", unfollowed := true, recurses := true, named := ["tallyhouse/conf.rows"], apart := false, laid := [("tallyhouse/conf.rows", laid_tallyhouse_conf_rows)] }
def ConfMaySaid : Prop := confMayRow.holds Tryd.pinned (OpenSpec.ofChange confMaySpec)

/-- ITS FALSE NEIGHBOUR: 'it returns false'. Refute it at one input. -/
def confMayWrong : ChangeSpec := { name := "confMay", fn := fun _ => fun
  | [d1, d2, d3] => { results := [.lit (.bool false)], args := [d1, d2, d3] }
  | _ => none }
def ConfMayWrongFalsely : Prop := confMayRow.holds Tryd.pinned (OpenSpec.ofChange confMayWrong)

/-- 'tallyhouselaw08.ConfReach': WHATEVER THE INPUT: true; the input reads as it did. -/
def confReachSpec : ChangeSpec := { name := "confReach", fn := fun _ => fun
  | [d1, d2] => { results := [.lit (.bool true)], args := [d1, d2] }
  | _ => none }
def confReachRow : OpenClaim := { program := "ytfclppopelmdgaadoor", sum := "dac4b7459503490299df4a731e55c760845d263176e11f391da63301638ee6c6", func := "tallyhouse/tallyhouselaw08.ConfReach", spec := "confReach", unfollowed := true, recurses := true, named := ["tallyhouse/conf.rows"], apart := false, laid := [("tallyhouse/conf.rows", laid_tallyhouse_conf_rows)] }
def ConfReachSaid : Prop := confReachRow.holds Tryd.pinned (OpenSpec.ofChange confReachSpec)

/-- ITS FALSE NEIGHBOUR: 'it returns false'. Refute it at one input. -/
def confReachWrong : ChangeSpec := { name := "confReach", fn := fun _ => fun
  | [d1, d2] => { results := [.lit (.bool false)], args := [d1, d2] }
  | _ => none }
def ConfReachWrongFalsely : Prop := confReachRow.holds Tryd.pinned (OpenSpec.ofChange confReachWrong)

/-- 'tallyhouselaw08.ConfMoves': WHATEVER THE INPUT: true; the input reads as it did. -/
def confMovesSpec : ChangeSpec := { name := "confMoves", fn := fun _ => fun
  | [d1, d2, d3] => { results := [.lit (.bool true)], args := [d1, d2, d3] }
  | _ => none }
def confMovesRow : OpenClaim := { program := "ytfclppopelmdgaadoor", sum := "dac4b7459503490299df4a731e55c760845d263176e11f391da63301638ee6c6", func := "tallyhouse/tallyhouselaw08.ConfMoves", spec := "confMoves", unfollowed := true, recurses := true, named := ["tallyhouse/conf.rows"], apart := false, laid := [("tallyhouse/conf.rows", laid_tallyhouse_conf_rows)] }
def ConfMovesSaid : Prop := confMovesRow.holds Tryd.pinned (OpenSpec.ofChange confMovesSpec)

/-- ITS FALSE NEIGHBOUR: 'it returns false'. Refute it at one input. -/
def confMovesWrong : ChangeSpec := { name := "confMoves", fn := fun _ => fun
  | [d1, d2, d3] => { results := [.lit (.bool false)], args := [d1, d2, d3] }
  | _ => none }
def ConfMovesWrongFalsely : Prop := confMovesRow.holds Tryd.pinned (OpenSpec.ofChange confMovesWrong)

/-- 'tallyhouselaw08.ConfCodes': WHATEVER THE INPUT: true; the input reads as it did. -/
def confCodesSpec : ChangeSpec := { name := "confCodes", fn := fun _ => fun
  | [d1, d2] => { results := [.lit (.bool true)], args := [d1, d2] }
  | _ => none }
def confCodesRow : OpenClaim := { program := "ytfclppopelmdgaadoor", sum := "dac4b7459503490299df4a731e55c760845d263176e11f391da63301638ee6c6", func := "tallyhouse/tallyhouselaw08.ConfCodes", spec := "confCodes", unfollowed := true, recurses := true, named := ["tallyhouse/conf.rows"], apart := false, laid := [("tallyhouse/conf.rows", laid_tallyhouse_conf_rows)] }
def ConfCodesSaid : Prop := confCodesRow.holds Tryd.pinned (OpenSpec.ofChange confCodesSpec)

/-- ITS FALSE NEIGHBOUR: 'it returns false'. Refute it at one input. -/
def confCodesWrong : ChangeSpec := { name := "confCodes", fn := fun _ => fun
  | [d1, d2] => { results := [.lit (.bool false)], args := [d1, d2] }
  | _ => none }
def ConfCodesWrongFalsely : Prop := confCodesRow.holds Tryd.pinned (OpenSpec.ofChange confCodesWrong)

/-- 'tallyhouselaw08.ConfShare': WHATEVER THE INPUT: true; the input reads as it did. -/
def confShareSpec : ChangeSpec := { name := "confShare", fn := fun _ => fun
  | [d1, d2, d3] => { results := [.lit (.bool true)], args := [d1, d2, d3] }
  | _ => none }
def confShareRow : OpenClaim := { program := "ytfclppopelmdgaadoor", sum := "dac4b7459503490299df4a731e55c760845d263176e11f391da63301638ee6c6", func := "tallyhouse/tallyhouselaw08.ConfShare", spec := "confShare", unfollowed := true, recurses := true, named := ["tallyhouse/conf.rows"], apart := false, laid := [("tallyhouse/conf.rows", laid_tallyhouse_conf_rows)] }
def ConfShareSaid : Prop := confShareRow.holds Tryd.pinned (OpenSpec.ofChange confShareSpec)

/-- ITS FALSE NEIGHBOUR: 'it returns false'. Refute it at one input. -/
def confShareWrong : ChangeSpec := { name := "confShare", fn := fun _ => fun
  | [d1, d2, d3] => { results := [.lit (.bool false)], args := [d1, d2, d3] }
  | _ => none }
def ConfShareWrongFalsely : Prop := confShareRow.holds Tryd.pinned (OpenSpec.ofChange confShareWrong)

/-- 'tallyhouselaw08.ConfGrows': WHATEVER THE INPUT: true; the input reads as it did. -/
def confGrowsSpec : ChangeSpec := { name := "confGrows", fn := fun _ => fun
  | [d1, d2, d3] => { results := [.lit (.bool true)], args := [d1, d2, d3] }
  | _ => none }
def confGrowsRow : OpenClaim := { program := "ytfclppopelmdgaadoor", sum := "dac4b7459503490299df4a731e55c760845d263176e11f391da63301638ee6c6", func := "tallyhouse/tallyhouselaw08.ConfGrows", spec := "confGrows", unfollowed := true, recurses := true, named := ["tallyhouse/conf.rows"], apart := false, laid := [("tallyhouse/conf.rows", laid_tallyhouse_conf_rows)] }
def ConfGrowsSaid : Prop := confGrowsRow.holds Tryd.pinned (OpenSpec.ofChange confGrowsSpec)

/-- ITS FALSE NEIGHBOUR: 'it returns false'. Refute it at one input. -/
def confGrowsWrong : ChangeSpec := { name := "confGrows", fn := fun _ => fun
  | [d1, d2, d3] => { results := [.lit (.bool false)], args := [d1, d2, d3] }
  | _ => none }
def ConfGrowsWrongFalsely : Prop := confGrowsRow.holds Tryd.pinned (OpenSpec.ofChange confGrowsWrong)

/-- 'tallyhouselaw08.ConfReturns': WHATEVER THE INPUT: true; the input reads as it did. -/
def confReturnsSpec : ChangeSpec := { name := "confReturns", fn := fun _ => fun
  | [d1, d2, d3] => { results := [.lit (.bool true)], args := [d1, d2, d3] }
  | _ => none }
def confReturnsRow : OpenClaim := { program := "ytfclppopelmdgaadoor", sum := "dac4b7459503490299df4a731e55c760845d263176e11f391da63301638ee6c6", func := "tallyhouse/tallyhouselaw08.ConfReturns", spec := "confReturns", unfollowed := true, recurses := true, named := ["tallyhouse/conf.rows"], apart := false, laid := [("tallyhouse/conf.rows", laid_tallyhouse_conf_rows)] }
def ConfReturnsSaid : Prop := confReturnsRow.holds Tryd.pinned (OpenSpec.ofChange confReturnsSpec)

/-- ITS FALSE NEIGHBOUR: 'it returns false'. Refute it at one input. -/
def confReturnsWrong : ChangeSpec := { name := "confReturns", fn := fun _ => fun
  | [d1, d2, d3] => { results := [.lit (.bool false)], args := [d1, d2, d3] }
  | _ => none }
def ConfReturnsWrongFalsely : Prop := confReturnsRow.holds Tryd.pinned (OpenSpec.ofChange confReturnsWrong)

/- THE SECOND FORM. 'bulk': how many values and letters a reading holds, each counted each time it is reached (what is shared counts as often as it is met; a slice's spare places count too). A statement '..UptoSaid' is the law's where the arguments, and the package variables that the reading takes, are together of bulk at most 1048576: NARROWER than '..Said'. Prove '..Said' where nothing that the law and all that it calls make is longer than what came in: it says more and counts as full. Else prove '..UptoSaid'. A law counts once. -/
mutual
def uptoBulk {H : Type} : DataW H → Nat
  | .lit (.string bytes) => bytes.length + 1
  | .lit _ => 1
  | .nil => 1
  | .ptr d => uptoBulk d + 1
  | .slice elems spare => uptoBulkAll elems + uptoBulkAll spare + 1
  | .agg parts => uptoBulkAll parts + 1
  | .iface _ d => uptoBulk d + 1
  | .map entries => uptoBulkEntries entries + 1
  | .held _ => 1
def uptoBulkAll {H : Type} : List (DataW H) → Nat
  | [] => 0
  | d :: r => uptoBulk d + uptoBulkAll r
def uptoBulkEntries {H : Type} : List (Lit × DataW H) → Nat
  | [] => 0
  | x :: r => uptoBulkEntry x + uptoBulkEntries r
def uptoBulkEntry {H : Type} : Lit × DataW H → Nat
  | (.string bytes, d) => bytes.length + uptoBulk d + 1
  | (_, d) => uptoBulk d + 1
 end
def uptoSmall : (H : Type) → List (DataW H) → Bool := fun _ ds => decide (uptoBulkAll ds ≤ 1048576)
def OpenSpec.upto (s : _root_.Go.ChangeSpec) : _root_.Go.OpenSpec := { _root_.Go.OpenSpec.ofChange s with cond := some uptoSmall }

/-- 'tallyhouselaw08.ConfMay', WHERE WHAT IT READS IS OF BULK AT MOST 1048576: true; the input reads as it did. -/
def confMayUptoRow : OpenClaim := { program := "ytfclppopelmdgaadoor", sum := "dac4b7459503490299df4a731e55c760845d263176e11f391da63301638ee6c6", func := "tallyhouse/tallyhouselaw08.ConfMay", spec := "confMay", unfollowed := true, recurses := true, named := ["tallyhouse/conf.rows"], apart := false, laid := [("tallyhouse/conf.rows", laid_tallyhouse_conf_rows)], narrowed := true }
def ConfMayUptoSaid : Prop := confMayUptoRow.holds Tryd.pinned (OpenSpec.upto confMaySpec)

/-- 'tallyhouselaw08.ConfReach', WHERE WHAT IT READS IS OF BULK AT MOST 1048576: true; the input reads as it did. -/
def confReachUptoRow : OpenClaim := { program := "ytfclppopelmdgaadoor", sum := "dac4b7459503490299df4a731e55c760845d263176e11f391da63301638ee6c6", func := "tallyhouse/tallyhouselaw08.ConfReach", spec := "confReach", unfollowed := true, recurses := true, named := ["tallyhouse/conf.rows"], apart := false, laid := [("tallyhouse/conf.rows", laid_tallyhouse_conf_rows)], narrowed := true }
def ConfReachUptoSaid : Prop := confReachUptoRow.holds Tryd.pinned (OpenSpec.upto confReachSpec)

/-- 'tallyhouselaw08.ConfMoves', WHERE WHAT IT READS IS OF BULK AT MOST 1048576: true; the input reads as it did. -/
def confMovesUptoRow : OpenClaim := { program := "ytfclppopelmdgaadoor", sum := "dac4b7459503490299df4a731e55c760845d263176e11f391da63301638ee6c6", func := "tallyhouse/tallyhouselaw08.ConfMoves", spec := "confMoves", unfollowed := true, recurses := true, named := ["tallyhouse/conf.rows"], apart := false, laid := [("tallyhouse/conf.rows", laid_tallyhouse_conf_rows)], narrowed := true }
def ConfMovesUptoSaid : Prop := confMovesUptoRow.holds Tryd.pinned (OpenSpec.upto confMovesSpec)

/-- 'tallyhouselaw08.ConfCodes', WHERE WHAT IT READS IS OF BULK AT MOST 1048576: true; the input reads as it did. -/
def confCodesUptoRow : OpenClaim := { program := "ytfclppopelmdgaadoor", sum := "dac4b7459503490299df4a731e55c760845d263176e11f391da63301638ee6c6", func := "tallyhouse/tallyhouselaw08.ConfCodes", spec := "confCodes", unfollowed := true, recurses := true, named := ["tallyhouse/conf.rows"], apart := false, laid := [("tallyhouse/conf.rows", laid_tallyhouse_conf_rows)], narrowed := true }
def ConfCodesUptoSaid : Prop := confCodesUptoRow.holds Tryd.pinned (OpenSpec.upto confCodesSpec)

/-- 'tallyhouselaw08.ConfShare', WHERE WHAT IT READS IS OF BULK AT MOST 1048576: true; the input reads as it did. -/
def confShareUptoRow : OpenClaim := { program := "ytfclppopelmdgaadoor", sum := "dac4b7459503490299df4a731e55c760845d263176e11f391da63301638ee6c6", func := "tallyhouse/tallyhouselaw08.ConfShare", spec := "confShare", unfollowed := true, recurses := true, named := ["tallyhouse/conf.rows"], apart := false, laid := [("tallyhouse/conf.rows", laid_tallyhouse_conf_rows)], narrowed := true }
def ConfShareUptoSaid : Prop := confShareUptoRow.holds Tryd.pinned (OpenSpec.upto confShareSpec)

/-- 'tallyhouselaw08.ConfGrows', WHERE WHAT IT READS IS OF BULK AT MOST 1048576: true; the input reads as it did. -/
def confGrowsUptoRow : OpenClaim := { program := "ytfclppopelmdgaadoor", sum := "dac4b7459503490299df4a731e55c760845d263176e11f391da63301638ee6c6", func := "tallyhouse/tallyhouselaw08.ConfGrows", spec := "confGrows", unfollowed := true, recurses := true, named := ["tallyhouse/conf.rows"], apart := false, laid := [("tallyhouse/conf.rows", laid_tallyhouse_conf_rows)], narrowed := true }
def ConfGrowsUptoSaid : Prop := confGrowsUptoRow.holds Tryd.pinned (OpenSpec.upto confGrowsSpec)

/-- 'tallyhouselaw08.ConfReturns', WHERE WHAT IT READS IS OF BULK AT MOST 1048576: true; the input reads as it did. -/
def confReturnsUptoRow : OpenClaim := { program := "ytfclppopelmdgaadoor", sum := "dac4b7459503490299df4a731e55c760845d263176e11f391da63301638ee6c6", func := "tallyhouse/tallyhouselaw08.ConfReturns", spec := "confReturns", unfollowed := true, recurses := true, named := ["tallyhouse/conf.rows"], apart := false, laid := [("tallyhouse/conf.rows", laid_tallyhouse_conf_rows)], narrowed := true }
def ConfReturnsUptoSaid : Prop := confReturnsUptoRow.holds Tryd.pinned (OpenSpec.upto confReturnsSpec)

end Rows
end Go.Proofs.YtfclppopelmdgaaDoor
