/-
  NARROWER THAN 'FOR EVERY INPUT', by the rows' own cells (each row's printed sentence says how): BlakeSums: laid · BlakeMixes: laid · BlakeBlocks: laid · BlakeTexts: laid · BlakeSteps: laid · BlakeBack: laid · BlakeDigits: laid.
  DERIVED. THE GIVEN ROWS OF THIS SEAT. 7 by the template 'for every input the law returns true; each argument reads behind the call as it read before'; 0 by the template 'total and deterministic' (their statements: YtbemnolgolecaaaDoorTotals.lean).
  GIVEN WITH THE SEED: the statements are not yours to turn. If you find one false, say at which input.
  Laid BY PROGRAM, IN A SANDBOX (cutbox-rows.mjs): the forced cells as the released guide's own fill.sh prints them over the translation 5849b1f7e79af70b… (all of the seat's roots in one cut). By AI agents, Wed Nov 11 2026. No macro, syntax, notation, axiom, sorry.
-/
import Derived.Test.YtbemnolgolecaaaDoorChecked
import GoSem.Claim
import GoSem.ClaimJoined
import GoSem.ClaimMapViews
import Derived.JoinedTies
import Derived.KernelRfl
namespace Go.Proofs.YtbemnolgolecaaaDoor
/- THE CELL 'sum', in the pinned program and in every row, IS THE sha256 OF THE DUMP (.gsa) THAT YtbemnolgolecaaaDoorProg.lean LOADS. Nothing in Lean hashes anything: it is a label: what it is worth is what the hold of that sum in a sandbox is worth. -/
noncomputable def Tryd.pinned : Pinned := { name := "ytbemnolgolecaaadoor", sum := "5849b1f7e79af70b34b1d9a6385663189ea56786ba8d578923053e6a3cf99407", checked := Tryd.checked }
namespace Rows
def none {H : Type} : Left H := { results := [], args := [] }

/- WHAT THE LISTED PACKAGE-LEVEL VARIABLES READ AS WHEN THE CALL BEGINS. Each datum BY PROGRAM (the guide's laid-datum.mjs) off the statement by which the dump's own 'gosem.cut.vars' lays the variable. In a bare row this is a premise. The card (YtbemnolgolecaaaDoorCards.lean) ties it to the program's text. -/
def laid_tallyhouse_blake_start {H : Type} : DataW H := .agg [.lit (.int .u32 1779033703), .lit (.int .u32 3144134277), .lit (.int .u32 1013904242), .lit (.int .u32 2773480762), .lit (.int .u32 1359893119), .lit (.int .u32 2600822924), .lit (.int .u32 528734635), .lit (.int .u32 1541459225)]
def laid_tallyhouse_blake_orders {H : Type} : DataW H := .agg [.agg [.lit (.int .i64 0), .lit (.int .i64 1), .lit (.int .i64 2), .lit (.int .i64 3), .lit (.int .i64 4), .lit (.int .i64 5), .lit (.int .i64 6), .lit (.int .i64 7), .lit (.int .i64 8), .lit (.int .i64 9), .lit (.int .i64 10), .lit (.int .i64 11), .lit (.int .i64 12), .lit (.int .i64 13), .lit (.int .i64 14), .lit (.int .i64 15)], .agg [.lit (.int .i64 14), .lit (.int .i64 10), .lit (.int .i64 4), .lit (.int .i64 8), .lit (.int .i64 9), .lit (.int .i64 15), .lit (.int .i64 13), .lit (.int .i64 6), .lit (.int .i64 1), .lit (.int .i64 12), .lit (.int .i64 0), .lit (.int .i64 2), .lit (.int .i64 11), .lit (.int .i64 7), .lit (.int .i64 5), .lit (.int .i64 3)], .agg [.lit (.int .i64 11), .lit (.int .i64 8), .lit (.int .i64 12), .lit (.int .i64 0), .lit (.int .i64 5), .lit (.int .i64 2), .lit (.int .i64 15), .lit (.int .i64 13), .lit (.int .i64 10), .lit (.int .i64 14), .lit (.int .i64 3), .lit (.int .i64 6), .lit (.int .i64 7), .lit (.int .i64 1), .lit (.int .i64 9), .lit (.int .i64 4)], .agg [.lit (.int .i64 7), .lit (.int .i64 9), .lit (.int .i64 3), .lit (.int .i64 1), .lit (.int .i64 13), .lit (.int .i64 12), .lit (.int .i64 11), .lit (.int .i64 14), .lit (.int .i64 2), .lit (.int .i64 6), .lit (.int .i64 5), .lit (.int .i64 10), .lit (.int .i64 4), .lit (.int .i64 0), .lit (.int .i64 15), .lit (.int .i64 8)], .agg [.lit (.int .i64 9), .lit (.int .i64 0), .lit (.int .i64 5), .lit (.int .i64 7), .lit (.int .i64 2), .lit (.int .i64 4), .lit (.int .i64 10), .lit (.int .i64 15), .lit (.int .i64 14), .lit (.int .i64 1), .lit (.int .i64 11), .lit (.int .i64 12), .lit (.int .i64 6), .lit (.int .i64 8), .lit (.int .i64 3), .lit (.int .i64 13)], .agg [.lit (.int .i64 2), .lit (.int .i64 12), .lit (.int .i64 6), .lit (.int .i64 10), .lit (.int .i64 0), .lit (.int .i64 11), .lit (.int .i64 8), .lit (.int .i64 3), .lit (.int .i64 4), .lit (.int .i64 13), .lit (.int .i64 7), .lit (.int .i64 5), .lit (.int .i64 15), .lit (.int .i64 14), .lit (.int .i64 1), .lit (.int .i64 9)], .agg [.lit (.int .i64 12), .lit (.int .i64 5), .lit (.int .i64 1), .lit (.int .i64 15), .lit (.int .i64 14), .lit (.int .i64 13), .lit (.int .i64 4), .lit (.int .i64 10), .lit (.int .i64 0), .lit (.int .i64 7), .lit (.int .i64 6), .lit (.int .i64 3), .lit (.int .i64 9), .lit (.int .i64 2), .lit (.int .i64 8), .lit (.int .i64 11)], .agg [.lit (.int .i64 13), .lit (.int .i64 11), .lit (.int .i64 7), .lit (.int .i64 14), .lit (.int .i64 12), .lit (.int .i64 1), .lit (.int .i64 3), .lit (.int .i64 9), .lit (.int .i64 5), .lit (.int .i64 0), .lit (.int .i64 15), .lit (.int .i64 4), .lit (.int .i64 8), .lit (.int .i64 6), .lit (.int .i64 2), .lit (.int .i64 10)], .agg [.lit (.int .i64 6), .lit (.int .i64 15), .lit (.int .i64 14), .lit (.int .i64 9), .lit (.int .i64 11), .lit (.int .i64 3), .lit (.int .i64 0), .lit (.int .i64 8), .lit (.int .i64 12), .lit (.int .i64 2), .lit (.int .i64 13), .lit (.int .i64 7), .lit (.int .i64 1), .lit (.int .i64 4), .lit (.int .i64 10), .lit (.int .i64 5)], .agg [.lit (.int .i64 10), .lit (.int .i64 2), .lit (.int .i64 8), .lit (.int .i64 4), .lit (.int .i64 7), .lit (.int .i64 6), .lit (.int .i64 1), .lit (.int .i64 5), .lit (.int .i64 15), .lit (.int .i64 11), .lit (.int .i64 9), .lit (.int .i64 14), .lit (.int .i64 3), .lit (.int .i64 12), .lit (.int .i64 13), .lit (.int .i64 0)]]
def laid_tallyhouse_blake_fours {H : Type} : DataW H := .agg [.agg [.lit (.int .i64 0), .lit (.int .i64 4), .lit (.int .i64 8), .lit (.int .i64 12)], .agg [.lit (.int .i64 1), .lit (.int .i64 5), .lit (.int .i64 9), .lit (.int .i64 13)], .agg [.lit (.int .i64 2), .lit (.int .i64 6), .lit (.int .i64 10), .lit (.int .i64 14)], .agg [.lit (.int .i64 3), .lit (.int .i64 7), .lit (.int .i64 11), .lit (.int .i64 15)], .agg [.lit (.int .i64 0), .lit (.int .i64 5), .lit (.int .i64 10), .lit (.int .i64 15)], .agg [.lit (.int .i64 1), .lit (.int .i64 6), .lit (.int .i64 11), .lit (.int .i64 12)], .agg [.lit (.int .i64 2), .lit (.int .i64 7), .lit (.int .i64 8), .lit (.int .i64 13)], .agg [.lit (.int .i64 3), .lit (.int .i64 4), .lit (.int .i64 9), .lit (.int .i64 14)]]

/-- 'tallyhouselaw03.BlakeSums': WHATEVER THE INPUT: true; the input reads as it did. -/
def blakeSumsSpec : ChangeSpec := { name := "blakeSums", fn := fun _ => fun
  | [d] => { results := [.lit (.bool true)], args := [d] }
  | _ => none }
def blakeSumsRow : OpenClaim := { program := "ytbemnolgolecaaadoor", sum := "5849b1f7e79af70b34b1d9a6385663189ea56786ba8d578923053e6a3cf99407", func := "tallyhouse/tallyhouselaw03.BlakeSums", spec := "blakeSums", inPlace := ["internal/bytealg.IndexByteString", "internal/bytealg.Compare"], unfollowed := true, recurses := true, named := ["tallyhouse/blake.start", "tallyhouse/blake.orders", "tallyhouse/blake.fours"], apart := false, laid := [("tallyhouse/blake.start", laid_tallyhouse_blake_start), ("tallyhouse/blake.orders", laid_tallyhouse_blake_orders), ("tallyhouse/blake.fours", laid_tallyhouse_blake_fours)] }
def BlakeSumsSaid : Prop := blakeSumsRow.holds Tryd.pinned (OpenSpec.ofChange blakeSumsSpec)

/-- ITS FALSE NEIGHBOUR: 'it returns false'. Refute it at one input. -/
def blakeSumsWrong : ChangeSpec := { name := "blakeSums", fn := fun _ => fun
  | [d] => { results := [.lit (.bool false)], args := [d] }
  | _ => none }
def BlakeSumsWrongFalsely : Prop := blakeSumsRow.holds Tryd.pinned (OpenSpec.ofChange blakeSumsWrong)

/-- 'tallyhouselaw03.BlakeMixes': WHATEVER THE INPUT: true; the input reads as it did. -/
def blakeMixesSpec : ChangeSpec := { name := "blakeMixes", fn := fun _ => fun
  | [d] => { results := [.lit (.bool true)], args := [d] }
  | _ => none }
def blakeMixesRow : OpenClaim := { program := "ytbemnolgolecaaadoor", sum := "5849b1f7e79af70b34b1d9a6385663189ea56786ba8d578923053e6a3cf99407", func := "tallyhouse/tallyhouselaw03.BlakeMixes", spec := "blakeMixes", inPlace := ["internal/bytealg.IndexByteString", "internal/bytealg.Compare"], unfollowed := true, recurses := true, named := ["tallyhouse/blake.start", "tallyhouse/blake.orders", "tallyhouse/blake.fours"], apart := false, laid := [("tallyhouse/blake.start", laid_tallyhouse_blake_start), ("tallyhouse/blake.orders", laid_tallyhouse_blake_orders), ("tallyhouse/blake.fours", laid_tallyhouse_blake_fours)] }
def BlakeMixesSaid : Prop := blakeMixesRow.holds Tryd.pinned (OpenSpec.ofChange blakeMixesSpec)

/-- ITS FALSE NEIGHBOUR: 'it returns false'. Refute it at one input. -/
def blakeMixesWrong : ChangeSpec := { name := "blakeMixes", fn := fun _ => fun
  | [d] => { results := [.lit (.bool false)], args := [d] }
  | _ => none }
def BlakeMixesWrongFalsely : Prop := blakeMixesRow.holds Tryd.pinned (OpenSpec.ofChange blakeMixesWrong)

/-- 'tallyhouselaw03.BlakeBlocks': WHATEVER THE INPUT: true; the input reads as it did. -/
def blakeBlocksSpec : ChangeSpec := { name := "blakeBlocks", fn := fun _ => fun
  | [d1, d2, d3] => { results := [.lit (.bool true)], args := [d1, d2, d3] }
  | _ => none }
def blakeBlocksRow : OpenClaim := { program := "ytbemnolgolecaaadoor", sum := "5849b1f7e79af70b34b1d9a6385663189ea56786ba8d578923053e6a3cf99407", func := "tallyhouse/tallyhouselaw03.BlakeBlocks", spec := "blakeBlocks", inPlace := ["internal/bytealg.IndexByteString", "internal/bytealg.Compare"], unfollowed := true, recurses := true, named := ["tallyhouse/blake.start", "tallyhouse/blake.orders", "tallyhouse/blake.fours"], apart := false, laid := [("tallyhouse/blake.start", laid_tallyhouse_blake_start), ("tallyhouse/blake.orders", laid_tallyhouse_blake_orders), ("tallyhouse/blake.fours", laid_tallyhouse_blake_fours)] }
def BlakeBlocksSaid : Prop := blakeBlocksRow.holds Tryd.pinned (OpenSpec.ofChange blakeBlocksSpec)

/-- ITS FALSE NEIGHBOUR: 'it returns false'. Refute it at one input. -/
def blakeBlocksWrong : ChangeSpec := { name := "blakeBlocks", fn := fun _ => fun
  | [d1, d2, d3] => { results := [.lit (.bool false)], args := [d1, d2, d3] }
  | _ => none }
def BlakeBlocksWrongFalsely : Prop := blakeBlocksRow.holds Tryd.pinned (OpenSpec.ofChange blakeBlocksWrong)

/-- 'tallyhouselaw03.BlakeTexts': WHATEVER THE INPUT: true; the input reads as it did. -/
def blakeTextsSpec : ChangeSpec := { name := "blakeTexts", fn := fun _ => fun
  | [d1, d2] => { results := [.lit (.bool true)], args := [d1, d2] }
  | _ => none }
def blakeTextsRow : OpenClaim := { program := "ytbemnolgolecaaadoor", sum := "5849b1f7e79af70b34b1d9a6385663189ea56786ba8d578923053e6a3cf99407", func := "tallyhouse/tallyhouselaw03.BlakeTexts", spec := "blakeTexts", inPlace := ["internal/bytealg.IndexByteString", "internal/bytealg.Compare"], unfollowed := true, recurses := true, named := ["tallyhouse/blake.start", "tallyhouse/blake.orders", "tallyhouse/blake.fours"], apart := false, laid := [("tallyhouse/blake.start", laid_tallyhouse_blake_start), ("tallyhouse/blake.orders", laid_tallyhouse_blake_orders), ("tallyhouse/blake.fours", laid_tallyhouse_blake_fours)] }
def BlakeTextsSaid : Prop := blakeTextsRow.holds Tryd.pinned (OpenSpec.ofChange blakeTextsSpec)

/-- ITS FALSE NEIGHBOUR: 'it returns false'. Refute it at one input. -/
def blakeTextsWrong : ChangeSpec := { name := "blakeTexts", fn := fun _ => fun
  | [d1, d2] => { results := [.lit (.bool false)], args := [d1, d2] }
  | _ => none }
def BlakeTextsWrongFalsely : Prop := blakeTextsRow.holds Tryd.pinned (OpenSpec.ofChange blakeTextsWrong)

/-- 'tallyhouselaw03.BlakeSteps': WHATEVER THE INPUT: true; the input reads as it did. -/
def blakeStepsSpec : ChangeSpec := { name := "blakeSteps", fn := fun _ => fun
  | [d] => { results := [.lit (.bool true)], args := [d] }
  | _ => none }
def blakeStepsRow : OpenClaim := { program := "ytbemnolgolecaaadoor", sum := "5849b1f7e79af70b34b1d9a6385663189ea56786ba8d578923053e6a3cf99407", func := "tallyhouse/tallyhouselaw03.BlakeSteps", spec := "blakeSteps", inPlace := ["internal/bytealg.IndexByteString", "internal/bytealg.Compare"], unfollowed := true, recurses := true, named := ["tallyhouse/blake.start", "tallyhouse/blake.orders", "tallyhouse/blake.fours"], apart := false, laid := [("tallyhouse/blake.start", laid_tallyhouse_blake_start), ("tallyhouse/blake.orders", laid_tallyhouse_blake_orders), ("tallyhouse/blake.fours", laid_tallyhouse_blake_fours)] }
def BlakeStepsSaid : Prop := blakeStepsRow.holds Tryd.pinned (OpenSpec.ofChange blakeStepsSpec)

/-- ITS FALSE NEIGHBOUR: 'it returns false'. Refute it at one input. -/
def blakeStepsWrong : ChangeSpec := { name := "blakeSteps", fn := fun _ => fun
  | [d] => { results := [.lit (.bool false)], args := [d] }
  | _ => none }
def BlakeStepsWrongFalsely : Prop := blakeStepsRow.holds Tryd.pinned (OpenSpec.ofChange blakeStepsWrong)

/-- 'tallyhouselaw03.BlakeBack': WHATEVER THE INPUT: true; the input reads as it did. -/
def blakeBackSpec : ChangeSpec := { name := "blakeBack", fn := fun _ => fun
  | [d1, d2, d3] => { results := [.lit (.bool true)], args := [d1, d2, d3] }
  | _ => none }
def blakeBackRow : OpenClaim := { program := "ytbemnolgolecaaadoor", sum := "5849b1f7e79af70b34b1d9a6385663189ea56786ba8d578923053e6a3cf99407", func := "tallyhouse/tallyhouselaw03.BlakeBack", spec := "blakeBack", inPlace := ["internal/bytealg.IndexByteString", "internal/bytealg.Compare"], unfollowed := true, recurses := true, named := ["tallyhouse/blake.start", "tallyhouse/blake.orders", "tallyhouse/blake.fours"], apart := false, laid := [("tallyhouse/blake.start", laid_tallyhouse_blake_start), ("tallyhouse/blake.orders", laid_tallyhouse_blake_orders), ("tallyhouse/blake.fours", laid_tallyhouse_blake_fours)] }
def BlakeBackSaid : Prop := blakeBackRow.holds Tryd.pinned (OpenSpec.ofChange blakeBackSpec)

/-- ITS FALSE NEIGHBOUR: 'it returns false'. Refute it at one input. -/
def blakeBackWrong : ChangeSpec := { name := "blakeBack", fn := fun _ => fun
  | [d1, d2, d3] => { results := [.lit (.bool false)], args := [d1, d2, d3] }
  | _ => none }
def BlakeBackWrongFalsely : Prop := blakeBackRow.holds Tryd.pinned (OpenSpec.ofChange blakeBackWrong)

/-- 'tallyhouselaw03.BlakeDigits': WHATEVER THE INPUT: true; the input reads as it did. -/
def blakeDigitsSpec : ChangeSpec := { name := "blakeDigits", fn := fun _ => fun
  | [d1, d2, d3] => { results := [.lit (.bool true)], args := [d1, d2, d3] }
  | _ => none }
def blakeDigitsRow : OpenClaim := { program := "ytbemnolgolecaaadoor", sum := "5849b1f7e79af70b34b1d9a6385663189ea56786ba8d578923053e6a3cf99407", func := "tallyhouse/tallyhouselaw03.BlakeDigits", spec := "blakeDigits", inPlace := ["internal/bytealg.IndexByteString", "internal/bytealg.Compare"], unfollowed := true, recurses := true, named := ["tallyhouse/blake.start", "tallyhouse/blake.orders", "tallyhouse/blake.fours"], apart := false, laid := [("tallyhouse/blake.start", laid_tallyhouse_blake_start), ("tallyhouse/blake.orders", laid_tallyhouse_blake_orders), ("tallyhouse/blake.fours", laid_tallyhouse_blake_fours)] }
def BlakeDigitsSaid : Prop := blakeDigitsRow.holds Tryd.pinned (OpenSpec.ofChange blakeDigitsSpec)

/-- ITS FALSE NEIGHBOUR: 'it returns false'. Refute it at one input. -/
def blakeDigitsWrong : ChangeSpec := { name := "blakeDigits", fn := fun _ => fun
  | [d1, d2, d3] => { results := [.lit (.bool false)], args := [d1, d2, d3] }
  | _ => none }
def BlakeDigitsWrongFalsely : Prop := blakeDigitsRow.holds Tryd.pinned (OpenSpec.ofChange blakeDigitsWrong)

/- THE SECOND FORM. 'bulk': how many values and letters a reading holds, each counted each time it is reached (what is shared counts as often as it is met; a slice's spare places count too). A statement '..UptoSaid' is the law's where the arguments, and the package variables that the reading takes, are together of bulk at most 1048576: NARROWER than '..Said'. Prove '..Said' where nothing that the law and all that it calls make is longer than what came in: it says more and counts as full. Else prove '..UptoSaid'. A law counts once. -/
mutual
def uptoBulk {H : Type} : DataW H → Nat
  | .lit (.string bytes) => bytes.length + 1
  | .lit _ => 1
  | .nil => 1
  | .ptr d => uptoBulk d + 1
  | .slice elems spare => uptoBulkAll elems + uptoBulkAll spare + 1
  | .agg parts => uptoBulkAll parts + 1
  | .iface _ d => uptoBulk d + 1
  | .map entries => uptoBulkEntries entries + 1
  | .held _ => 1
def uptoBulkAll {H : Type} : List (DataW H) → Nat
  | [] => 0
  | d :: r => uptoBulk d + uptoBulkAll r
def uptoBulkEntries {H : Type} : List (Lit × DataW H) → Nat
  | [] => 0
  | x :: r => uptoBulkEntry x + uptoBulkEntries r
def uptoBulkEntry {H : Type} : Lit × DataW H → Nat
  | (.string bytes, d) => bytes.length + uptoBulk d + 1
  | (_, d) => uptoBulk d + 1
 end
def uptoSmall : (H : Type) → List (DataW H) → Bool := fun _ ds => decide (uptoBulkAll ds ≤ 1048576)
def OpenSpec.upto (s : _root_.Go.ChangeSpec) : _root_.Go.OpenSpec := { _root_.Go.OpenSpec.ofChange s with cond := some uptoSmall }

/-- 'tallyhouselaw03.BlakeSums', WHERE WHAT IT READS IS OF BULK AT MOST 1048576: true; the input reads as it did. -/
def blakeSumsUptoRow : OpenClaim := { program := "ytbemnolgolecaaadoor", sum := "5849b1f7e79af70b34b1d9a6385663189ea56786ba8d578923053e6a3cf99407", func := "tallyhouse/tallyhouselaw03.BlakeSums", spec := "blakeSums", inPlace := ["internal/bytealg.IndexByteString", "internal/bytealg.Compare"], unfollowed := true, recurses := true, named := ["tallyhouse/blake.start", "tallyhouse/blake.orders", "tallyhouse/blake.fours"], apart := false, laid := [("tallyhouse/blake.start", laid_tallyhouse_blake_start), ("tallyhouse/blake.orders", laid_tallyhouse_blake_orders), ("tallyhouse/blake.fours", laid_tallyhouse_blake_fours)], narrowed := true }
def BlakeSumsUptoSaid : Prop := blakeSumsUptoRow.holds Tryd.pinned (OpenSpec.upto blakeSumsSpec)

/-- 'tallyhouselaw03.BlakeMixes', WHERE WHAT IT READS IS OF BULK AT MOST 1048576: true; the input reads as it did. -/
def blakeMixesUptoRow : OpenClaim := { program := "ytbemnolgolecaaadoor", sum := "5849b1f7e79af70b34b1d9a6385663189ea56786ba8d578923053e6a3cf99407", func := "tallyhouse/tallyhouselaw03.BlakeMixes", spec := "blakeMixes", inPlace := ["internal/bytealg.IndexByteString", "internal/bytealg.Compare"], unfollowed := true, recurses := true, named := ["tallyhouse/blake.start", "tallyhouse/blake.orders", "tallyhouse/blake.fours"], apart := false, laid := [("tallyhouse/blake.start", laid_tallyhouse_blake_start), ("tallyhouse/blake.orders", laid_tallyhouse_blake_orders), ("tallyhouse/blake.fours", laid_tallyhouse_blake_fours)], narrowed := true }
def BlakeMixesUptoSaid : Prop := blakeMixesUptoRow.holds Tryd.pinned (OpenSpec.upto blakeMixesSpec)

/-- 'tallyhouselaw03.BlakeBlocks', WHERE WHAT IT READS IS OF BULK AT MOST 1048576: true; the input reads as it did. -/
def blakeBlocksUptoRow : OpenClaim := { program := "ytbemnolgolecaaadoor", sum := "5849b1f7e79af70b34b1d9a6385663189ea56786ba8d578923053e6a3cf99407", func := "tallyhouse/tallyhouselaw03.BlakeBlocks", spec := "blakeBlocks", inPlace := ["internal/bytealg.IndexByteString", "internal/bytealg.Compare"], unfollowed := true, recurses := true, named := ["tallyhouse/blake.start", "tallyhouse/blake.orders", "tallyhouse/blake.fours"], apart := false, laid := [("tallyhouse/blake.start", laid_tallyhouse_blake_start), ("tallyhouse/blake.orders", laid_tallyhouse_blake_orders), ("tallyhouse/blake.fours", laid_tallyhouse_blake_fours)], narrowed := true }
def BlakeBlocksUptoSaid : Prop := blakeBlocksUptoRow.holds Tryd.pinned (OpenSpec.upto blakeBlocksSpec)

/-- 'tallyhouselaw03.BlakeTexts', WHERE WHAT IT READS IS OF BULK AT MOST 1048576: true; the input reads as it did. -/
def blakeTextsUptoRow : OpenClaim := { program := "ytbemnolgolecaaadoor", sum := "5849b1f7e79af70b34b1d9a6385663189ea56786ba8d578923053e6a3cf99407", func := "tallyhouse/tallyhouselaw03.BlakeTexts", spec := "blakeTexts", inPlace := ["internal/bytealg.IndexByteString", "internal/bytealg.Compare"], unfollowed := true, recurses := true, named := ["tallyhouse/blake.start", "tallyhouse/blake.orders", "tallyhouse/blake.fours"], apart := false, laid := [("tallyhouse/blake.start", laid_tallyhouse_blake_start), ("tallyhouse/blake.orders", laid_tallyhouse_blake_orders), ("tallyhouse/blake.fours", laid_tallyhouse_blake_fours)], narrowed := true }
def BlakeTextsUptoSaid : Prop := blakeTextsUptoRow.holds Tryd.pinned (OpenSpec.upto blakeTextsSpec)

/-- 'tallyhouselaw03.BlakeSteps', WHERE WHAT IT READS IS OF BULK AT MOST 1048576: true; the input reads as it did. -/
def blakeStepsUptoRow : OpenClaim := { program := "ytbemnolgolecaaadoor", sum := "5849b1f7e79af70b34b1d9a6385663189ea56786ba8d578923053e6a3cf99407", func := "tallyhouse/tallyhouselaw03.BlakeSteps", spec := "blakeSteps", inPlace := ["internal/bytealg.IndexByteString", "internal/bytealg.Compare"], unfollowed := true, recurses := true, named := ["tallyhouse/blake.start", "tallyhouse/blake.orders", "tallyhouse/blake.fours"], apart := false, laid := [("tallyhouse/blake.start", laid_tallyhouse_blake_start), ("tallyhouse/blake.orders", laid_tallyhouse_blake_orders), ("tallyhouse/blake.fours", laid_tallyhouse_blake_fours)], narrowed := true }
def BlakeStepsUptoSaid : Prop := blakeStepsUptoRow.holds Tryd.pinned (OpenSpec.upto blakeStepsSpec)

/-- 'tallyhouselaw03.BlakeBack', WHERE WHAT IT READS IS OF BULK AT MOST 1048576: true; the input reads as it did. -/
def blakeBackUptoRow : OpenClaim := { program := "ytbemnolgolecaaadoor", sum := "5849b1f7e79af70b34b1d9a6385663189ea56786ba8d578923053e6a3cf99407", func := "tallyhouse/tallyhouselaw03.BlakeBack", spec := "blakeBack", inPlace := ["internal/bytealg.IndexByteString", "internal/bytealg.Compare"], unfollowed := true, recurses := true, named := ["tallyhouse/blake.start", "tallyhouse/blake.orders", "tallyhouse/blake.fours"], apart := false, laid := [("tallyhouse/blake.start", laid_tallyhouse_blake_start), ("tallyhouse/blake.orders", laid_tallyhouse_blake_orders), ("tallyhouse/blake.fours", laid_tallyhouse_blake_fours)], narrowed := true }
def BlakeBackUptoSaid : Prop := blakeBackUptoRow.holds Tryd.pinned (OpenSpec.upto blakeBackSpec)

/-- 'tallyhouselaw03.BlakeDigits', WHERE WHAT IT READS IS OF BULK AT MOST 1048576: true; the input reads as it did. -/
def blakeDigitsUptoRow : OpenClaim := { program := "ytbemnolgolecaaadoor", sum := "5849b1f7e79af70b34b1d9a6385663189ea56786ba8d578923053e6a3cf99407", func := "tallyhouse/tallyhouselaw03.BlakeDigits", spec := "blakeDigits", inPlace := ["internal/bytealg.IndexByteString", "internal/bytealg.Compare"], unfollowed := true, recurses := true, named := ["tallyhouse/blake.start", "tallyhouse/blake.orders", "tallyhouse/blake.fours"], apart := false, laid := [("tallyhouse/blake.start", laid_tallyhouse_blake_start), ("tallyhouse/blake.orders", laid_tallyhouse_blake_orders), ("tallyhouse/blake.fours", laid_tallyhouse_blake_fours)], narrowed := true }
def BlakeDigitsUptoSaid : Prop := blakeDigitsUptoRow.holds Tryd.pinned (OpenSpec.upto blakeDigitsSpec)

end Rows
end Go.Proofs.YtbemnolgolecaaaDoor
