/-
  DERIVED. GIVEN WITH THE SEED: THE CARDS: each row of YtfclppopelmdgaaDoorRows.lean that lists a variable, with what it lists TIED to the program's text (the seventh form; the later family's looks); each row that meets fmt, with fmt's text TOLD by the authors' own Lean function (tested against real Go, not proved from fmt's source: count such statements apart). THE CARD IS WHAT COUNTS. Prove the row's statement (the work); the ties are given (YtfclppopelmdgaaDoorTie.lean); close each card by the builder's one call (the guide's Derived/Test/ToyasCard.lean, 'card_holds'). Laid BY PROGRAM, IN A SANDBOX (cutbox-door.mjs). By AI agents, Wed Nov 11 2026. No macro, syntax, notation, axiom, sorry.
-/
import Derived.Test.YtfclppopelmdgaaDoorRows
import GoSem.ClaimSeven
namespace Go.Proofs.YtfclppopelmdgaaDoor
namespace Rows

/-- THE TIED CARD OF 'tallyhouselaw08.ConfMay'. -/
def confMayCard : Claim7 := { stood := { row := confMayRow, standIns := [], harness := (true, "4ccd4ec3307bf5bd1d0a182eb1d12801da8b016c9306cc5c98f5322bec19070c"), looks := false }, kinds := [], alts := [], laidByText := true, laidKinds := [.data], laidTests := true, laidLooks := .later }
def ConfMayCardSaid : Prop := Claim7.holds Tryd.pinned (.plain (OpenSpec.ofChange confMaySpec)) confMayCard

/-- THE TIED CARD OF 'tallyhouselaw08.ConfReach'. -/
def confReachCard : Claim7 := { stood := { row := confReachRow, standIns := [], harness := (true, "4ccd4ec3307bf5bd1d0a182eb1d12801da8b016c9306cc5c98f5322bec19070c"), looks := false }, kinds := [], alts := [], laidByText := true, laidKinds := [.data], laidTests := true, laidLooks := .later }
def ConfReachCardSaid : Prop := Claim7.holds Tryd.pinned (.plain (OpenSpec.ofChange confReachSpec)) confReachCard

/-- THE TIED CARD OF 'tallyhouselaw08.ConfMoves'. -/
def confMovesCard : Claim7 := { stood := { row := confMovesRow, standIns := [], harness := (true, "4ccd4ec3307bf5bd1d0a182eb1d12801da8b016c9306cc5c98f5322bec19070c"), looks := false }, kinds := [], alts := [], laidByText := true, laidKinds := [.data], laidTests := true, laidLooks := .later }
def ConfMovesCardSaid : Prop := Claim7.holds Tryd.pinned (.plain (OpenSpec.ofChange confMovesSpec)) confMovesCard

/-- THE TIED CARD OF 'tallyhouselaw08.ConfCodes'. -/
def confCodesCard : Claim7 := { stood := { row := confCodesRow, standIns := [], harness := (true, "4ccd4ec3307bf5bd1d0a182eb1d12801da8b016c9306cc5c98f5322bec19070c"), looks := false }, kinds := [], alts := [], laidByText := true, laidKinds := [.data], laidTests := true, laidLooks := .later }
def ConfCodesCardSaid : Prop := Claim7.holds Tryd.pinned (.plain (OpenSpec.ofChange confCodesSpec)) confCodesCard

/-- THE TIED CARD OF 'tallyhouselaw08.ConfShare'. -/
def confShareCard : Claim7 := { stood := { row := confShareRow, standIns := [], harness := (true, "4ccd4ec3307bf5bd1d0a182eb1d12801da8b016c9306cc5c98f5322bec19070c"), looks := false }, kinds := [], alts := [], laidByText := true, laidKinds := [.data], laidTests := true, laidLooks := .later }
def ConfShareCardSaid : Prop := Claim7.holds Tryd.pinned (.plain (OpenSpec.ofChange confShareSpec)) confShareCard

/-- THE TIED CARD OF 'tallyhouselaw08.ConfGrows'. -/
def confGrowsCard : Claim7 := { stood := { row := confGrowsRow, standIns := [], harness := (true, "4ccd4ec3307bf5bd1d0a182eb1d12801da8b016c9306cc5c98f5322bec19070c"), looks := false }, kinds := [], alts := [], laidByText := true, laidKinds := [.data], laidTests := true, laidLooks := .later }
def ConfGrowsCardSaid : Prop := Claim7.holds Tryd.pinned (.plain (OpenSpec.ofChange confGrowsSpec)) confGrowsCard

/-- THE TIED CARD OF 'tallyhouselaw08.ConfReturns'. -/
def confReturnsCard : Claim7 := { stood := { row := confReturnsRow, standIns := [], harness := (true, "4ccd4ec3307bf5bd1d0a182eb1d12801da8b016c9306cc5c98f5322bec19070c"), looks := false }, kinds := [], alts := [], laidByText := true, laidKinds := [.data], laidTests := true, laidLooks := .later }
def ConfReturnsCardSaid : Prop := Claim7.holds Tryd.pinned (.plain (OpenSpec.ofChange confReturnsSpec)) confReturnsCard

/-- THE SECOND FORM's CARD OF 'tallyhouselaw08.ConfMay'. -/
def confMayUptoCard : Claim7 := { stood := { row := confMayUptoRow, standIns := [], harness := (true, "4ccd4ec3307bf5bd1d0a182eb1d12801da8b016c9306cc5c98f5322bec19070c"), looks := false }, kinds := [], alts := [], laidByText := true, laidKinds := [.data], laidTests := true, laidLooks := .later }
def ConfMayUptoCardSaid : Prop := Claim7.holds Tryd.pinned (.plain (OpenSpec.upto confMaySpec)) confMayUptoCard

/-- THE SECOND FORM's CARD OF 'tallyhouselaw08.ConfReach'. -/
def confReachUptoCard : Claim7 := { stood := { row := confReachUptoRow, standIns := [], harness := (true, "4ccd4ec3307bf5bd1d0a182eb1d12801da8b016c9306cc5c98f5322bec19070c"), looks := false }, kinds := [], alts := [], laidByText := true, laidKinds := [.data], laidTests := true, laidLooks := .later }
def ConfReachUptoCardSaid : Prop := Claim7.holds Tryd.pinned (.plain (OpenSpec.upto confReachSpec)) confReachUptoCard

/-- THE SECOND FORM's CARD OF 'tallyhouselaw08.ConfMoves'. -/
def confMovesUptoCard : Claim7 := { stood := { row := confMovesUptoRow, standIns := [], harness := (true, "4ccd4ec3307bf5bd1d0a182eb1d12801da8b016c9306cc5c98f5322bec19070c"), looks := false }, kinds := [], alts := [], laidByText := true, laidKinds := [.data], laidTests := true, laidLooks := .later }
def ConfMovesUptoCardSaid : Prop := Claim7.holds Tryd.pinned (.plain (OpenSpec.upto confMovesSpec)) confMovesUptoCard

/-- THE SECOND FORM's CARD OF 'tallyhouselaw08.ConfCodes'. -/
def confCodesUptoCard : Claim7 := { stood := { row := confCodesUptoRow, standIns := [], harness := (true, "4ccd4ec3307bf5bd1d0a182eb1d12801da8b016c9306cc5c98f5322bec19070c"), looks := false }, kinds := [], alts := [], laidByText := true, laidKinds := [.data], laidTests := true, laidLooks := .later }
def ConfCodesUptoCardSaid : Prop := Claim7.holds Tryd.pinned (.plain (OpenSpec.upto confCodesSpec)) confCodesUptoCard

/-- THE SECOND FORM's CARD OF 'tallyhouselaw08.ConfShare'. -/
def confShareUptoCard : Claim7 := { stood := { row := confShareUptoRow, standIns := [], harness := (true, "4ccd4ec3307bf5bd1d0a182eb1d12801da8b016c9306cc5c98f5322bec19070c"), looks := false }, kinds := [], alts := [], laidByText := true, laidKinds := [.data], laidTests := true, laidLooks := .later }
def ConfShareUptoCardSaid : Prop := Claim7.holds Tryd.pinned (.plain (OpenSpec.upto confShareSpec)) confShareUptoCard

/-- THE SECOND FORM's CARD OF 'tallyhouselaw08.ConfGrows'. -/
def confGrowsUptoCard : Claim7 := { stood := { row := confGrowsUptoRow, standIns := [], harness := (true, "4ccd4ec3307bf5bd1d0a182eb1d12801da8b016c9306cc5c98f5322bec19070c"), looks := false }, kinds := [], alts := [], laidByText := true, laidKinds := [.data], laidTests := true, laidLooks := .later }
def ConfGrowsUptoCardSaid : Prop := Claim7.holds Tryd.pinned (.plain (OpenSpec.upto confGrowsSpec)) confGrowsUptoCard

/-- THE SECOND FORM's CARD OF 'tallyhouselaw08.ConfReturns'. -/
def confReturnsUptoCard : Claim7 := { stood := { row := confReturnsUptoRow, standIns := [], harness := (true, "4ccd4ec3307bf5bd1d0a182eb1d12801da8b016c9306cc5c98f5322bec19070c"), looks := false }, kinds := [], alts := [], laidByText := true, laidKinds := [.data], laidTests := true, laidLooks := .later }
def ConfReturnsUptoCardSaid : Prop := Claim7.holds Tryd.pinned (.plain (OpenSpec.upto confReturnsSpec)) confReturnsUptoCard
end Rows
end Go.Proofs.YtfclppopelmdgaaDoor
