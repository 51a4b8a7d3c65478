/-
  DERIVED. GIVEN WITH THE SEED: THE CARDS: each row of YtbemnolgolecaaaDoorRows.lean that lists a variable, with what it lists TIED to the program's text (the seventh form; the later family's looks); each row that meets fmt, with fmt's text TOLD by the authors' own Lean function (tested against real Go, not proved from fmt's source: count such statements apart). THE CARD IS WHAT COUNTS. Prove the row's statement (the work); the ties are given (YtbemnolgolecaaaDoorTie.lean); close each card by the builder's one call (the guide's Derived/Test/ToyasCard.lean, 'card_holds'). Laid BY PROGRAM, IN A SANDBOX (cutbox-door.mjs). By AI agents, Wed Nov 11 2026. No macro, syntax, notation, axiom, sorry.
-/
import Derived.Test.YtbemnolgolecaaaDoorRows
import GoSem.ClaimSeven
namespace Go.Proofs.YtbemnolgolecaaaDoor
namespace Rows

/-- THE TIED CARD OF 'tallyhouselaw03.BlakeSums'. -/
def blakeSumsCard : Claim7 := { stood := { row := blakeSumsRow, standIns := [], harness := (true, "b65880f547adac844723cde80791615bf2d95809e6eddd50068327fdb4c9ed81"), looks := false }, kinds := [], alts := [], laidByText := true, laidKinds := [.data, .data, .data], laidTests := true, laidLooks := .later }
def BlakeSumsCardSaid : Prop := Claim7.holds Tryd.pinned (.plain (OpenSpec.ofChange blakeSumsSpec)) blakeSumsCard

/-- THE TIED CARD OF 'tallyhouselaw03.BlakeMixes'. -/
def blakeMixesCard : Claim7 := { stood := { row := blakeMixesRow, standIns := [], harness := (true, "b65880f547adac844723cde80791615bf2d95809e6eddd50068327fdb4c9ed81"), looks := false }, kinds := [], alts := [], laidByText := true, laidKinds := [.data, .data, .data], laidTests := true, laidLooks := .later }
def BlakeMixesCardSaid : Prop := Claim7.holds Tryd.pinned (.plain (OpenSpec.ofChange blakeMixesSpec)) blakeMixesCard

/-- THE TIED CARD OF 'tallyhouselaw03.BlakeBlocks'. -/
def blakeBlocksCard : Claim7 := { stood := { row := blakeBlocksRow, standIns := [], harness := (true, "b65880f547adac844723cde80791615bf2d95809e6eddd50068327fdb4c9ed81"), looks := false }, kinds := [], alts := [], laidByText := true, laidKinds := [.data, .data, .data], laidTests := true, laidLooks := .later }
def BlakeBlocksCardSaid : Prop := Claim7.holds Tryd.pinned (.plain (OpenSpec.ofChange blakeBlocksSpec)) blakeBlocksCard

/-- THE TIED CARD OF 'tallyhouselaw03.BlakeTexts'. -/
def blakeTextsCard : Claim7 := { stood := { row := blakeTextsRow, standIns := [], harness := (true, "b65880f547adac844723cde80791615bf2d95809e6eddd50068327fdb4c9ed81"), looks := false }, kinds := [], alts := [], laidByText := true, laidKinds := [.data, .data, .data], laidTests := true, laidLooks := .later }
def BlakeTextsCardSaid : Prop := Claim7.holds Tryd.pinned (.plain (OpenSpec.ofChange blakeTextsSpec)) blakeTextsCard

/-- THE TIED CARD OF 'tallyhouselaw03.BlakeSteps'. -/
def blakeStepsCard : Claim7 := { stood := { row := blakeStepsRow, standIns := [], harness := (true, "b65880f547adac844723cde80791615bf2d95809e6eddd50068327fdb4c9ed81"), looks := false }, kinds := [], alts := [], laidByText := true, laidKinds := [.data, .data, .data], laidTests := true, laidLooks := .later }
def BlakeStepsCardSaid : Prop := Claim7.holds Tryd.pinned (.plain (OpenSpec.ofChange blakeStepsSpec)) blakeStepsCard

/-- THE TIED CARD OF 'tallyhouselaw03.BlakeBack'. -/
def blakeBackCard : Claim7 := { stood := { row := blakeBackRow, standIns := [], harness := (true, "b65880f547adac844723cde80791615bf2d95809e6eddd50068327fdb4c9ed81"), looks := false }, kinds := [], alts := [], laidByText := true, laidKinds := [.data, .data, .data], laidTests := true, laidLooks := .later }
def BlakeBackCardSaid : Prop := Claim7.holds Tryd.pinned (.plain (OpenSpec.ofChange blakeBackSpec)) blakeBackCard

/-- THE TIED CARD OF 'tallyhouselaw03.BlakeDigits'. -/
def blakeDigitsCard : Claim7 := { stood := { row := blakeDigitsRow, standIns := [], harness := (true, "b65880f547adac844723cde80791615bf2d95809e6eddd50068327fdb4c9ed81"), looks := false }, kinds := [], alts := [], laidByText := true, laidKinds := [.data, .data, .data], laidTests := true, laidLooks := .later }
def BlakeDigitsCardSaid : Prop := Claim7.holds Tryd.pinned (.plain (OpenSpec.ofChange blakeDigitsSpec)) blakeDigitsCard

/-- THE SECOND FORM's CARD OF 'tallyhouselaw03.BlakeSums'. -/
def blakeSumsUptoCard : Claim7 := { stood := { row := blakeSumsUptoRow, standIns := [], harness := (true, "b65880f547adac844723cde80791615bf2d95809e6eddd50068327fdb4c9ed81"), looks := false }, kinds := [], alts := [], laidByText := true, laidKinds := [.data, .data, .data], laidTests := true, laidLooks := .later }
def BlakeSumsUptoCardSaid : Prop := Claim7.holds Tryd.pinned (.plain (OpenSpec.upto blakeSumsSpec)) blakeSumsUptoCard

/-- THE SECOND FORM's CARD OF 'tallyhouselaw03.BlakeMixes'. -/
def blakeMixesUptoCard : Claim7 := { stood := { row := blakeMixesUptoRow, standIns := [], harness := (true, "b65880f547adac844723cde80791615bf2d95809e6eddd50068327fdb4c9ed81"), looks := false }, kinds := [], alts := [], laidByText := true, laidKinds := [.data, .data, .data], laidTests := true, laidLooks := .later }
def BlakeMixesUptoCardSaid : Prop := Claim7.holds Tryd.pinned (.plain (OpenSpec.upto blakeMixesSpec)) blakeMixesUptoCard

/-- THE SECOND FORM's CARD OF 'tallyhouselaw03.BlakeBlocks'. -/
def blakeBlocksUptoCard : Claim7 := { stood := { row := blakeBlocksUptoRow, standIns := [], harness := (true, "b65880f547adac844723cde80791615bf2d95809e6eddd50068327fdb4c9ed81"), looks := false }, kinds := [], alts := [], laidByText := true, laidKinds := [.data, .data, .data], laidTests := true, laidLooks := .later }
def BlakeBlocksUptoCardSaid : Prop := Claim7.holds Tryd.pinned (.plain (OpenSpec.upto blakeBlocksSpec)) blakeBlocksUptoCard

/-- THE SECOND FORM's CARD OF 'tallyhouselaw03.BlakeTexts'. -/
def blakeTextsUptoCard : Claim7 := { stood := { row := blakeTextsUptoRow, standIns := [], harness := (true, "b65880f547adac844723cde80791615bf2d95809e6eddd50068327fdb4c9ed81"), looks := false }, kinds := [], alts := [], laidByText := true, laidKinds := [.data, .data, .data], laidTests := true, laidLooks := .later }
def BlakeTextsUptoCardSaid : Prop := Claim7.holds Tryd.pinned (.plain (OpenSpec.upto blakeTextsSpec)) blakeTextsUptoCard

/-- THE SECOND FORM's CARD OF 'tallyhouselaw03.BlakeSteps'. -/
def blakeStepsUptoCard : Claim7 := { stood := { row := blakeStepsUptoRow, standIns := [], harness := (true, "b65880f547adac844723cde80791615bf2d95809e6eddd50068327fdb4c9ed81"), looks := false }, kinds := [], alts := [], laidByText := true, laidKinds := [.data, .data, .data], laidTests := true, laidLooks := .later }
def BlakeStepsUptoCardSaid : Prop := Claim7.holds Tryd.pinned (.plain (OpenSpec.upto blakeStepsSpec)) blakeStepsUptoCard

/-- THE SECOND FORM's CARD OF 'tallyhouselaw03.BlakeBack'. -/
def blakeBackUptoCard : Claim7 := { stood := { row := blakeBackUptoRow, standIns := [], harness := (true, "b65880f547adac844723cde80791615bf2d95809e6eddd50068327fdb4c9ed81"), looks := false }, kinds := [], alts := [], laidByText := true, laidKinds := [.data, .data, .data], laidTests := true, laidLooks := .later }
def BlakeBackUptoCardSaid : Prop := Claim7.holds Tryd.pinned (.plain (OpenSpec.upto blakeBackSpec)) blakeBackUptoCard

/-- THE SECOND FORM's CARD OF 'tallyhouselaw03.BlakeDigits'. -/
def blakeDigitsUptoCard : Claim7 := { stood := { row := blakeDigitsUptoRow, standIns := [], harness := (true, "b65880f547adac844723cde80791615bf2d95809e6eddd50068327fdb4c9ed81"), looks := false }, kinds := [], alts := [], laidByText := true, laidKinds := [.data, .data, .data], laidTests := true, laidLooks := .later }
def BlakeDigitsUptoCardSaid : Prop := Claim7.holds Tryd.pinned (.plain (OpenSpec.upto blakeDigitsSpec)) blakeDigitsUptoCard
end Rows
end Go.Proofs.YtbemnolgolecaaaDoor
