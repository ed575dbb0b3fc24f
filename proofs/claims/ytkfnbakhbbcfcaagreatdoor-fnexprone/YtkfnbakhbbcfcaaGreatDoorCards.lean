/-
  DERIVED. GIVEN WITH THE SEED: THE CARDS: each row of YtkfnbakhbbcfcaaGreatDoorRows.lean that lists a variable, with what it lists TIED to the program's text (the seventh form; the later family's looks); each row that meets fmt, with fmt's text TOLD by the authors' own Lean function (tested against real Go, not proved from fmt's source: count such statements apart). THE CARD IS WHAT COUNTS. Prove the row's statement (the work); the ties are given (YtkfnbakhbbcfcaaGreatDoorTie.lean); close each card by the builder's one call (the guide's Derived/Test/ToyasCard.lean, 'card_holds'). Laid BY PROGRAM, IN A SANDBOX (cutbox-door.mjs). By AI agents, Wed Nov 11 2026. No macro, syntax, notation, axiom, sorry.
-/
import Derived.Test.YtkfnbakhbbcfcaaGreatDoorRows
import GoSem.ClaimSeven
namespace Go.Proofs.YtkfnbakhbbcfcaaGreatDoor
namespace Rows

/-- THE TIED CARD OF 'laws.FnExpr'. -/
def fnExprCard : Claim7 := { stood := { row := fnExprRow, standIns := [], harness := (true, "b100ca90d1f770d3feff864589f401f81ff4099542d7525b6efa7d54ad5a3c93"), looks := true }, kinds := [], alts := [], laidByText := true, laidKinds := [.data, .data, .data, .sentinel, .sentinel], laidTests := true, laidLooks := .later }
def FnExprCardSaid : Prop := Claim7.holds Tryz.pinned (.plain (OpenSpec.ofChange fnExprSpec)) fnExprCard

/-- THE TIED CARD OF 'laws.FnExprSame'. -/
def fnExprSameCard : Claim7 := { stood := { row := fnExprSameRow, standIns := [], harness := (true, "b100ca90d1f770d3feff864589f401f81ff4099542d7525b6efa7d54ad5a3c93"), looks := true }, kinds := [], alts := [], laidByText := true, laidKinds := [.data, .data, .data, .sentinel, .sentinel], laidTests := true, laidLooks := .later }
def FnExprSameCardSaid : Prop := Claim7.holds Tryz.pinned (.plain (OpenSpec.ofChange fnExprSameSpec)) fnExprSameCard

/-- THE TIED CARD OF 'laws.FnExprLast'. -/
def fnExprLastCard : Claim7 := { stood := { row := fnExprLastRow, standIns := [], harness := (true, "b100ca90d1f770d3feff864589f401f81ff4099542d7525b6efa7d54ad5a3c93"), looks := true }, kinds := [], alts := [], laidByText := true, laidKinds := [.data, .data, .data, .sentinel, .sentinel], laidTests := true, laidLooks := .later }
def FnExprLastCardSaid : Prop := Claim7.holds Tryz.pinned (.plain (OpenSpec.ofChange fnExprLastSpec)) fnExprLastCard

/-- THE TIED CARD OF 'laws.FnExprPut'. -/
def fnExprPutCard : Claim7 := { stood := { row := fnExprPutRow, standIns := [], harness := (true, "b100ca90d1f770d3feff864589f401f81ff4099542d7525b6efa7d54ad5a3c93"), looks := true }, kinds := [], alts := [], laidByText := true, laidKinds := [.data, .data, .data, .sentinel, .sentinel], laidTests := true, laidLooks := .later }
def FnExprPutCardSaid : Prop := Claim7.holds Tryz.pinned (.plain (OpenSpec.ofChange fnExprPutSpec)) fnExprPutCard

/-- THE TIED CARD OF 'laws.FnExprOne'. -/
def fnExprOneCard : Claim7 := { stood := { row := fnExprOneRow, standIns := [], harness := (true, "b100ca90d1f770d3feff864589f401f81ff4099542d7525b6efa7d54ad5a3c93"), looks := true }, kinds := [], alts := [], laidByText := true, laidKinds := [.data, .data, .data, .sentinel, .sentinel], laidTests := true, laidLooks := .later }
def FnExprOneCardSaid : Prop := Claim7.holds Tryz.pinned (.plain (OpenSpec.ofChange fnExprOneSpec)) fnExprOneCard

/-- THE TIED CARD OF 'laws.FnExactExprRead'. -/
def fnExactExprReadCard : Claim7 := { stood := { row := fnExactExprReadRow, standIns := [], harness := (true, "b100ca90d1f770d3feff864589f401f81ff4099542d7525b6efa7d54ad5a3c93"), looks := true }, kinds := [], alts := [], laidByText := true, laidKinds := [.data, .data, .data, .sentinel, .sentinel], laidTests := true, laidLooks := .later }
def FnExactExprReadCardSaid : Prop := Claim7.holds Tryz.pinned (.plain (OpenSpec.ofChange fnExactExprReadSpec)) fnExactExprReadCard

/-- THE TIED CARD OF 'laws.FnExactStmtOk'. -/
def fnExactStmtOkCard : Claim7 := { stood := { row := fnExactStmtOkRow, standIns := [], harness := (true, "b100ca90d1f770d3feff864589f401f81ff4099542d7525b6efa7d54ad5a3c93"), looks := true }, kinds := [], alts := [], laidByText := true, laidKinds := [.data, .data, .data, .sentinel, .sentinel, .sentinel], laidTests := true, laidLooks := .later }
def FnExactStmtOkCardSaid : Prop := Claim7.holds Tryz.pinned (.plain (OpenSpec.ofChange fnExactStmtOkSpec)) fnExactStmtOkCard

/-- THE TIED CARD OF 'laws.FnExactStmtText'. -/
def fnExactStmtTextCard : Claim7 := { stood := { row := fnExactStmtTextRow, standIns := [], harness := (true, "b100ca90d1f770d3feff864589f401f81ff4099542d7525b6efa7d54ad5a3c93"), looks := true }, kinds := [], alts := [], laidByText := true, laidKinds := [.data, .data, .data, .sentinel, .sentinel, .sentinel], laidTests := true, laidLooks := .later }
def FnExactStmtTextCardSaid : Prop := Claim7.holds Tryz.pinned (.plain (OpenSpec.ofChange fnExactStmtTextSpec)) fnExactStmtTextCard

/-- THE TIED CARD OF 'laws.FnExactStmtRead'. -/
def fnExactStmtReadCard : Claim7 := { stood := { row := fnExactStmtReadRow, standIns := [], harness := (true, "b100ca90d1f770d3feff864589f401f81ff4099542d7525b6efa7d54ad5a3c93"), looks := true }, kinds := [], alts := [], laidByText := true, laidKinds := [.data, .data, .data, .sentinel, .sentinel, .sentinel], laidTests := true, laidLooks := .later }
def FnExactStmtReadCardSaid : Prop := Claim7.holds Tryz.pinned (.plain (OpenSpec.ofChange fnExactStmtReadSpec)) fnExactStmtReadCard

/-- THE TIED CARD OF 'laws.FnExactStmtNames'. -/
def fnExactStmtNamesCard : Claim7 := { stood := { row := fnExactStmtNamesRow, standIns := [], harness := (true, "b100ca90d1f770d3feff864589f401f81ff4099542d7525b6efa7d54ad5a3c93"), looks := true }, kinds := [], alts := [], laidByText := true, laidKinds := [.data, .data, .data, .sentinel, .sentinel, .sentinel], laidTests := true, laidLooks := .later }
def FnExactStmtNamesCardSaid : Prop := Claim7.holds Tryz.pinned (.plain (OpenSpec.ofChange fnExactStmtNamesSpec)) fnExactStmtNamesCard

/-- THE TIED CARD OF 'laws.FnStmt'. -/
def fnStmtCard : Claim7 := { stood := { row := fnStmtRow, standIns := [], harness := (true, "b100ca90d1f770d3feff864589f401f81ff4099542d7525b6efa7d54ad5a3c93"), looks := true }, kinds := [], alts := [], laidByText := true, laidKinds := [.data, .data, .data, .sentinel, .sentinel, .sentinel], laidTests := true, laidLooks := .later }
def FnStmtCardSaid : Prop := Claim7.holds Tryz.pinned (.plain (OpenSpec.ofChange fnStmtSpec)) fnStmtCard

/-- THE TIED CARD OF 'laws.FnStmtNames'. -/
def fnStmtNamesCard : Claim7 := { stood := { row := fnStmtNamesRow, standIns := [], harness := (true, "b100ca90d1f770d3feff864589f401f81ff4099542d7525b6efa7d54ad5a3c93"), looks := true }, kinds := [], alts := [], laidByText := true, laidKinds := [.data, .data, .data, .sentinel, .sentinel, .sentinel], laidTests := true, laidLooks := .later }
def FnStmtNamesCardSaid : Prop := Claim7.holds Tryz.pinned (.plain (OpenSpec.ofChange fnStmtNamesSpec)) fnStmtNamesCard

/-- THE TIED CARD OF 'laws.FnStmtBent'. -/
def fnStmtBentCard : Claim7 := { stood := { row := fnStmtBentRow, standIns := [], harness := (true, "b100ca90d1f770d3feff864589f401f81ff4099542d7525b6efa7d54ad5a3c93"), looks := true }, kinds := [], alts := [], laidByText := true, laidKinds := [.data, .data, .data, .sentinel, .sentinel, .sentinel], laidTests := true, laidLooks := .later }
def FnStmtBentCardSaid : Prop := Claim7.holds Tryz.pinned (.plain (OpenSpec.ofChange fnStmtBentSpec)) fnStmtBentCard

/-- THE TIED CARD OF 'laws.FnStmtWords'. -/
def fnStmtWordsCard : Claim7 := { stood := { row := fnStmtWordsRow, standIns := [], harness := (true, "b100ca90d1f770d3feff864589f401f81ff4099542d7525b6efa7d54ad5a3c93"), looks := true }, kinds := [], alts := [], laidByText := true, laidKinds := [.data, .data, .data, .sentinel, .sentinel, .sentinel], laidTests := true, laidLooks := .later }
def FnStmtWordsCardSaid : Prop := Claim7.holds Tryz.pinned (.plain (OpenSpec.ofChange fnStmtWordsSpec)) fnStmtWordsCard

/-- THE TIED CARD OF 'laws.FnStmtSame'. -/
def fnStmtSameCard : Claim7 := { stood := { row := fnStmtSameRow, standIns := [], harness := (true, "b100ca90d1f770d3feff864589f401f81ff4099542d7525b6efa7d54ad5a3c93"), looks := true }, kinds := [], alts := [], laidByText := true, laidKinds := [.data, .data, .data, .sentinel, .sentinel, .sentinel], laidTests := true, laidLooks := .later }
def FnStmtSameCardSaid : Prop := Claim7.holds Tryz.pinned (.plain (OpenSpec.ofChange fnStmtSameSpec)) fnStmtSameCard

/-- THE TIED CARD OF 'laws.FnStmtUses'. -/
def fnStmtUsesCard : Claim7 := { stood := { row := fnStmtUsesRow, standIns := [], harness := (true, "b100ca90d1f770d3feff864589f401f81ff4099542d7525b6efa7d54ad5a3c93"), looks := true }, kinds := [], alts := [], laidByText := true, laidKinds := [.data, .data, .data, .sentinel, .sentinel, .sentinel], laidTests := true, laidLooks := .later }
def FnStmtUsesCardSaid : Prop := Claim7.holds Tryz.pinned (.plain (OpenSpec.ofChange fnStmtUsesSpec)) fnStmtUsesCard

/-- THE SECOND FORM's CARD OF 'laws.FnExpr'. -/
def fnExprUptoCard : Claim7 := { stood := { row := fnExprUptoRow, standIns := [], harness := (true, "b100ca90d1f770d3feff864589f401f81ff4099542d7525b6efa7d54ad5a3c93"), looks := true }, kinds := [], alts := [], laidByText := true, laidKinds := [.data, .data, .data, .sentinel, .sentinel], laidTests := true, laidLooks := .later }
def FnExprUptoCardSaid : Prop := Claim7.holds Tryz.pinned (.plain (OpenSpec.upto fnExprSpec)) fnExprUptoCard

/-- THE SECOND FORM's CARD OF 'laws.FnExprSame'. -/
def fnExprSameUptoCard : Claim7 := { stood := { row := fnExprSameUptoRow, standIns := [], harness := (true, "b100ca90d1f770d3feff864589f401f81ff4099542d7525b6efa7d54ad5a3c93"), looks := true }, kinds := [], alts := [], laidByText := true, laidKinds := [.data, .data, .data, .sentinel, .sentinel], laidTests := true, laidLooks := .later }
def FnExprSameUptoCardSaid : Prop := Claim7.holds Tryz.pinned (.plain (OpenSpec.upto fnExprSameSpec)) fnExprSameUptoCard

/-- THE SECOND FORM's CARD OF 'laws.FnExprLast'. -/
def fnExprLastUptoCard : Claim7 := { stood := { row := fnExprLastUptoRow, standIns := [], harness := (true, "b100ca90d1f770d3feff864589f401f81ff4099542d7525b6efa7d54ad5a3c93"), looks := true }, kinds := [], alts := [], laidByText := true, laidKinds := [.data, .data, .data, .sentinel, .sentinel], laidTests := true, laidLooks := .later }
def FnExprLastUptoCardSaid : Prop := Claim7.holds Tryz.pinned (.plain (OpenSpec.upto fnExprLastSpec)) fnExprLastUptoCard

/-- THE SECOND FORM's CARD OF 'laws.FnExprPut'. -/
def fnExprPutUptoCard : Claim7 := { stood := { row := fnExprPutUptoRow, standIns := [], harness := (true, "b100ca90d1f770d3feff864589f401f81ff4099542d7525b6efa7d54ad5a3c93"), looks := true }, kinds := [], alts := [], laidByText := true, laidKinds := [.data, .data, .data, .sentinel, .sentinel], laidTests := true, laidLooks := .later }
def FnExprPutUptoCardSaid : Prop := Claim7.holds Tryz.pinned (.plain (OpenSpec.upto fnExprPutSpec)) fnExprPutUptoCard

/-- THE SECOND FORM's CARD OF 'laws.FnExprOne'. -/
def fnExprOneUptoCard : Claim7 := { stood := { row := fnExprOneUptoRow, standIns := [], harness := (true, "b100ca90d1f770d3feff864589f401f81ff4099542d7525b6efa7d54ad5a3c93"), looks := true }, kinds := [], alts := [], laidByText := true, laidKinds := [.data, .data, .data, .sentinel, .sentinel], laidTests := true, laidLooks := .later }
def FnExprOneUptoCardSaid : Prop := Claim7.holds Tryz.pinned (.plain (OpenSpec.upto fnExprOneSpec)) fnExprOneUptoCard

/-- THE SECOND FORM's CARD OF 'laws.FnExactExprRead'. -/
def fnExactExprReadUptoCard : Claim7 := { stood := { row := fnExactExprReadUptoRow, standIns := [], harness := (true, "b100ca90d1f770d3feff864589f401f81ff4099542d7525b6efa7d54ad5a3c93"), looks := true }, kinds := [], alts := [], laidByText := true, laidKinds := [.data, .data, .data, .sentinel, .sentinel], laidTests := true, laidLooks := .later }
def FnExactExprReadUptoCardSaid : Prop := Claim7.holds Tryz.pinned (.plain (OpenSpec.upto fnExactExprReadSpec)) fnExactExprReadUptoCard

/-- THE SECOND FORM's CARD OF 'laws.FnExactStmtOk'. -/
def fnExactStmtOkUptoCard : Claim7 := { stood := { row := fnExactStmtOkUptoRow, standIns := [], harness := (true, "b100ca90d1f770d3feff864589f401f81ff4099542d7525b6efa7d54ad5a3c93"), looks := true }, kinds := [], alts := [], laidByText := true, laidKinds := [.data, .data, .data, .sentinel, .sentinel, .sentinel], laidTests := true, laidLooks := .later }
def FnExactStmtOkUptoCardSaid : Prop := Claim7.holds Tryz.pinned (.plain (OpenSpec.upto fnExactStmtOkSpec)) fnExactStmtOkUptoCard

/-- THE SECOND FORM's CARD OF 'laws.FnExactStmtText'. -/
def fnExactStmtTextUptoCard : Claim7 := { stood := { row := fnExactStmtTextUptoRow, standIns := [], harness := (true, "b100ca90d1f770d3feff864589f401f81ff4099542d7525b6efa7d54ad5a3c93"), looks := true }, kinds := [], alts := [], laidByText := true, laidKinds := [.data, .data, .data, .sentinel, .sentinel, .sentinel], laidTests := true, laidLooks := .later }
def FnExactStmtTextUptoCardSaid : Prop := Claim7.holds Tryz.pinned (.plain (OpenSpec.upto fnExactStmtTextSpec)) fnExactStmtTextUptoCard

/-- THE SECOND FORM's CARD OF 'laws.FnExactStmtRead'. -/
def fnExactStmtReadUptoCard : Claim7 := { stood := { row := fnExactStmtReadUptoRow, standIns := [], harness := (true, "b100ca90d1f770d3feff864589f401f81ff4099542d7525b6efa7d54ad5a3c93"), looks := true }, kinds := [], alts := [], laidByText := true, laidKinds := [.data, .data, .data, .sentinel, .sentinel, .sentinel], laidTests := true, laidLooks := .later }
def FnExactStmtReadUptoCardSaid : Prop := Claim7.holds Tryz.pinned (.plain (OpenSpec.upto fnExactStmtReadSpec)) fnExactStmtReadUptoCard

/-- THE SECOND FORM's CARD OF 'laws.FnExactStmtNames'. -/
def fnExactStmtNamesUptoCard : Claim7 := { stood := { row := fnExactStmtNamesUptoRow, standIns := [], harness := (true, "b100ca90d1f770d3feff864589f401f81ff4099542d7525b6efa7d54ad5a3c93"), looks := true }, kinds := [], alts := [], laidByText := true, laidKinds := [.data, .data, .data, .sentinel, .sentinel, .sentinel], laidTests := true, laidLooks := .later }
def FnExactStmtNamesUptoCardSaid : Prop := Claim7.holds Tryz.pinned (.plain (OpenSpec.upto fnExactStmtNamesSpec)) fnExactStmtNamesUptoCard

/-- THE SECOND FORM's CARD OF 'laws.FnStmt'. -/
def fnStmtUptoCard : Claim7 := { stood := { row := fnStmtUptoRow, standIns := [], harness := (true, "b100ca90d1f770d3feff864589f401f81ff4099542d7525b6efa7d54ad5a3c93"), looks := true }, kinds := [], alts := [], laidByText := true, laidKinds := [.data, .data, .data, .sentinel, .sentinel, .sentinel], laidTests := true, laidLooks := .later }
def FnStmtUptoCardSaid : Prop := Claim7.holds Tryz.pinned (.plain (OpenSpec.upto fnStmtSpec)) fnStmtUptoCard

/-- THE SECOND FORM's CARD OF 'laws.FnStmtNames'. -/
def fnStmtNamesUptoCard : Claim7 := { stood := { row := fnStmtNamesUptoRow, standIns := [], harness := (true, "b100ca90d1f770d3feff864589f401f81ff4099542d7525b6efa7d54ad5a3c93"), looks := true }, kinds := [], alts := [], laidByText := true, laidKinds := [.data, .data, .data, .sentinel, .sentinel, .sentinel], laidTests := true, laidLooks := .later }
def FnStmtNamesUptoCardSaid : Prop := Claim7.holds Tryz.pinned (.plain (OpenSpec.upto fnStmtNamesSpec)) fnStmtNamesUptoCard

/-- THE SECOND FORM's CARD OF 'laws.FnStmtBent'. -/
def fnStmtBentUptoCard : Claim7 := { stood := { row := fnStmtBentUptoRow, standIns := [], harness := (true, "b100ca90d1f770d3feff864589f401f81ff4099542d7525b6efa7d54ad5a3c93"), looks := true }, kinds := [], alts := [], laidByText := true, laidKinds := [.data, .data, .data, .sentinel, .sentinel, .sentinel], laidTests := true, laidLooks := .later }
def FnStmtBentUptoCardSaid : Prop := Claim7.holds Tryz.pinned (.plain (OpenSpec.upto fnStmtBentSpec)) fnStmtBentUptoCard

/-- THE SECOND FORM's CARD OF 'laws.FnStmtWords'. -/
def fnStmtWordsUptoCard : Claim7 := { stood := { row := fnStmtWordsUptoRow, standIns := [], harness := (true, "b100ca90d1f770d3feff864589f401f81ff4099542d7525b6efa7d54ad5a3c93"), looks := true }, kinds := [], alts := [], laidByText := true, laidKinds := [.data, .data, .data, .sentinel, .sentinel, .sentinel], laidTests := true, laidLooks := .later }
def FnStmtWordsUptoCardSaid : Prop := Claim7.holds Tryz.pinned (.plain (OpenSpec.upto fnStmtWordsSpec)) fnStmtWordsUptoCard

/-- THE SECOND FORM's CARD OF 'laws.FnStmtSame'. -/
def fnStmtSameUptoCard : Claim7 := { stood := { row := fnStmtSameUptoRow, standIns := [], harness := (true, "b100ca90d1f770d3feff864589f401f81ff4099542d7525b6efa7d54ad5a3c93"), looks := true }, kinds := [], alts := [], laidByText := true, laidKinds := [.data, .data, .data, .sentinel, .sentinel, .sentinel], laidTests := true, laidLooks := .later }
def FnStmtSameUptoCardSaid : Prop := Claim7.holds Tryz.pinned (.plain (OpenSpec.upto fnStmtSameSpec)) fnStmtSameUptoCard

/-- THE SECOND FORM's CARD OF 'laws.FnStmtUses'. -/
def fnStmtUsesUptoCard : Claim7 := { stood := { row := fnStmtUsesUptoRow, standIns := [], harness := (true, "b100ca90d1f770d3feff864589f401f81ff4099542d7525b6efa7d54ad5a3c93"), looks := true }, kinds := [], alts := [], laidByText := true, laidKinds := [.data, .data, .data, .sentinel, .sentinel, .sentinel], laidTests := true, laidLooks := .later }
def FnStmtUsesUptoCardSaid : Prop := Claim7.holds Tryz.pinned (.plain (OpenSpec.upto fnStmtUsesSpec)) fnStmtUsesUptoCard
end Rows
end Go.Proofs.YtkfnbakhbbcfcaaGreatDoor
