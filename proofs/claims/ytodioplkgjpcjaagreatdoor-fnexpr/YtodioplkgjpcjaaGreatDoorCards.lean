/-
  DERIVED. GIVEN WITH THE SEED: THE CARDS: each row of YtodioplkgjpcjaaGreatDoorRows.lean that lists a variable, with what it lists TIED to the program's text (the seventh form; the later family's looks); each row that meets fmt, with fmt's text TOLD by the authors' own Lean function (tested against real Go, not proved from fmt's source: count such statements apart). THE CARD IS WHAT COUNTS. Prove the row's statement (the work); the ties are given (YtodioplkgjpcjaaGreatDoorTie.lean); close each card by the builder's one call (the guide's Derived/Test/ToyasCard.lean, 'card_holds'). Laid BY PROGRAM, IN A SANDBOX (cutbox-door.mjs). By AI agents, Wed Nov 11 2026. No macro, syntax, notation, axiom, sorry.
-/
import Derived.Test.YtodioplkgjpcjaaGreatDoorRows
import GoSem.ClaimSeven
namespace Go.Proofs.YtodioplkgjpcjaaGreatDoor
namespace Rows

/-- THE TIED CARD OF 'laws.FnExpr'. -/
def fnExprCard : Claim7 := { stood := { row := fnExprRow, standIns := [], harness := (true, "f02c9204e32b0b55e7402ef82d79b6794c327cc5c954254c7a4ac62986b807ec"), looks := true }, kinds := [], alts := [], laidByText := true, laidKinds := [.data, .data, .data, .sentinel, .sentinel], laidTests := true, laidLooks := .later }
def FnExprCardSaid : Prop := Claim7.holds Tryz.pinned (.plain (OpenSpec.ofChange fnExprSpec)) fnExprCard

/-- THE TIED CARD OF 'laws.FnExprLast'. -/
def fnExprLastCard : Claim7 := { stood := { row := fnExprLastRow, standIns := [], harness := (true, "f02c9204e32b0b55e7402ef82d79b6794c327cc5c954254c7a4ac62986b807ec"), looks := true }, kinds := [], alts := [], laidByText := true, laidKinds := [.data, .data, .data, .sentinel, .sentinel], laidTests := true, laidLooks := .later }
def FnExprLastCardSaid : Prop := Claim7.holds Tryz.pinned (.plain (OpenSpec.ofChange fnExprLastSpec)) fnExprLastCard

/-- THE TIED CARD OF 'laws.FnExactStmtRead'. -/
def fnExactStmtReadCard : Claim7 := { stood := { row := fnExactStmtReadRow, standIns := [], harness := (true, "f02c9204e32b0b55e7402ef82d79b6794c327cc5c954254c7a4ac62986b807ec"), looks := true }, kinds := [], alts := [], laidByText := true, laidKinds := [.data, .data, .data, .sentinel, .sentinel, .sentinel], laidTests := true, laidLooks := .later }
def FnExactStmtReadCardSaid : Prop := Claim7.holds Tryz.pinned (.plain (OpenSpec.ofChange fnExactStmtReadSpec)) fnExactStmtReadCard

/-- THE TIED CARD OF 'laws.FnStmt'. -/
def fnStmtCard : Claim7 := { stood := { row := fnStmtRow, standIns := [], harness := (true, "f02c9204e32b0b55e7402ef82d79b6794c327cc5c954254c7a4ac62986b807ec"), looks := true }, kinds := [], alts := [], laidByText := true, laidKinds := [.data, .data, .data, .sentinel, .sentinel, .sentinel], laidTests := true, laidLooks := .later }
def FnStmtCardSaid : Prop := Claim7.holds Tryz.pinned (.plain (OpenSpec.ofChange fnStmtSpec)) fnStmtCard

/-- THE TIED CARD OF 'laws.FnStmtWords'. -/
def fnStmtWordsCard : Claim7 := { stood := { row := fnStmtWordsRow, standIns := [], harness := (true, "f02c9204e32b0b55e7402ef82d79b6794c327cc5c954254c7a4ac62986b807ec"), looks := true }, kinds := [], alts := [], laidByText := true, laidKinds := [.data, .data, .data, .sentinel, .sentinel, .sentinel], laidTests := true, laidLooks := .later }
def FnStmtWordsCardSaid : Prop := Claim7.holds Tryz.pinned (.plain (OpenSpec.ofChange fnStmtWordsSpec)) fnStmtWordsCard

/-- THE SECOND FORM's CARD OF 'laws.FnExpr'. -/
def fnExprUptoCard : Claim7 := { stood := { row := fnExprUptoRow, standIns := [], harness := (true, "f02c9204e32b0b55e7402ef82d79b6794c327cc5c954254c7a4ac62986b807ec"), looks := true }, kinds := [], alts := [], laidByText := true, laidKinds := [.data, .data, .data, .sentinel, .sentinel], laidTests := true, laidLooks := .later }
def FnExprUptoCardSaid : Prop := Claim7.holds Tryz.pinned (.plain (OpenSpec.upto fnExprSpec)) fnExprUptoCard

/-- THE SECOND FORM's CARD OF 'laws.FnExprLast'. -/
def fnExprLastUptoCard : Claim7 := { stood := { row := fnExprLastUptoRow, standIns := [], harness := (true, "f02c9204e32b0b55e7402ef82d79b6794c327cc5c954254c7a4ac62986b807ec"), looks := true }, kinds := [], alts := [], laidByText := true, laidKinds := [.data, .data, .data, .sentinel, .sentinel], laidTests := true, laidLooks := .later }
def FnExprLastUptoCardSaid : Prop := Claim7.holds Tryz.pinned (.plain (OpenSpec.upto fnExprLastSpec)) fnExprLastUptoCard

/-- THE SECOND FORM's CARD OF 'laws.FnExactStmtRead'. -/
def fnExactStmtReadUptoCard : Claim7 := { stood := { row := fnExactStmtReadUptoRow, standIns := [], harness := (true, "f02c9204e32b0b55e7402ef82d79b6794c327cc5c954254c7a4ac62986b807ec"), looks := true }, kinds := [], alts := [], laidByText := true, laidKinds := [.data, .data, .data, .sentinel, .sentinel, .sentinel], laidTests := true, laidLooks := .later }
def FnExactStmtReadUptoCardSaid : Prop := Claim7.holds Tryz.pinned (.plain (OpenSpec.upto fnExactStmtReadSpec)) fnExactStmtReadUptoCard

/-- THE SECOND FORM's CARD OF 'laws.FnStmt'. -/
def fnStmtUptoCard : Claim7 := { stood := { row := fnStmtUptoRow, standIns := [], harness := (true, "f02c9204e32b0b55e7402ef82d79b6794c327cc5c954254c7a4ac62986b807ec"), looks := true }, kinds := [], alts := [], laidByText := true, laidKinds := [.data, .data, .data, .sentinel, .sentinel, .sentinel], laidTests := true, laidLooks := .later }
def FnStmtUptoCardSaid : Prop := Claim7.holds Tryz.pinned (.plain (OpenSpec.upto fnStmtSpec)) fnStmtUptoCard

/-- THE SECOND FORM's CARD OF 'laws.FnStmtWords'. -/
def fnStmtWordsUptoCard : Claim7 := { stood := { row := fnStmtWordsUptoRow, standIns := [], harness := (true, "f02c9204e32b0b55e7402ef82d79b6794c327cc5c954254c7a4ac62986b807ec"), looks := true }, kinds := [], alts := [], laidByText := true, laidKinds := [.data, .data, .data, .sentinel, .sentinel, .sentinel], laidTests := true, laidLooks := .later }
def FnStmtWordsUptoCardSaid : Prop := Claim7.holds Tryz.pinned (.plain (OpenSpec.upto fnStmtWordsSpec)) fnStmtWordsUptoCard
end Rows
end Go.Proofs.YtodioplkgjpcjaaGreatDoor
