/-
  DERIVED. GIVEN WITH THE SEED: THE CARDS: each row of YtfknelkbdoiokaaGreatDoorRows.lean that lists a variable, with what it lists TIED to the program's text (the seventh form; the later family's looks); each row that meets fmt, with fmt's text TOLD by the authors' own Lean function (tested against real Go, not proved from fmt's source: count such statements apart). THE CARD IS WHAT COUNTS. Prove the row's statement (the work); the ties are given (YtfknelkbdoiokaaGreatDoorTie.lean); close each card by the builder's one call (the guide's Derived/Test/ToyasCard.lean, 'card_holds'). Laid BY PROGRAM, IN A SANDBOX (cutbox-door.mjs). By AI agents, Wed Nov 11 2026. No macro, syntax, notation, axiom, sorry.
-/
import Derived.Test.YtfknelkbdoiokaaGreatDoorRows
import GoSem.ClaimSeven
namespace Go.Proofs.YtfknelkbdoiokaaGreatDoor
namespace Rows

/-- THE TIED CARD OF 'laws.FnExprLast'. -/
def fnExprLastCard : Claim7 := { stood := { row := fnExprLastRow, standIns := [], harness := (true, "6a8621b4d754e4af97c753730d1bcd420fab67a4abfe2fa865d592b02e3c6e1c"), looks := true }, kinds := [], alts := [], laidByText := true, laidKinds := [.data, .data, .data, .sentinel, .sentinel], laidTests := true, laidLooks := .later }
def FnExprLastCardSaid : Prop := Claim7.holds Tryz.pinned (.plain (OpenSpec.ofChange fnExprLastSpec)) fnExprLastCard

/-- THE TIED CARD OF 'laws.FnStmt'. -/
def fnStmtCard : Claim7 := { stood := { row := fnStmtRow, standIns := [], harness := (true, "6a8621b4d754e4af97c753730d1bcd420fab67a4abfe2fa865d592b02e3c6e1c"), looks := true }, kinds := [], alts := [], laidByText := true, laidKinds := [.data, .data, .data, .sentinel, .sentinel, .sentinel], laidTests := true, laidLooks := .later }
def FnStmtCardSaid : Prop := Claim7.holds Tryz.pinned (.plain (OpenSpec.ofChange fnStmtSpec)) fnStmtCard

/-- THE TIED CARD OF 'laws.FnStmtWords'. -/
def fnStmtWordsCard : Claim7 := { stood := { row := fnStmtWordsRow, standIns := [], harness := (true, "6a8621b4d754e4af97c753730d1bcd420fab67a4abfe2fa865d592b02e3c6e1c"), looks := true }, kinds := [], alts := [], laidByText := true, laidKinds := [.data, .data, .data, .sentinel, .sentinel, .sentinel], laidTests := true, laidLooks := .later }
def FnStmtWordsCardSaid : Prop := Claim7.holds Tryz.pinned (.plain (OpenSpec.ofChange fnStmtWordsSpec)) fnStmtWordsCard

/-- THE TIED CARD OF 'laws.FnBareOf'. -/
def fnBareOfCard : Claim7 := { stood := { row := fnBareOfRow, standIns := [], harness := (true, "6a8621b4d754e4af97c753730d1bcd420fab67a4abfe2fa865d592b02e3c6e1c"), looks := true }, kinds := [], alts := [], laidByText := true, laidKinds := [.data, .data, .data, .sentinel, .sentinel, .sentinel], laidTests := true, laidLooks := .later }
def FnBareOfCardSaid : Prop := Claim7.holds Tryz.pinned (.plain (OpenSpec.ofChange fnBareOfSpec)) fnBareOfCard

/-- THE TIED CARD OF 'laws.FnBareCast'. -/
def fnBareCastCard : Claim7 := { stood := { row := fnBareCastRow, standIns := [], harness := (true, "6a8621b4d754e4af97c753730d1bcd420fab67a4abfe2fa865d592b02e3c6e1c"), looks := true }, kinds := [], alts := [], laidByText := true, laidKinds := [.data, .data, .data, .sentinel, .sentinel, .sentinel], laidTests := true, laidLooks := .later }
def FnBareCastCardSaid : Prop := Claim7.holds Tryz.pinned (.plain (OpenSpec.ofChange fnBareCastSpec)) fnBareCastCard

/-- THE TIED CARD OF 'laws.FnExactStmtRead'. -/
def fnExactStmtReadCard : Claim7 := { stood := { row := fnExactStmtReadRow, standIns := [], harness := (true, "6a8621b4d754e4af97c753730d1bcd420fab67a4abfe2fa865d592b02e3c6e1c"), looks := true }, kinds := [], alts := [], laidByText := true, laidKinds := [.data, .data, .data, .sentinel, .sentinel, .sentinel], laidTests := true, laidLooks := .later }
def FnExactStmtReadCardSaid : Prop := Claim7.holds Tryz.pinned (.plain (OpenSpec.ofChange fnExactStmtReadSpec)) fnExactStmtReadCard

/-- THE TIED CARD OF 'laws.FnExactProgType'. -/
def fnExactProgTypeCard : Claim7 := { stood := { row := fnExactProgTypeRow, standIns := [], harness := (true, "6a8621b4d754e4af97c753730d1bcd420fab67a4abfe2fa865d592b02e3c6e1c"), looks := true }, kinds := [], alts := [], laidByText := true, laidKinds := [.data, .data, .data, .sentinel, .sentinel, .sentinel], laidTests := true, laidLooks := .later }
def FnExactProgTypeCardSaid : Prop := Claim7.holds Tryz.pinned (.plain (OpenSpec.ofChange fnExactProgTypeSpec)) fnExactProgTypeCard

/-- THE TIED CARD OF 'laws.FnExactProgRun'. -/
def fnExactProgRunCard : Claim7 := { stood := { row := fnExactProgRunRow, standIns := [], harness := (true, "6a8621b4d754e4af97c753730d1bcd420fab67a4abfe2fa865d592b02e3c6e1c"), looks := true }, kinds := [], alts := [], laidByText := true, laidKinds := [.data, .data, .data, .sentinel, .sentinel, .sentinel], laidTests := true, laidLooks := .later }
def FnExactProgRunCardSaid : Prop := Claim7.holds Tryz.pinned (.plain (OpenSpec.ofChange fnExactProgRunSpec)) fnExactProgRunCard

/-- THE TIED CARD OF 'laws.FnExactBareOf'. -/
def fnExactBareOfCard : Claim7 := { stood := { row := fnExactBareOfRow, standIns := [], harness := (true, "6a8621b4d754e4af97c753730d1bcd420fab67a4abfe2fa865d592b02e3c6e1c"), looks := true }, kinds := [], alts := [], laidByText := true, laidKinds := [.data, .data, .data, .sentinel, .sentinel, .sentinel], laidTests := true, laidLooks := .later }
def FnExactBareOfCardSaid : Prop := Claim7.holds Tryz.pinned (.plain (OpenSpec.ofChange fnExactBareOfSpec)) fnExactBareOfCard

/-- THE SECOND FORM's CARD OF 'laws.FnExprLast'. -/
def fnExprLastUptoCard : Claim7 := { stood := { row := fnExprLastUptoRow, standIns := [], harness := (true, "6a8621b4d754e4af97c753730d1bcd420fab67a4abfe2fa865d592b02e3c6e1c"), looks := true }, kinds := [], alts := [], laidByText := true, laidKinds := [.data, .data, .data, .sentinel, .sentinel], laidTests := true, laidLooks := .later }
def FnExprLastUptoCardSaid : Prop := Claim7.holds Tryz.pinned (.plain (OpenSpec.upto fnExprLastSpec)) fnExprLastUptoCard

/-- THE SECOND FORM's CARD OF 'laws.FnStmt'. -/
def fnStmtUptoCard : Claim7 := { stood := { row := fnStmtUptoRow, standIns := [], harness := (true, "6a8621b4d754e4af97c753730d1bcd420fab67a4abfe2fa865d592b02e3c6e1c"), looks := true }, kinds := [], alts := [], laidByText := true, laidKinds := [.data, .data, .data, .sentinel, .sentinel, .sentinel], laidTests := true, laidLooks := .later }
def FnStmtUptoCardSaid : Prop := Claim7.holds Tryz.pinned (.plain (OpenSpec.upto fnStmtSpec)) fnStmtUptoCard

/-- THE SECOND FORM's CARD OF 'laws.FnStmtWords'. -/
def fnStmtWordsUptoCard : Claim7 := { stood := { row := fnStmtWordsUptoRow, standIns := [], harness := (true, "6a8621b4d754e4af97c753730d1bcd420fab67a4abfe2fa865d592b02e3c6e1c"), looks := true }, kinds := [], alts := [], laidByText := true, laidKinds := [.data, .data, .data, .sentinel, .sentinel, .sentinel], laidTests := true, laidLooks := .later }
def FnStmtWordsUptoCardSaid : Prop := Claim7.holds Tryz.pinned (.plain (OpenSpec.upto fnStmtWordsSpec)) fnStmtWordsUptoCard

/-- THE SECOND FORM's CARD OF 'laws.FnBareOf'. -/
def fnBareOfUptoCard : Claim7 := { stood := { row := fnBareOfUptoRow, standIns := [], harness := (true, "6a8621b4d754e4af97c753730d1bcd420fab67a4abfe2fa865d592b02e3c6e1c"), looks := true }, kinds := [], alts := [], laidByText := true, laidKinds := [.data, .data, .data, .sentinel, .sentinel, .sentinel], laidTests := true, laidLooks := .later }
def FnBareOfUptoCardSaid : Prop := Claim7.holds Tryz.pinned (.plain (OpenSpec.upto fnBareOfSpec)) fnBareOfUptoCard

/-- THE SECOND FORM's CARD OF 'laws.FnBareCast'. -/
def fnBareCastUptoCard : Claim7 := { stood := { row := fnBareCastUptoRow, standIns := [], harness := (true, "6a8621b4d754e4af97c753730d1bcd420fab67a4abfe2fa865d592b02e3c6e1c"), looks := true }, kinds := [], alts := [], laidByText := true, laidKinds := [.data, .data, .data, .sentinel, .sentinel, .sentinel], laidTests := true, laidLooks := .later }
def FnBareCastUptoCardSaid : Prop := Claim7.holds Tryz.pinned (.plain (OpenSpec.upto fnBareCastSpec)) fnBareCastUptoCard

/-- THE SECOND FORM's CARD OF 'laws.FnExactStmtRead'. -/
def fnExactStmtReadUptoCard : Claim7 := { stood := { row := fnExactStmtReadUptoRow, standIns := [], harness := (true, "6a8621b4d754e4af97c753730d1bcd420fab67a4abfe2fa865d592b02e3c6e1c"), looks := true }, kinds := [], alts := [], laidByText := true, laidKinds := [.data, .data, .data, .sentinel, .sentinel, .sentinel], laidTests := true, laidLooks := .later }
def FnExactStmtReadUptoCardSaid : Prop := Claim7.holds Tryz.pinned (.plain (OpenSpec.upto fnExactStmtReadSpec)) fnExactStmtReadUptoCard

/-- THE SECOND FORM's CARD OF 'laws.FnExactProgType'. -/
def fnExactProgTypeUptoCard : Claim7 := { stood := { row := fnExactProgTypeUptoRow, standIns := [], harness := (true, "6a8621b4d754e4af97c753730d1bcd420fab67a4abfe2fa865d592b02e3c6e1c"), looks := true }, kinds := [], alts := [], laidByText := true, laidKinds := [.data, .data, .data, .sentinel, .sentinel, .sentinel], laidTests := true, laidLooks := .later }
def FnExactProgTypeUptoCardSaid : Prop := Claim7.holds Tryz.pinned (.plain (OpenSpec.upto fnExactProgTypeSpec)) fnExactProgTypeUptoCard

/-- THE SECOND FORM's CARD OF 'laws.FnExactProgRun'. -/
def fnExactProgRunUptoCard : Claim7 := { stood := { row := fnExactProgRunUptoRow, standIns := [], harness := (true, "6a8621b4d754e4af97c753730d1bcd420fab67a4abfe2fa865d592b02e3c6e1c"), looks := true }, kinds := [], alts := [], laidByText := true, laidKinds := [.data, .data, .data, .sentinel, .sentinel, .sentinel], laidTests := true, laidLooks := .later }
def FnExactProgRunUptoCardSaid : Prop := Claim7.holds Tryz.pinned (.plain (OpenSpec.upto fnExactProgRunSpec)) fnExactProgRunUptoCard

/-- THE SECOND FORM's CARD OF 'laws.FnExactBareOf'. -/
def fnExactBareOfUptoCard : Claim7 := { stood := { row := fnExactBareOfUptoRow, standIns := [], harness := (true, "6a8621b4d754e4af97c753730d1bcd420fab67a4abfe2fa865d592b02e3c6e1c"), looks := true }, kinds := [], alts := [], laidByText := true, laidKinds := [.data, .data, .data, .sentinel, .sentinel, .sentinel], laidTests := true, laidLooks := .later }
def FnExactBareOfUptoCardSaid : Prop := Claim7.holds Tryz.pinned (.plain (OpenSpec.upto fnExactBareOfSpec)) fnExactBareOfUptoCard
end Rows
end Go.Proofs.YtfknelkbdoiokaaGreatDoor
