/-
  DERIVED. GIVEN WITH THE SEED: THE CARDS: each row of YtkllhnhinealfaaGreatDoorRows.lean that lists a variable, with what it lists TIED to the program's text (the seventh form; the later family's looks); each row that meets fmt, with fmt's text TOLD by the authors' own Lean function (tested against real Go, not proved from fmt's source: count such statements apart). THE CARD IS WHAT COUNTS. Prove the row's statement (the work); the ties are given (YtkllhnhinealfaaGreatDoorTie.lean); close each card by the builder's one call (the guide's Derived/Test/ToyasCard.lean, 'card_holds'). Laid BY PROGRAM, IN A SANDBOX (cutbox-door.mjs). By AI agents, Wed Nov 11 2026. No macro, syntax, notation, axiom, sorry.
-/
import Derived.Test.YtkllhnhinealfaaGreatDoorRows
import GoSem.ClaimSeven
namespace Go.Proofs.YtkllhnhinealfaaGreatDoor
namespace Rows

/-- THE TIED CARD OF 'laws.FnStmtBent'. -/
def fnStmtBentCard : Claim7 := { stood := { row := fnStmtBentRow, standIns := [], harness := (true, "348b55e6dfa10a4d7db9c32e31893a0301f00dc3c8dd475d412680cc3e2900f2"), looks := true }, kinds := [], alts := [], laidByText := true, laidKinds := [.data, .data, .data, .sentinel, .sentinel, .sentinel], laidTests := true, laidLooks := .later }
def FnStmtBentCardSaid : Prop := Claim7.holds Tryz.pinned (.plain (OpenSpec.ofChange fnStmtBentSpec)) fnStmtBentCard

/-- THE TIED CARD OF 'laws.FnBareBent'. -/
def fnBareBentCard : Claim7 := { stood := { row := fnBareBentRow, standIns := [], harness := (true, "348b55e6dfa10a4d7db9c32e31893a0301f00dc3c8dd475d412680cc3e2900f2"), looks := true }, kinds := [], alts := [], laidByText := true, laidKinds := [.data, .data, .data, .sentinel, .sentinel], laidTests := true, laidLooks := .later }
def FnBareBentCardSaid : Prop := Claim7.holds Tryz.pinned (.plain (OpenSpec.ofChange fnBareBentSpec)) fnBareBentCard

/-- THE TIED CARD OF 'laws.FnExactStmtOk'. -/
def fnExactStmtOkCard : Claim7 := { stood := { row := fnExactStmtOkRow, standIns := [], harness := (true, "348b55e6dfa10a4d7db9c32e31893a0301f00dc3c8dd475d412680cc3e2900f2"), looks := true }, kinds := [], alts := [], laidByText := true, laidKinds := [.data, .data, .data, .sentinel, .sentinel, .sentinel], laidTests := true, laidLooks := .later }
def FnExactStmtOkCardSaid : Prop := Claim7.holds Tryz.pinned (.plain (OpenSpec.ofChange fnExactStmtOkSpec)) fnExactStmtOkCard

/-- THE TIED CARD OF 'laws.FnExactStmtText'. -/
def fnExactStmtTextCard : Claim7 := { stood := { row := fnExactStmtTextRow, standIns := [], harness := (true, "348b55e6dfa10a4d7db9c32e31893a0301f00dc3c8dd475d412680cc3e2900f2"), looks := true }, kinds := [], alts := [], laidByText := true, laidKinds := [.data, .data, .data, .sentinel, .sentinel, .sentinel], laidTests := true, laidLooks := .later }
def FnExactStmtTextCardSaid : Prop := Claim7.holds Tryz.pinned (.plain (OpenSpec.ofChange fnExactStmtTextSpec)) fnExactStmtTextCard

/-- THE TIED CARD OF 'laws.FnExactProgOk'. -/
def fnExactProgOkCard : Claim7 := { stood := { row := fnExactProgOkRow, standIns := [], harness := (true, "348b55e6dfa10a4d7db9c32e31893a0301f00dc3c8dd475d412680cc3e2900f2"), looks := true }, kinds := [], alts := [], laidByText := true, laidKinds := [.data, .data, .data, .sentinel, .sentinel, .sentinel], laidTests := true, laidLooks := .later }
def FnExactProgOkCardSaid : Prop := Claim7.holds Tryz.pinned (.plain (OpenSpec.ofChange fnExactProgOkSpec)) fnExactProgOkCard

/-- THE TIED CARD OF 'laws.FnExactProgText'. -/
def fnExactProgTextCard : Claim7 := { stood := { row := fnExactProgTextRow, standIns := [], harness := (true, "348b55e6dfa10a4d7db9c32e31893a0301f00dc3c8dd475d412680cc3e2900f2"), looks := true }, kinds := [], alts := [], laidByText := true, laidKinds := [.data, .data, .data, .sentinel, .sentinel, .sentinel], laidTests := true, laidLooks := .later }
def FnExactProgTextCardSaid : Prop := Claim7.holds Tryz.pinned (.plain (OpenSpec.ofChange fnExactProgTextSpec)) fnExactProgTextCard

/-- THE TIED CARD OF 'laws.FnExactBareOk'. -/
def fnExactBareOkCard : Claim7 := { stood := { row := fnExactBareOkRow, standIns := [], harness := (true, "348b55e6dfa10a4d7db9c32e31893a0301f00dc3c8dd475d412680cc3e2900f2"), looks := true }, kinds := [], alts := [], laidByText := true, laidKinds := [.data, .data, .data, .sentinel, .sentinel], laidTests := true, laidLooks := .later }
def FnExactBareOkCardSaid : Prop := Claim7.holds Tryz.pinned (.plain (OpenSpec.ofChange fnExactBareOkSpec)) fnExactBareOkCard

/-- THE TIED CARD OF 'laws.FnExactBareText'. -/
def fnExactBareTextCard : Claim7 := { stood := { row := fnExactBareTextRow, standIns := [], harness := (true, "348b55e6dfa10a4d7db9c32e31893a0301f00dc3c8dd475d412680cc3e2900f2"), looks := true }, kinds := [], alts := [], laidByText := true, laidKinds := [.data, .data, .data, .sentinel, .sentinel], laidTests := true, laidLooks := .later }
def FnExactBareTextCardSaid : Prop := Claim7.holds Tryz.pinned (.plain (OpenSpec.ofChange fnExactBareTextSpec)) fnExactBareTextCard

/-- THE SECOND FORM's CARD OF 'laws.FnStmtBent'. -/
def fnStmtBentUptoCard : Claim7 := { stood := { row := fnStmtBentUptoRow, standIns := [], harness := (true, "348b55e6dfa10a4d7db9c32e31893a0301f00dc3c8dd475d412680cc3e2900f2"), looks := true }, kinds := [], alts := [], laidByText := true, laidKinds := [.data, .data, .data, .sentinel, .sentinel, .sentinel], laidTests := true, laidLooks := .later }
def FnStmtBentUptoCardSaid : Prop := Claim7.holds Tryz.pinned (.plain (OpenSpec.upto fnStmtBentSpec)) fnStmtBentUptoCard

/-- THE SECOND FORM's CARD OF 'laws.FnBareBent'. -/
def fnBareBentUptoCard : Claim7 := { stood := { row := fnBareBentUptoRow, standIns := [], harness := (true, "348b55e6dfa10a4d7db9c32e31893a0301f00dc3c8dd475d412680cc3e2900f2"), looks := true }, kinds := [], alts := [], laidByText := true, laidKinds := [.data, .data, .data, .sentinel, .sentinel], laidTests := true, laidLooks := .later }
def FnBareBentUptoCardSaid : Prop := Claim7.holds Tryz.pinned (.plain (OpenSpec.upto fnBareBentSpec)) fnBareBentUptoCard

/-- THE SECOND FORM's CARD OF 'laws.FnExactStmtOk'. -/
def fnExactStmtOkUptoCard : Claim7 := { stood := { row := fnExactStmtOkUptoRow, standIns := [], harness := (true, "348b55e6dfa10a4d7db9c32e31893a0301f00dc3c8dd475d412680cc3e2900f2"), looks := true }, kinds := [], alts := [], laidByText := true, laidKinds := [.data, .data, .data, .sentinel, .sentinel, .sentinel], laidTests := true, laidLooks := .later }
def FnExactStmtOkUptoCardSaid : Prop := Claim7.holds Tryz.pinned (.plain (OpenSpec.upto fnExactStmtOkSpec)) fnExactStmtOkUptoCard

/-- THE SECOND FORM's CARD OF 'laws.FnExactStmtText'. -/
def fnExactStmtTextUptoCard : Claim7 := { stood := { row := fnExactStmtTextUptoRow, standIns := [], harness := (true, "348b55e6dfa10a4d7db9c32e31893a0301f00dc3c8dd475d412680cc3e2900f2"), looks := true }, kinds := [], alts := [], laidByText := true, laidKinds := [.data, .data, .data, .sentinel, .sentinel, .sentinel], laidTests := true, laidLooks := .later }
def FnExactStmtTextUptoCardSaid : Prop := Claim7.holds Tryz.pinned (.plain (OpenSpec.upto fnExactStmtTextSpec)) fnExactStmtTextUptoCard

/-- THE SECOND FORM's CARD OF 'laws.FnExactProgOk'. -/
def fnExactProgOkUptoCard : Claim7 := { stood := { row := fnExactProgOkUptoRow, standIns := [], harness := (true, "348b55e6dfa10a4d7db9c32e31893a0301f00dc3c8dd475d412680cc3e2900f2"), looks := true }, kinds := [], alts := [], laidByText := true, laidKinds := [.data, .data, .data, .sentinel, .sentinel, .sentinel], laidTests := true, laidLooks := .later }
def FnExactProgOkUptoCardSaid : Prop := Claim7.holds Tryz.pinned (.plain (OpenSpec.upto fnExactProgOkSpec)) fnExactProgOkUptoCard

/-- THE SECOND FORM's CARD OF 'laws.FnExactProgText'. -/
def fnExactProgTextUptoCard : Claim7 := { stood := { row := fnExactProgTextUptoRow, standIns := [], harness := (true, "348b55e6dfa10a4d7db9c32e31893a0301f00dc3c8dd475d412680cc3e2900f2"), looks := true }, kinds := [], alts := [], laidByText := true, laidKinds := [.data, .data, .data, .sentinel, .sentinel, .sentinel], laidTests := true, laidLooks := .later }
def FnExactProgTextUptoCardSaid : Prop := Claim7.holds Tryz.pinned (.plain (OpenSpec.upto fnExactProgTextSpec)) fnExactProgTextUptoCard

/-- THE SECOND FORM's CARD OF 'laws.FnExactBareOk'. -/
def fnExactBareOkUptoCard : Claim7 := { stood := { row := fnExactBareOkUptoRow, standIns := [], harness := (true, "348b55e6dfa10a4d7db9c32e31893a0301f00dc3c8dd475d412680cc3e2900f2"), looks := true }, kinds := [], alts := [], laidByText := true, laidKinds := [.data, .data, .data, .sentinel, .sentinel], laidTests := true, laidLooks := .later }
def FnExactBareOkUptoCardSaid : Prop := Claim7.holds Tryz.pinned (.plain (OpenSpec.upto fnExactBareOkSpec)) fnExactBareOkUptoCard

/-- THE SECOND FORM's CARD OF 'laws.FnExactBareText'. -/
def fnExactBareTextUptoCard : Claim7 := { stood := { row := fnExactBareTextUptoRow, standIns := [], harness := (true, "348b55e6dfa10a4d7db9c32e31893a0301f00dc3c8dd475d412680cc3e2900f2"), looks := true }, kinds := [], alts := [], laidByText := true, laidKinds := [.data, .data, .data, .sentinel, .sentinel], laidTests := true, laidLooks := .later }
def FnExactBareTextUptoCardSaid : Prop := Claim7.holds Tryz.pinned (.plain (OpenSpec.upto fnExactBareTextSpec)) fnExactBareTextUptoCard
end Rows
end Go.Proofs.YtkllhnhinealfaaGreatDoor
