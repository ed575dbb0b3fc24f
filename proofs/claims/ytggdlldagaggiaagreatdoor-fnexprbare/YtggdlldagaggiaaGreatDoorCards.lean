/-
  DERIVED. GIVEN WITH THE SEED: THE CARDS: each row of YtggdlldagaggiaaGreatDoorRows.lean that lists a variable, with what it lists TIED to the program's text (the seventh form; the later family's looks); each row that meets fmt, with fmt's text TOLD by the authors' own Lean function (tested against real Go, not proved from fmt's source: count such statements apart). THE CARD IS WHAT COUNTS. Prove the row's statement (the work); the ties are given (YtggdlldagaggiaaGreatDoorTie.lean); close each card by the builder's one call (the guide's Derived/Test/ToyasCard.lean, 'card_holds'). Laid BY PROGRAM, IN A SANDBOX (cutbox-door.mjs). By AI agents, Wed Nov 11 2026. No macro, syntax, notation, axiom, sorry.
-/
import Derived.Test.YtggdlldagaggiaaGreatDoorRows
import GoSem.ClaimSeven
namespace Go.Proofs.YtggdlldagaggiaaGreatDoor
namespace Rows

/-- THE TIED CARD OF 'laws.FnExpr'. -/
def fnExprCard : Claim7 := { stood := { row := fnExprRow, standIns := [], harness := (true, "1ba372455362d8308537e50782232f5108dfa5218fd8276efa2f30edc5358766"), looks := true }, kinds := [], alts := [], laidByText := true, laidKinds := [.data, .data, .data, .sentinel, .sentinel], laidTests := true, laidLooks := .later }
def FnExprCardSaid : Prop := Claim7.holds Tryz.pinned (.plain (OpenSpec.ofChange fnExprSpec)) fnExprCard

/-- THE TIED CARD OF 'laws.FnExprBare'. -/
def fnExprBareCard : Claim7 := { stood := { row := fnExprBareRow, standIns := [], harness := (true, "1ba372455362d8308537e50782232f5108dfa5218fd8276efa2f30edc5358766"), looks := true }, kinds := [], alts := [], laidByText := true, laidKinds := [.data, .data, .data, .sentinel, .sentinel], laidTests := true, laidLooks := .later }
def FnExprBareCardSaid : Prop := Claim7.holds Tryz.pinned (.plain (OpenSpec.ofChange fnExprBareSpec)) fnExprBareCard

/-- THE TIED CARD OF 'laws.FnExprSame'. -/
def fnExprSameCard : Claim7 := { stood := { row := fnExprSameRow, standIns := [], harness := (true, "1ba372455362d8308537e50782232f5108dfa5218fd8276efa2f30edc5358766"), looks := true }, kinds := [], alts := [], laidByText := true, laidKinds := [.data, .data, .data, .sentinel, .sentinel], laidTests := true, laidLooks := .later }
def FnExprSameCardSaid : Prop := Claim7.holds Tryz.pinned (.plain (OpenSpec.ofChange fnExprSameSpec)) fnExprSameCard

/-- THE TIED CARD OF 'laws.FnExprWords'. -/
def fnExprWordsCard : Claim7 := { stood := { row := fnExprWordsRow, standIns := [], harness := (true, "1ba372455362d8308537e50782232f5108dfa5218fd8276efa2f30edc5358766"), looks := true }, kinds := [], alts := [], laidByText := true, laidKinds := [.data, .data, .data, .sentinel, .sentinel], laidTests := true, laidLooks := .later }
def FnExprWordsCardSaid : Prop := Claim7.holds Tryz.pinned (.plain (OpenSpec.ofChange fnExprWordsSpec)) fnExprWordsCard

/-- THE TIED CARD OF 'laws.FnExprLast'. -/
def fnExprLastCard : Claim7 := { stood := { row := fnExprLastRow, standIns := [], harness := (true, "1ba372455362d8308537e50782232f5108dfa5218fd8276efa2f30edc5358766"), looks := true }, kinds := [], alts := [], laidByText := true, laidKinds := [.data, .data, .data, .sentinel, .sentinel], laidTests := true, laidLooks := .later }
def FnExprLastCardSaid : Prop := Claim7.holds Tryz.pinned (.plain (OpenSpec.ofChange fnExprLastSpec)) fnExprLastCard

/-- THE TIED CARD OF 'laws.FnExprPut'. -/
def fnExprPutCard : Claim7 := { stood := { row := fnExprPutRow, standIns := [], harness := (true, "1ba372455362d8308537e50782232f5108dfa5218fd8276efa2f30edc5358766"), looks := true }, kinds := [], alts := [], laidByText := true, laidKinds := [.data, .data, .data, .sentinel, .sentinel], laidTests := true, laidLooks := .later }
def FnExprPutCardSaid : Prop := Claim7.holds Tryz.pinned (.plain (OpenSpec.ofChange fnExprPutSpec)) fnExprPutCard

/-- THE TIED CARD OF 'laws.FnExprSwap'. -/
def fnExprSwapCard : Claim7 := { stood := { row := fnExprSwapRow, standIns := [], harness := (true, "1ba372455362d8308537e50782232f5108dfa5218fd8276efa2f30edc5358766"), looks := true }, kinds := [], alts := [], laidByText := true, laidKinds := [.data, .data, .data, .sentinel, .sentinel], laidTests := true, laidLooks := .later }
def FnExprSwapCardSaid : Prop := Claim7.holds Tryz.pinned (.plain (OpenSpec.ofChange fnExprSwapSpec)) fnExprSwapCard

/-- THE TIED CARD OF 'laws.FnExprLeft'. -/
def fnExprLeftCard : Claim7 := { stood := { row := fnExprLeftRow, standIns := [], harness := (true, "1ba372455362d8308537e50782232f5108dfa5218fd8276efa2f30edc5358766"), looks := true }, kinds := [], alts := [], laidByText := true, laidKinds := [.data, .data, .data, .sentinel, .sentinel], laidTests := true, laidLooks := .later }
def FnExprLeftCardSaid : Prop := Claim7.holds Tryz.pinned (.plain (OpenSpec.ofChange fnExprLeftSpec)) fnExprLeftCard

/-- THE TIED CARD OF 'laws.FnExprOne'. -/
def fnExprOneCard : Claim7 := { stood := { row := fnExprOneRow, standIns := [], harness := (true, "1ba372455362d8308537e50782232f5108dfa5218fd8276efa2f30edc5358766"), looks := true }, kinds := [], alts := [], laidByText := true, laidKinds := [.data, .data, .data, .sentinel, .sentinel], laidTests := true, laidLooks := .later }
def FnExprOneCardSaid : Prop := Claim7.holds Tryz.pinned (.plain (OpenSpec.ofChange fnExprOneSpec)) fnExprOneCard

/-- THE TIED CARD OF 'laws.FnExprCast'. -/
def fnExprCastCard : Claim7 := { stood := { row := fnExprCastRow, standIns := [], harness := (true, "1ba372455362d8308537e50782232f5108dfa5218fd8276efa2f30edc5358766"), looks := true }, kinds := [], alts := [], laidByText := true, laidKinds := [.data, .data, .data, .sentinel, .sentinel], laidTests := true, laidLooks := .later }
def FnExprCastCardSaid : Prop := Claim7.holds Tryz.pinned (.plain (OpenSpec.ofChange fnExprCastSpec)) fnExprCastCard

/-- THE TIED CARD OF 'laws.FnExactExprRead'. -/
def fnExactExprReadCard : Claim7 := { stood := { row := fnExactExprReadRow, standIns := [], harness := (true, "1ba372455362d8308537e50782232f5108dfa5218fd8276efa2f30edc5358766"), looks := true }, kinds := [], alts := [], laidByText := true, laidKinds := [.data, .data, .data, .sentinel, .sentinel], laidTests := true, laidLooks := .later }
def FnExactExprReadCardSaid : Prop := Claim7.holds Tryz.pinned (.plain (OpenSpec.ofChange fnExactExprReadSpec)) fnExactExprReadCard

/-- THE SECOND FORM's CARD OF 'laws.FnExpr'. -/
def fnExprUptoCard : Claim7 := { stood := { row := fnExprUptoRow, standIns := [], harness := (true, "1ba372455362d8308537e50782232f5108dfa5218fd8276efa2f30edc5358766"), looks := true }, kinds := [], alts := [], laidByText := true, laidKinds := [.data, .data, .data, .sentinel, .sentinel], laidTests := true, laidLooks := .later }
def FnExprUptoCardSaid : Prop := Claim7.holds Tryz.pinned (.plain (OpenSpec.upto fnExprSpec)) fnExprUptoCard

/-- THE SECOND FORM's CARD OF 'laws.FnExprBare'. -/
def fnExprBareUptoCard : Claim7 := { stood := { row := fnExprBareUptoRow, standIns := [], harness := (true, "1ba372455362d8308537e50782232f5108dfa5218fd8276efa2f30edc5358766"), looks := true }, kinds := [], alts := [], laidByText := true, laidKinds := [.data, .data, .data, .sentinel, .sentinel], laidTests := true, laidLooks := .later }
def FnExprBareUptoCardSaid : Prop := Claim7.holds Tryz.pinned (.plain (OpenSpec.upto fnExprBareSpec)) fnExprBareUptoCard

/-- THE SECOND FORM's CARD OF 'laws.FnExprSame'. -/
def fnExprSameUptoCard : Claim7 := { stood := { row := fnExprSameUptoRow, standIns := [], harness := (true, "1ba372455362d8308537e50782232f5108dfa5218fd8276efa2f30edc5358766"), looks := true }, kinds := [], alts := [], laidByText := true, laidKinds := [.data, .data, .data, .sentinel, .sentinel], laidTests := true, laidLooks := .later }
def FnExprSameUptoCardSaid : Prop := Claim7.holds Tryz.pinned (.plain (OpenSpec.upto fnExprSameSpec)) fnExprSameUptoCard

/-- THE SECOND FORM's CARD OF 'laws.FnExprWords'. -/
def fnExprWordsUptoCard : Claim7 := { stood := { row := fnExprWordsUptoRow, standIns := [], harness := (true, "1ba372455362d8308537e50782232f5108dfa5218fd8276efa2f30edc5358766"), looks := true }, kinds := [], alts := [], laidByText := true, laidKinds := [.data, .data, .data, .sentinel, .sentinel], laidTests := true, laidLooks := .later }
def FnExprWordsUptoCardSaid : Prop := Claim7.holds Tryz.pinned (.plain (OpenSpec.upto fnExprWordsSpec)) fnExprWordsUptoCard

/-- THE SECOND FORM's CARD OF 'laws.FnExprLast'. -/
def fnExprLastUptoCard : Claim7 := { stood := { row := fnExprLastUptoRow, standIns := [], harness := (true, "1ba372455362d8308537e50782232f5108dfa5218fd8276efa2f30edc5358766"), looks := true }, kinds := [], alts := [], laidByText := true, laidKinds := [.data, .data, .data, .sentinel, .sentinel], laidTests := true, laidLooks := .later }
def FnExprLastUptoCardSaid : Prop := Claim7.holds Tryz.pinned (.plain (OpenSpec.upto fnExprLastSpec)) fnExprLastUptoCard

/-- THE SECOND FORM's CARD OF 'laws.FnExprPut'. -/
def fnExprPutUptoCard : Claim7 := { stood := { row := fnExprPutUptoRow, standIns := [], harness := (true, "1ba372455362d8308537e50782232f5108dfa5218fd8276efa2f30edc5358766"), looks := true }, kinds := [], alts := [], laidByText := true, laidKinds := [.data, .data, .data, .sentinel, .sentinel], laidTests := true, laidLooks := .later }
def FnExprPutUptoCardSaid : Prop := Claim7.holds Tryz.pinned (.plain (OpenSpec.upto fnExprPutSpec)) fnExprPutUptoCard

/-- THE SECOND FORM's CARD OF 'laws.FnExprSwap'. -/
def fnExprSwapUptoCard : Claim7 := { stood := { row := fnExprSwapUptoRow, standIns := [], harness := (true, "1ba372455362d8308537e50782232f5108dfa5218fd8276efa2f30edc5358766"), looks := true }, kinds := [], alts := [], laidByText := true, laidKinds := [.data, .data, .data, .sentinel, .sentinel], laidTests := true, laidLooks := .later }
def FnExprSwapUptoCardSaid : Prop := Claim7.holds Tryz.pinned (.plain (OpenSpec.upto fnExprSwapSpec)) fnExprSwapUptoCard

/-- THE SECOND FORM's CARD OF 'laws.FnExprLeft'. -/
def fnExprLeftUptoCard : Claim7 := { stood := { row := fnExprLeftUptoRow, standIns := [], harness := (true, "1ba372455362d8308537e50782232f5108dfa5218fd8276efa2f30edc5358766"), looks := true }, kinds := [], alts := [], laidByText := true, laidKinds := [.data, .data, .data, .sentinel, .sentinel], laidTests := true, laidLooks := .later }
def FnExprLeftUptoCardSaid : Prop := Claim7.holds Tryz.pinned (.plain (OpenSpec.upto fnExprLeftSpec)) fnExprLeftUptoCard

/-- THE SECOND FORM's CARD OF 'laws.FnExprOne'. -/
def fnExprOneUptoCard : Claim7 := { stood := { row := fnExprOneUptoRow, standIns := [], harness := (true, "1ba372455362d8308537e50782232f5108dfa5218fd8276efa2f30edc5358766"), looks := true }, kinds := [], alts := [], laidByText := true, laidKinds := [.data, .data, .data, .sentinel, .sentinel], laidTests := true, laidLooks := .later }
def FnExprOneUptoCardSaid : Prop := Claim7.holds Tryz.pinned (.plain (OpenSpec.upto fnExprOneSpec)) fnExprOneUptoCard

/-- THE SECOND FORM's CARD OF 'laws.FnExprCast'. -/
def fnExprCastUptoCard : Claim7 := { stood := { row := fnExprCastUptoRow, standIns := [], harness := (true, "1ba372455362d8308537e50782232f5108dfa5218fd8276efa2f30edc5358766"), looks := true }, kinds := [], alts := [], laidByText := true, laidKinds := [.data, .data, .data, .sentinel, .sentinel], laidTests := true, laidLooks := .later }
def FnExprCastUptoCardSaid : Prop := Claim7.holds Tryz.pinned (.plain (OpenSpec.upto fnExprCastSpec)) fnExprCastUptoCard

/-- THE SECOND FORM's CARD OF 'laws.FnExactExprRead'. -/
def fnExactExprReadUptoCard : Claim7 := { stood := { row := fnExactExprReadUptoRow, standIns := [], harness := (true, "1ba372455362d8308537e50782232f5108dfa5218fd8276efa2f30edc5358766"), looks := true }, kinds := [], alts := [], laidByText := true, laidKinds := [.data, .data, .data, .sentinel, .sentinel], laidTests := true, laidLooks := .later }
def FnExactExprReadUptoCardSaid : Prop := Claim7.holds Tryz.pinned (.plain (OpenSpec.upto fnExactExprReadSpec)) fnExactExprReadUptoCard
end Rows
end Go.Proofs.YtggdlldagaggiaaGreatDoor
