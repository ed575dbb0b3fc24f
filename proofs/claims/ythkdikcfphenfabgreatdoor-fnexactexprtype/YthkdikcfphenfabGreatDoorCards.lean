/-
  DERIVED. GIVEN WITH THE SEED: THE CARDS: each row of YthkdikcfphenfabGreatDoorRows.lean that lists a variable, with what it lists TIED to the program's text (the seventh form; the later family's looks); each row that meets fmt, with fmt's text TOLD by the authors' own Lean function (tested against real Go, not proved from fmt's source: count such statements apart). THE CARD IS WHAT COUNTS. Prove the row's statement (the work); the ties are given (YthkdikcfphenfabGreatDoorTie.lean); close each card by the builder's one call (the guide's Derived/Test/ToyasCard.lean, 'card_holds'). Laid BY PROGRAM, IN A SANDBOX (cutbox-door.mjs). By AI agents, Wed Nov 11 2026. No macro, syntax, notation, axiom, sorry.
-/
import Derived.Test.YthkdikcfphenfabGreatDoorRows
import GoSem.ClaimSeven
namespace Go.Proofs.YthkdikcfphenfabGreatDoor
namespace Rows

/-- THE TIED CARD OF 'laws.FnExprCast'. -/
def fnExprCastCard : Claim7 := { stood := { row := fnExprCastRow, standIns := [], harness := (true, "1a798c73b11533e64e396539df1f790b9c449264c719847a7c3e2851e510f851"), looks := true }, kinds := [], alts := [], laidByText := true, laidKinds := [.data, .data, .data, .sentinel, .sentinel], laidTests := true, laidLooks := .later }
def FnExprCastCardSaid : Prop := Claim7.holds Tryz.pinned (.plain (OpenSpec.ofChange fnExprCastSpec)) fnExprCastCard

/-- THE TIED CARD OF 'laws.FnExactExprRead'. -/
def fnExactExprReadCard : Claim7 := { stood := { row := fnExactExprReadRow, standIns := [], harness := (true, "1a798c73b11533e64e396539df1f790b9c449264c719847a7c3e2851e510f851"), looks := true }, kinds := [], alts := [], laidByText := true, laidKinds := [.data, .data, .data, .sentinel, .sentinel], laidTests := true, laidLooks := .later }
def FnExactExprReadCardSaid : Prop := Claim7.holds Tryz.pinned (.plain (OpenSpec.ofChange fnExactExprReadSpec)) fnExactExprReadCard

/-- THE TIED CARD OF 'laws.FnExactExprType'. -/
def fnExactExprTypeCard : Claim7 := { stood := { row := fnExactExprTypeRow, standIns := [], harness := (true, "1a798c73b11533e64e396539df1f790b9c449264c719847a7c3e2851e510f851"), looks := true }, kinds := [], alts := [], laidByText := true, laidKinds := [.data, .data, .data, .sentinel, .sentinel], laidTests := true, laidLooks := .later }
def FnExactExprTypeCardSaid : Prop := Claim7.holds Tryz.pinned (.plain (OpenSpec.ofChange fnExactExprTypeSpec)) fnExactExprTypeCard

/-- THE TIED CARD OF 'laws.FnExactExprOf'. -/
def fnExactExprOfCard : Claim7 := { stood := { row := fnExactExprOfRow, standIns := [], harness := (true, "1a798c73b11533e64e396539df1f790b9c449264c719847a7c3e2851e510f851"), looks := true }, kinds := [], alts := [], laidByText := true, laidKinds := [.data, .data, .data, .sentinel, .sentinel], laidTests := true, laidLooks := .later }
def FnExactExprOfCardSaid : Prop := Claim7.holds Tryz.pinned (.plain (OpenSpec.ofChange fnExactExprOfSpec)) fnExactExprOfCard

/-- THE SECOND FORM's CARD OF 'laws.FnExprCast'. -/
def fnExprCastUptoCard : Claim7 := { stood := { row := fnExprCastUptoRow, standIns := [], harness := (true, "1a798c73b11533e64e396539df1f790b9c449264c719847a7c3e2851e510f851"), looks := true }, kinds := [], alts := [], laidByText := true, laidKinds := [.data, .data, .data, .sentinel, .sentinel], laidTests := true, laidLooks := .later }
def FnExprCastUptoCardSaid : Prop := Claim7.holds Tryz.pinned (.plain (OpenSpec.upto fnExprCastSpec)) fnExprCastUptoCard

/-- THE SECOND FORM's CARD OF 'laws.FnExactExprRead'. -/
def fnExactExprReadUptoCard : Claim7 := { stood := { row := fnExactExprReadUptoRow, standIns := [], harness := (true, "1a798c73b11533e64e396539df1f790b9c449264c719847a7c3e2851e510f851"), looks := true }, kinds := [], alts := [], laidByText := true, laidKinds := [.data, .data, .data, .sentinel, .sentinel], laidTests := true, laidLooks := .later }
def FnExactExprReadUptoCardSaid : Prop := Claim7.holds Tryz.pinned (.plain (OpenSpec.upto fnExactExprReadSpec)) fnExactExprReadUptoCard

/-- THE SECOND FORM's CARD OF 'laws.FnExactExprType'. -/
def fnExactExprTypeUptoCard : Claim7 := { stood := { row := fnExactExprTypeUptoRow, standIns := [], harness := (true, "1a798c73b11533e64e396539df1f790b9c449264c719847a7c3e2851e510f851"), looks := true }, kinds := [], alts := [], laidByText := true, laidKinds := [.data, .data, .data, .sentinel, .sentinel], laidTests := true, laidLooks := .later }
def FnExactExprTypeUptoCardSaid : Prop := Claim7.holds Tryz.pinned (.plain (OpenSpec.upto fnExactExprTypeSpec)) fnExactExprTypeUptoCard

/-- THE SECOND FORM's CARD OF 'laws.FnExactExprOf'. -/
def fnExactExprOfUptoCard : Claim7 := { stood := { row := fnExactExprOfUptoRow, standIns := [], harness := (true, "1a798c73b11533e64e396539df1f790b9c449264c719847a7c3e2851e510f851"), looks := true }, kinds := [], alts := [], laidByText := true, laidKinds := [.data, .data, .data, .sentinel, .sentinel], laidTests := true, laidLooks := .later }
def FnExactExprOfUptoCardSaid : Prop := Claim7.holds Tryz.pinned (.plain (OpenSpec.upto fnExactExprOfSpec)) fnExactExprOfUptoCard
end Rows
end Go.Proofs.YthkdikcfphenfabGreatDoor
