/-
  DERIVED. GIVEN WITH THE SEED: THE CARDS: each row of YtaclndbilpaboaaGreatDoorRows.lean that lists a variable, with what it lists TIED to the program's text (the seventh form; the later family's looks); each row that meets fmt, with fmt's text TOLD by the authors' own Lean function (tested against real Go, not proved from fmt's source: count such statements apart). THE CARD IS WHAT COUNTS. Prove the row's statement (the work); the ties are given (YtaclndbilpaboaaGreatDoorTie.lean); close each card by the builder's one call (the guide's Derived/Test/ToyasCard.lean, 'card_holds'). Laid BY PROGRAM, IN A SANDBOX (cutbox-door.mjs). By AI agents, Wed Nov 11 2026. No macro, syntax, notation, axiom, sorry.
-/
import Derived.Test.YtaclndbilpaboaaGreatDoorRows
import GoSem.ClaimSeven
namespace Go.Proofs.YtaclndbilpaboaaGreatDoor
namespace Rows

/-- THE TIED CARD OF 'laws.FnExactExprType'. -/
def fnExactExprTypeCard : Claim7 := { stood := { row := fnExactExprTypeRow, standIns := [], harness := (true, "d59a752a42933f4c64dc0229007701c4457acaffb434023d5d2d208b9301664c"), looks := true }, kinds := [], alts := [], laidByText := true, laidKinds := [.data, .data, .data, .sentinel, .sentinel], laidTests := true, laidLooks := .later }
def FnExactExprTypeCardSaid : Prop := Claim7.holds Tryz.pinned (.plain (OpenSpec.ofChange fnExactExprTypeSpec)) fnExactExprTypeCard

/-- THE TIED CARD OF 'laws.FnExactExprOf'. -/
def fnExactExprOfCard : Claim7 := { stood := { row := fnExactExprOfRow, standIns := [], harness := (true, "d59a752a42933f4c64dc0229007701c4457acaffb434023d5d2d208b9301664c"), looks := true }, kinds := [], alts := [], laidByText := true, laidKinds := [.data, .data, .data, .sentinel, .sentinel], laidTests := true, laidLooks := .later }
def FnExactExprOfCardSaid : Prop := Claim7.holds Tryz.pinned (.plain (OpenSpec.ofChange fnExactExprOfSpec)) fnExactExprOfCard

/-- THE TIED CARD OF 'laws.FnExprType'. -/
def fnExprTypeCard : Claim7 := { stood := { row := fnExprTypeRow, standIns := [], harness := (true, "d59a752a42933f4c64dc0229007701c4457acaffb434023d5d2d208b9301664c"), looks := true }, kinds := [], alts := [], laidByText := true, laidKinds := [.data, .data, .data, .sentinel, .sentinel], laidTests := true, laidLooks := .later }
def FnExprTypeCardSaid : Prop := Claim7.holds Tryz.pinned (.plain (OpenSpec.ofChange fnExprTypeSpec)) fnExprTypeCard

/-- THE TIED CARD OF 'laws.FnExprOf'. -/
def fnExprOfCard : Claim7 := { stood := { row := fnExprOfRow, standIns := [], harness := (true, "d59a752a42933f4c64dc0229007701c4457acaffb434023d5d2d208b9301664c"), looks := true }, kinds := [], alts := [], laidByText := true, laidKinds := [.data, .data, .data, .sentinel, .sentinel], laidTests := true, laidLooks := .later }
def FnExprOfCardSaid : Prop := Claim7.holds Tryz.pinned (.plain (OpenSpec.ofChange fnExprOfSpec)) fnExprOfCard

/-- THE SECOND FORM's CARD OF 'laws.FnExactExprType'. -/
def fnExactExprTypeUptoCard : Claim7 := { stood := { row := fnExactExprTypeUptoRow, standIns := [], harness := (true, "d59a752a42933f4c64dc0229007701c4457acaffb434023d5d2d208b9301664c"), looks := true }, kinds := [], alts := [], laidByText := true, laidKinds := [.data, .data, .data, .sentinel, .sentinel], laidTests := true, laidLooks := .later }
def FnExactExprTypeUptoCardSaid : Prop := Claim7.holds Tryz.pinned (.plain (OpenSpec.upto fnExactExprTypeSpec)) fnExactExprTypeUptoCard

/-- THE SECOND FORM's CARD OF 'laws.FnExactExprOf'. -/
def fnExactExprOfUptoCard : Claim7 := { stood := { row := fnExactExprOfUptoRow, standIns := [], harness := (true, "d59a752a42933f4c64dc0229007701c4457acaffb434023d5d2d208b9301664c"), looks := true }, kinds := [], alts := [], laidByText := true, laidKinds := [.data, .data, .data, .sentinel, .sentinel], laidTests := true, laidLooks := .later }
def FnExactExprOfUptoCardSaid : Prop := Claim7.holds Tryz.pinned (.plain (OpenSpec.upto fnExactExprOfSpec)) fnExactExprOfUptoCard

/-- THE SECOND FORM's CARD OF 'laws.FnExprType'. -/
def fnExprTypeUptoCard : Claim7 := { stood := { row := fnExprTypeUptoRow, standIns := [], harness := (true, "d59a752a42933f4c64dc0229007701c4457acaffb434023d5d2d208b9301664c"), looks := true }, kinds := [], alts := [], laidByText := true, laidKinds := [.data, .data, .data, .sentinel, .sentinel], laidTests := true, laidLooks := .later }
def FnExprTypeUptoCardSaid : Prop := Claim7.holds Tryz.pinned (.plain (OpenSpec.upto fnExprTypeSpec)) fnExprTypeUptoCard

/-- THE SECOND FORM's CARD OF 'laws.FnExprOf'. -/
def fnExprOfUptoCard : Claim7 := { stood := { row := fnExprOfUptoRow, standIns := [], harness := (true, "d59a752a42933f4c64dc0229007701c4457acaffb434023d5d2d208b9301664c"), looks := true }, kinds := [], alts := [], laidByText := true, laidKinds := [.data, .data, .data, .sentinel, .sentinel], laidTests := true, laidLooks := .later }
def FnExprOfUptoCardSaid : Prop := Claim7.holds Tryz.pinned (.plain (OpenSpec.upto fnExprOfSpec)) fnExprOfUptoCard
end Rows
end Go.Proofs.YtaclndbilpaboaaGreatDoor
