/-
  DERIVED. GIVEN WITH THE SEED: THE CARDS: each row of YtaclndbilpaboaaDoorRows.lean that lists a variable, with what it lists TIED to the program's text (the seventh form; the later family's looks); each row that meets fmt, with fmt's text TOLD by the authors' own Lean function (tested against real Go, not proved from fmt's source: count such statements apart). THE CARD IS WHAT COUNTS. Prove the row's statement (the work); the ties are given (YtaclndbilpaboaaDoorTie.lean); close each card by the builder's one call (the guide's Derived/Test/ToyasCard.lean, 'card_holds'). Laid BY PROGRAM, IN A SANDBOX (cutbox-door.mjs). By AI agents, Wed Nov 11 2026. No macro, syntax, notation, axiom, sorry.
-/
import Derived.Test.YtaclndbilpaboaaDoorRows
import GoSem.ClaimSeven
namespace Go.Proofs.YtaclndbilpaboaaDoor
namespace Rows

/-- THE TIED CARD OF 'laws.FnExactExprOk'. -/
def fnExactExprOkCard : Claim7 := { stood := { row := fnExactExprOkRow, standIns := [], harness := (true, "458effa130e5440ecc25a60a7a08ba0ec3bc6484c6fcde7230d9dc0308758b65"), looks := true }, kinds := [], alts := [], laidByText := true, laidKinds := [.data, .data, .data, .sentinel, .sentinel], laidTests := true, laidLooks := .later }
def FnExactExprOkCardSaid : Prop := Claim7.holds Tryd.pinned (.plain (OpenSpec.ofChange fnExactExprOkSpec)) fnExactExprOkCard

/-- THE TIED CARD OF 'laws.FnExactExprWords'. -/
def fnExactExprWordsCard : Claim7 := { stood := { row := fnExactExprWordsRow, standIns := [], harness := (true, "458effa130e5440ecc25a60a7a08ba0ec3bc6484c6fcde7230d9dc0308758b65"), looks := true }, kinds := [], alts := [], laidByText := true, laidKinds := [.data, .data, .data, .sentinel, .sentinel], laidTests := true, laidLooks := .later }
def FnExactExprWordsCardSaid : Prop := Claim7.holds Tryd.pinned (.plain (OpenSpec.ofChange fnExactExprWordsSpec)) fnExactExprWordsCard

/-- THE TIED CARD OF 'laws.FnExactExprBare'. -/
def fnExactExprBareCard : Claim7 := { stood := { row := fnExactExprBareRow, standIns := [], harness := (true, "458effa130e5440ecc25a60a7a08ba0ec3bc6484c6fcde7230d9dc0308758b65"), looks := true }, kinds := [], alts := [], laidByText := true, laidKinds := [.data, .data, .data, .sentinel, .sentinel], laidTests := true, laidLooks := .later }
def FnExactExprBareCardSaid : Prop := Claim7.holds Tryd.pinned (.plain (OpenSpec.ofChange fnExactExprBareSpec)) fnExactExprBareCard

/-- THE TIED CARD OF 'laws.FnExprBent'. -/
def fnExprBentCard : Claim7 := { stood := { row := fnExprBentRow, standIns := [], harness := (true, "458effa130e5440ecc25a60a7a08ba0ec3bc6484c6fcde7230d9dc0308758b65"), looks := true }, kinds := [], alts := [], laidByText := true, laidKinds := [.data, .data, .data, .sentinel, .sentinel], laidTests := true, laidLooks := .later }
def FnExprBentCardSaid : Prop := Claim7.holds Tryd.pinned (.plain (OpenSpec.ofChange fnExprBentSpec)) fnExprBentCard

/-- THE SECOND FORM's CARD OF 'laws.FnExactExprOk'. -/
def fnExactExprOkUptoCard : Claim7 := { stood := { row := fnExactExprOkUptoRow, standIns := [], harness := (true, "458effa130e5440ecc25a60a7a08ba0ec3bc6484c6fcde7230d9dc0308758b65"), looks := true }, kinds := [], alts := [], laidByText := true, laidKinds := [.data, .data, .data, .sentinel, .sentinel], laidTests := true, laidLooks := .later }
def FnExactExprOkUptoCardSaid : Prop := Claim7.holds Tryd.pinned (.plain (OpenSpec.upto fnExactExprOkSpec)) fnExactExprOkUptoCard

/-- THE SECOND FORM's CARD OF 'laws.FnExactExprWords'. -/
def fnExactExprWordsUptoCard : Claim7 := { stood := { row := fnExactExprWordsUptoRow, standIns := [], harness := (true, "458effa130e5440ecc25a60a7a08ba0ec3bc6484c6fcde7230d9dc0308758b65"), looks := true }, kinds := [], alts := [], laidByText := true, laidKinds := [.data, .data, .data, .sentinel, .sentinel], laidTests := true, laidLooks := .later }
def FnExactExprWordsUptoCardSaid : Prop := Claim7.holds Tryd.pinned (.plain (OpenSpec.upto fnExactExprWordsSpec)) fnExactExprWordsUptoCard

/-- THE SECOND FORM's CARD OF 'laws.FnExactExprBare'. -/
def fnExactExprBareUptoCard : Claim7 := { stood := { row := fnExactExprBareUptoRow, standIns := [], harness := (true, "458effa130e5440ecc25a60a7a08ba0ec3bc6484c6fcde7230d9dc0308758b65"), looks := true }, kinds := [], alts := [], laidByText := true, laidKinds := [.data, .data, .data, .sentinel, .sentinel], laidTests := true, laidLooks := .later }
def FnExactExprBareUptoCardSaid : Prop := Claim7.holds Tryd.pinned (.plain (OpenSpec.upto fnExactExprBareSpec)) fnExactExprBareUptoCard

/-- THE SECOND FORM's CARD OF 'laws.FnExprBent'. -/
def fnExprBentUptoCard : Claim7 := { stood := { row := fnExprBentUptoRow, standIns := [], harness := (true, "458effa130e5440ecc25a60a7a08ba0ec3bc6484c6fcde7230d9dc0308758b65"), looks := true }, kinds := [], alts := [], laidByText := true, laidKinds := [.data, .data, .data, .sentinel, .sentinel], laidTests := true, laidLooks := .later }
def FnExprBentUptoCardSaid : Prop := Claim7.holds Tryd.pinned (.plain (OpenSpec.upto fnExprBentSpec)) fnExprBentUptoCard
end Rows
end Go.Proofs.YtaclndbilpaboaaDoor
