/-
  DERIVED. GIVEN WITH THE SEED: THE CARDS: each row of YthkdikcfphenfaaDoorRows.lean that lists a variable, with what it lists TIED to the program's text (the seventh form; the later family's looks); each row that meets fmt, with fmt's text TOLD by the authors' own Lean function (tested against real Go, not proved from fmt's source: count such statements apart). THE CARD IS WHAT COUNTS. Prove the row's statement (the work); the ties are given (YthkdikcfphenfaaDoorTie.lean); close each card by the builder's one call (the guide's Derived/Test/ToyasCard.lean, 'card_holds'). Laid BY PROGRAM, IN A SANDBOX (cutbox-door.mjs). By AI agents, Wed Nov 11 2026. No macro, syntax, notation, axiom, sorry.
-/
import Derived.Test.YthkdikcfphenfaaDoorRows
import GoSem.ClaimSeven
namespace Go.Proofs.YthkdikcfphenfaaDoor
namespace Rows

/-- THE TIED CARD OF 'laws.FnExprBent'. -/
def fnExprBentCard : Claim7 := { stood := { row := fnExprBentRow, standIns := [], harness := (true, "50c7c2649dabf8a439df868b5d9f0beef0dd58734672ec0b8619b5db79c8a1c1"), looks := true }, kinds := [], alts := [], laidByText := true, laidKinds := [.data, .data, .data, .sentinel, .sentinel], laidTests := true, laidLooks := .later }
def FnExprBentCardSaid : Prop := Claim7.holds Tryd.pinned (.plain (OpenSpec.ofChange fnExprBentSpec)) fnExprBentCard

/-- THE SECOND FORM's CARD OF 'laws.FnExprBent'. -/
def fnExprBentUptoCard : Claim7 := { stood := { row := fnExprBentUptoRow, standIns := [], harness := (true, "50c7c2649dabf8a439df868b5d9f0beef0dd58734672ec0b8619b5db79c8a1c1"), looks := true }, kinds := [], alts := [], laidByText := true, laidKinds := [.data, .data, .data, .sentinel, .sentinel], laidTests := true, laidLooks := .later }
def FnExprBentUptoCardSaid : Prop := Claim7.holds Tryd.pinned (.plain (OpenSpec.upto fnExprBentSpec)) fnExprBentUptoCard
end Rows
end Go.Proofs.YthkdikcfphenfaaDoor
