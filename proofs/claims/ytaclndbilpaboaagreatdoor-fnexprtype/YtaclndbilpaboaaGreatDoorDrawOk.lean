/-
  What is drawn to be reckoned, by a code alone: the model's DrawExprOk, DrawExprWords.
-/
import Derived.Test.YtaclndbilpaboaaGreatDoorDrawEx2
namespace Go.Proofs.YtaclndbilpaboaaGreatDoor
open Go.RowKit

/-- Something to be reckoned was drawn, in memory of its own. -/
def DrawnE (w : World) (r : Ending) (w' : World) : Prop :=
  ∃ (e : Ex) (A : Option Addr) (c : Nat), r = .returned (.agg #[.int .i64 e.kind, .int .i64 e.n, .string e.s, .slice A e.kids.length c]) ∧ e.kids.length ≤ c ∧ OwnE w' e w.heap.size w'.heap.size A ∧ e.short ∧ e.wt ≤ 2000 ∧ Below w.heap.size w w'
end Go.Proofs.YtaclndbilpaboaaGreatDoor
