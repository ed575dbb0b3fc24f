/-
  The contract of the program's ExprWords, for all that can be read.
-/
import Derived.Test.YtabignplhkbcpaaGreatDoorMethWrite
import Derived.Test.YtabignplhkbcpaaGreatDoorExprOk
namespace Go.Proofs.YtabignplhkbcpaaGreatDoor
open Go.RowKit

/-- Its words; none of what is not ok. -/
def wordsE (e : Ex) : List ByteArray := match okP e with
  | some p => p.words
  | none => []
/-- These words are handed back, in memory of their own. -/
def Wordy (xs : List ByteArray) (w : World) (r : Ending) (w' : World) : Prop :=
  ∃ v, r = .returned v ∧ w'.ownsRow w.heap.size 9 1 v xs.length (xs.map strV) ∧ Below w.heap.size w w'
theorem ownsRow_nil (w : World) (B : Nat) (t : TypeId) : w.ownsRow B t 1 (.slice none 0 0) 0 [] := ⟨rfl, .inl ⟨rfl, rfl⟩⟩
theorem ownsRow_lower {w : World} {B C : Nat} {t : TypeId} {v : Value} {n : Nat} {xs : List Value} (h : w.ownsRow B t 1 v n xs) (hC : C ≤ B) : w.ownsRow C t 1 v n xs := by
  refine ⟨h.1, ?_⟩
  rcases h.2 with h0 | ⟨g, cap, cur, h1, h2, h3⟩
  · exact .inl h0
  · exact .inr ⟨g, cap, cur, h1, Nat.le_trans hC h2, h3⟩
end Go.Proofs.YtabignplhkbcpaaGreatDoor
