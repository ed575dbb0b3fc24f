/-
  The contract of the model's ExprWords, for all that can be read.
-/
import Derived.Test.YtabignplhkbcpaaGreatDoorGK
import Derived.Test.YtabignplhkbcpaaGreatDoorGL
namespace Go.Proofs.YtabignplhkbcpaaGreatDoor
open Go.RowKit

theorem Pt.at_one {p : Pt} (h : p.fine = true) : p.at 1 = p.words := by
  have hl : ¬ p.lvl < 1 := by
    cases p with
    | two s a b =>
      simp only [Pt.fine, Bool.and_eq_true, decide_eq_true_eq] at h
      simp only [Pt.lvl]
      omega
    | _ => simp [Pt.lvl]
  unfold Pt.at
  rw [decide_eq_false hl]
  rfl

end Go.Proofs.YtabignplhkbcpaaGreatDoor
