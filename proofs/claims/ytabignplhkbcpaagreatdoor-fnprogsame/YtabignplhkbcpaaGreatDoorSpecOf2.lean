/-
  The contracts of the model's ExprOf and ExprType, for all that can be read.
-/
import Derived.Test.YtabignplhkbcpaaGreatDoorSpecOf
namespace Go.Proofs.YtabignplhkbcpaaGreatDoor
open Go.RowKit

theorem okE_some {e : Ex} (h : okE e = true) : ∃ p, okP e = some p := by
  cases hp : okP e with
  | none => rw [← okP_isSome, hp] at h; cases h
  | some p => exact ⟨p, rfl⟩
theorem okE_none {e : Ex} (h : okE e = false) : okP e = none := by
  cases hp : okP e with
  | none => rfl
  | some p => rw [← okP_isSome, hp] at h; cases h
theorem kids_le {e : Ex} (hw : e.wt ≤ 2 ^ 40) : e.kids.length ≤ 2 ^ 40 := by
  obtain ⟨k, n, s, ks⟩ := e
  have := Ex.wts_length ks
  simp only [Ex.wt, Ex.kids] at hw ⊢
  omega

end Go.Proofs.YtabignplhkbcpaaGreatDoor
