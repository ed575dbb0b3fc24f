/-
  Plain mathematics of lines without types: what they hold, and when two are the same. No Go.
-/
import Derived.Test.YtkllhnhinealfaaSameMath
namespace Go.Proofs.Ytkllhnhinealfaa

/-- A line, as Go holds it. -/
structure Br where
  kind : Int
  name : ByteArray
  e : Ex
  t : Ex
def Br.wt (s : Br) : Nat := s.name.size + s.e.wt + s.t.wt
/-- Whether two are the same. -/
def sameB (a b : Br) : Bool := decide (a.kind = b.kind) && (decide (a.name = b.name) && (sameE a.e b.e && sameE a.t b.t))
theorem sameB_iff (a b : Br) : sameB a b = true ↔ a = b := by
  obtain ⟨k, n, x, y⟩ := a
  obtain ⟨k', n', x', y'⟩ := b
  simp [sameB, sameE_iff]
theorem sameB_self (a : Br) : sameB a a = true := (sameB_iff a a).2 rfl
end Go.Proofs.Ytkllhnhinealfaa
