/-
  Plain mathematics of lines: what they hold, and when two are the same. No Go.
-/
import Derived.Test.YtggdlldagaggiabSameMath
namespace Go.Proofs.Ytggdlldagaggiab

/-- A line, as Go holds it. -/
structure St where
  kind : Int
  name : ByteArray
  typ : ByteArray
  e : Ex
  t : Ex
def St.wt (s : St) : Nat := s.name.size + s.typ.size + s.e.wt + s.t.wt
/-- Whether two are the same. -/
def sameS (a b : St) : Bool := decide (a.kind = b.kind) && (decide (a.name = b.name) && (decide (a.typ = b.typ) && (sameE a.e b.e && sameE a.t b.t)))
theorem sameS_iff (a b : St) : sameS a b = true ↔ a = b := by
  obtain ⟨k, n, t, x, y⟩ := a
  obtain ⟨k', n', t', x', y'⟩ := b
  simp [sameS, sameE_iff]
theorem sameS_self (a : St) : sameS a a = true := (sameS_iff a a).2 rfl
end Go.Proofs.Ytggdlldagaggiab
