/-
  Parts as the program holds them: which type each has, and which function each method is.
-/
import Derived.Test.YthkdikcfphenfaaDoorImplEx
import Derived.Shelf.Abstract
namespace Go.Proofs.YthkdikcfphenfaaDoor
open Go.RowKit Go.Shelf

def ptT : Pt → TypeId
  | .num _ => 54
  | .name _ => 56
  | .two _ _ _ => 59
  | .as _ _ => 61
def ptU : Pt → Value
  | .num n => .agg #[.int .i64 n]
  | .name s => .agg #[.string s]
  | .two s a b => .agg #[.string s, partV a, partV b]
  | .as s a => .agg #[.string s, partV a]
theorem partV_at (p : Pt) : partV p = .iface (ptT p) (ptU p) := by cases p <;> rfl

/-- The method of this name, of this part, is this function. -/
structure Meth (nm : String) (t : TypeId) (u : Value) (f : Nat) : Prop where
  m : ∀ n w, (method (n + 1) t u nm).run Tryd.prog w = .ok (f, u) w
  a : ∀ n w, (nilAhead (n + 1) t u nm).run Tryd.prog w = .ok (some false) w
  n : ∀ args w, (callFunc f args).run Tryd.prog w = .ok (.enter f args) w
def fHold : Pt → Nat
  | .num _ => 87
  | .name _ => 93
  | .two _ _ _ => 99
  | .as _ _ => 106
theorem meth_hold (p : Pt) : Meth "loop.example/interlinear/impl.hold" (ptT p) (ptU p) (fHold p) := by
  cases p
  · exact ⟨fun n w => by kernel_rfl, fun n w => by kernel_rfl, enters_of Tryd.func87 (by kernel_rfl) rfl⟩
  · exact ⟨fun n w => by kernel_rfl, fun n w => by kernel_rfl, enters_of Tryd.func93 (by kernel_rfl) rfl⟩
  · exact ⟨fun n w => by kernel_rfl, fun n w => by kernel_rfl, enters_of Tryd.func99 (by kernel_rfl) rfl⟩
  · exact ⟨fun n w => by kernel_rfl, fun n w => by kernel_rfl, enters_of Tryd.func106 (by kernel_rfl) rfl⟩
def fWrite : Pt → Nat
  | .num _ => 89
  | .name _ => 95
  | .two _ _ _ => 101
  | .as _ _ => 108
theorem meth_write (p : Pt) : Meth "loop.example/interlinear/impl.write" (ptT p) (ptU p) (fWrite p) := by
  cases p
  · exact ⟨fun n w => by kernel_rfl, fun n w => by kernel_rfl, enters_of Tryd.func89 (by kernel_rfl) rfl⟩
  · exact ⟨fun n w => by kernel_rfl, fun n w => by kernel_rfl, enters_of Tryd.func95 (by kernel_rfl) rfl⟩
  · exact ⟨fun n w => by kernel_rfl, fun n w => by kernel_rfl, enters_of Tryd.func101 (by kernel_rfl) rfl⟩
  · exact ⟨fun n w => by kernel_rfl, fun n w => by kernel_rfl, enters_of Tryd.func108 (by kernel_rfl) rfl⟩
end Go.Proofs.YthkdikcfphenfaaDoor
