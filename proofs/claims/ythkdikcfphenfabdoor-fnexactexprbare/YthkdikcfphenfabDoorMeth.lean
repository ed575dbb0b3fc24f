/-
  Parts as the program holds them: which type each has, and which function each method is.
-/
import Derived.Test.YthkdikcfphenfabDoorImplEx
import Derived.Shelf.Abstract
namespace Go.Proofs.YthkdikcfphenfabDoor
open Go.RowKit Go.Shelf

def ptT : Pt → TypeId
  | .num _ => 61
  | .name _ => 63
  | .two _ _ _ => 66
  | .as _ _ => 68
def ptU : Pt → Value
  | .num n => .agg #[.int .i64 n]
  | .name s => .agg #[.string s]
  | .two s a b => .agg #[.string s, partV a, partV b]
  | .as s a => .agg #[.string s, partV a]
theorem partV_at (p : Pt) : partV p = .iface (ptT p) (ptU p) := by cases p <;> rfl

/-- The method of this name, of this part, is this function. -/
structure Meth (nm : String) (t : TypeId) (u : Value) (f : Nat) : Prop where
  m : ∀ n w, (method (n + 1) t u nm).run Tryd.prog w = .ok (f, u) w
  a : ∀ n w, (nilAhead (n + 1) t u nm).run Tryd.prog w = .ok (some false) w
  n : ∀ args w, (callFunc f args).run Tryd.prog w = .ok (.enter f args) w
def fBare : Pt → Nat
  | .num _ => 98
  | .name _ => 104
  | .two _ _ _ => 110
  | .as _ _ => 117
theorem meth_bare (p : Pt) : Meth "loop.example/interlinear/impl.bare" (ptT p) (ptU p) (fBare p) := by
  cases p
  · exact ⟨fun n w => by kernel_rfl, fun n w => by kernel_rfl, enters_of Tryd.func98 (by kernel_rfl) rfl⟩
  · exact ⟨fun n w => by kernel_rfl, fun n w => by kernel_rfl, enters_of Tryd.func104 (by kernel_rfl) rfl⟩
  · exact ⟨fun n w => by kernel_rfl, fun n w => by kernel_rfl, enters_of Tryd.func110 (by kernel_rfl) rfl⟩
  · exact ⟨fun n w => by kernel_rfl, fun n w => by kernel_rfl, enters_of Tryd.func117 (by kernel_rfl) rfl⟩
def fExpr : Pt → Nat
  | .num _ => 100
  | .name _ => 106
  | .two _ _ _ => 112
  | .as _ _ => 119
theorem meth_expr (p : Pt) : Meth "loop.example/interlinear/impl.expr" (ptT p) (ptU p) (fExpr p) := by
  cases p
  · exact ⟨fun n w => by kernel_rfl, fun n w => by kernel_rfl, enters_of Tryd.func100 (by kernel_rfl) rfl⟩
  · exact ⟨fun n w => by kernel_rfl, fun n w => by kernel_rfl, enters_of Tryd.func106 (by kernel_rfl) rfl⟩
  · exact ⟨fun n w => by kernel_rfl, fun n w => by kernel_rfl, enters_of Tryd.func112 (by kernel_rfl) rfl⟩
  · exact ⟨fun n w => by kernel_rfl, fun n w => by kernel_rfl, enters_of Tryd.func119 (by kernel_rfl) rfl⟩
def fHold : Pt → Nat
  | .num _ => 101
  | .name _ => 107
  | .two _ _ _ => 113
  | .as _ _ => 120
theorem meth_hold (p : Pt) : Meth "loop.example/interlinear/impl.hold" (ptT p) (ptU p) (fHold p) := by
  cases p
  · exact ⟨fun n w => by kernel_rfl, fun n w => by kernel_rfl, enters_of Tryd.func101 (by kernel_rfl) rfl⟩
  · exact ⟨fun n w => by kernel_rfl, fun n w => by kernel_rfl, enters_of Tryd.func107 (by kernel_rfl) rfl⟩
  · exact ⟨fun n w => by kernel_rfl, fun n w => by kernel_rfl, enters_of Tryd.func113 (by kernel_rfl) rfl⟩
  · exact ⟨fun n w => by kernel_rfl, fun n w => by kernel_rfl, enters_of Tryd.func120 (by kernel_rfl) rfl⟩
def fWrite : Pt → Nat
  | .num _ => 103
  | .name _ => 109
  | .two _ _ _ => 115
  | .as _ _ => 122
theorem meth_write (p : Pt) : Meth "loop.example/interlinear/impl.write" (ptT p) (ptU p) (fWrite p) := by
  cases p
  · exact ⟨fun n w => by kernel_rfl, fun n w => by kernel_rfl, enters_of Tryd.func103 (by kernel_rfl) rfl⟩
  · exact ⟨fun n w => by kernel_rfl, fun n w => by kernel_rfl, enters_of Tryd.func109 (by kernel_rfl) rfl⟩
  · exact ⟨fun n w => by kernel_rfl, fun n w => by kernel_rfl, enters_of Tryd.func115 (by kernel_rfl) rfl⟩
  · exact ⟨fun n w => by kernel_rfl, fun n w => by kernel_rfl, enters_of Tryd.func122 (by kernel_rfl) rfl⟩
end Go.Proofs.YthkdikcfphenfabDoor
