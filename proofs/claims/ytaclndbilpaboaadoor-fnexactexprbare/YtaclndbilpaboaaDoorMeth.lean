/-
  Parts as the program holds them: which type each has, and which function each method is.
-/
import Derived.Test.YtaclndbilpaboaaDoorImplEx
import Derived.Shelf.Abstract
namespace Go.Proofs.YtaclndbilpaboaaDoor
open Go.RowKit Go.Shelf

def ptT : Pt → TypeId
  | .num _ => 72
  | .name _ => 74
  | .two _ _ _ => 77
  | .as _ _ => 79
def ptU : Pt → Value
  | .num n => .agg #[.int .i64 n]
  | .name s => .agg #[.string s]
  | .two s a b => .agg #[.string s, partV a, partV b]
  | .as s a => .agg #[.string s, partV a]
theorem partV_at (p : Pt) : partV p = .iface (ptT p) (ptU p) := by cases p <;> rfl

/-- The method of this name, of this part, is this function. -/
structure Meth (nm : String) (t : TypeId) (u : Value) (f : Nat) : Prop where
  m : ∀ n w, (method (n + 1) t u nm).run Tryd.prog w = .ok (f, u) w
  a : ∀ n w, (nilAhead (n + 1) t u nm).run Tryd.prog w = .ok (some false) w
  n : ∀ args w, (callFunc f args).run Tryd.prog w = .ok (.enter f args) w
def fBare : Pt → Nat
  | .num _ => 108
  | .name _ => 114
  | .two _ _ _ => 120
  | .as _ _ => 127
theorem meth_bare (p : Pt) : Meth "loop.example/interlinear/impl.bare" (ptT p) (ptU p) (fBare p) := by
  cases p
  · exact ⟨fun n w => by kernel_rfl, fun n w => by kernel_rfl, enters_of Tryd.func108 (by kernel_rfl) rfl⟩
  · exact ⟨fun n w => by kernel_rfl, fun n w => by kernel_rfl, enters_of Tryd.func114 (by kernel_rfl) rfl⟩
  · exact ⟨fun n w => by kernel_rfl, fun n w => by kernel_rfl, enters_of Tryd.func120 (by kernel_rfl) rfl⟩
  · exact ⟨fun n w => by kernel_rfl, fun n w => by kernel_rfl, enters_of Tryd.func127 (by kernel_rfl) rfl⟩
def fExpr : Pt → Nat
  | .num _ => 110
  | .name _ => 116
  | .two _ _ _ => 122
  | .as _ _ => 129
theorem meth_expr (p : Pt) : Meth "loop.example/interlinear/impl.expr" (ptT p) (ptU p) (fExpr p) := by
  cases p
  · exact ⟨fun n w => by kernel_rfl, fun n w => by kernel_rfl, enters_of Tryd.func110 (by kernel_rfl) rfl⟩
  · exact ⟨fun n w => by kernel_rfl, fun n w => by kernel_rfl, enters_of Tryd.func116 (by kernel_rfl) rfl⟩
  · exact ⟨fun n w => by kernel_rfl, fun n w => by kernel_rfl, enters_of Tryd.func122 (by kernel_rfl) rfl⟩
  · exact ⟨fun n w => by kernel_rfl, fun n w => by kernel_rfl, enters_of Tryd.func129 (by kernel_rfl) rfl⟩
def fHold : Pt → Nat
  | .num _ => 111
  | .name _ => 117
  | .two _ _ _ => 123
  | .as _ _ => 130
theorem meth_hold (p : Pt) : Meth "loop.example/interlinear/impl.hold" (ptT p) (ptU p) (fHold p) := by
  cases p
  · exact ⟨fun n w => by kernel_rfl, fun n w => by kernel_rfl, enters_of Tryd.func111 (by kernel_rfl) rfl⟩
  · exact ⟨fun n w => by kernel_rfl, fun n w => by kernel_rfl, enters_of Tryd.func117 (by kernel_rfl) rfl⟩
  · exact ⟨fun n w => by kernel_rfl, fun n w => by kernel_rfl, enters_of Tryd.func123 (by kernel_rfl) rfl⟩
  · exact ⟨fun n w => by kernel_rfl, fun n w => by kernel_rfl, enters_of Tryd.func130 (by kernel_rfl) rfl⟩
def fWrite : Pt → Nat
  | .num _ => 113
  | .name _ => 119
  | .two _ _ _ => 125
  | .as _ _ => 132
theorem meth_write (p : Pt) : Meth "loop.example/interlinear/impl.write" (ptT p) (ptU p) (fWrite p) := by
  cases p
  · exact ⟨fun n w => by kernel_rfl, fun n w => by kernel_rfl, enters_of Tryd.func113 (by kernel_rfl) rfl⟩
  · exact ⟨fun n w => by kernel_rfl, fun n w => by kernel_rfl, enters_of Tryd.func119 (by kernel_rfl) rfl⟩
  · exact ⟨fun n w => by kernel_rfl, fun n w => by kernel_rfl, enters_of Tryd.func125 (by kernel_rfl) rfl⟩
  · exact ⟨fun n w => by kernel_rfl, fun n w => by kernel_rfl, enters_of Tryd.func132 (by kernel_rfl) rfl⟩
end Go.Proofs.YtaclndbilpaboaaDoor
