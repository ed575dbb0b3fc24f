/-
  Parts as the program holds them: which type each has, and which function each method is.
-/
import Derived.Test.YtodioplkgjpcjaaGreatDoorImplEx
import Derived.Shelf.Abstract
namespace Go.Proofs.YtodioplkgjpcjaaGreatDoor
open Go.RowKit Go.Shelf

def ptT : Pt → TypeId
  | .num _ => 163
  | .name _ => 165
  | .two _ _ _ => 131
  | .as _ _ => 167
def ptU : Pt → Value
  | .num n => .agg #[.int .i64 n]
  | .name s => .agg #[.string s]
  | .two s a b => .agg #[.string s, partV a, partV b]
  | .as s a => .agg #[.string s, partV a]
theorem partV_at (p : Pt) : partV p = .iface (ptT p) (ptU p) := by cases p <;> rfl

/-- The method of this name, of this part, is this function. -/
structure Meth (nm : String) (t : TypeId) (u : Value) (f : Nat) : Prop where
  m : ∀ n w, (method (n + 1) t u nm).run Tryz.prog w = .ok (f, u) w
  a : ∀ n w, (nilAhead (n + 1) t u nm).run Tryz.prog w = .ok (some false) w
  n : ∀ args w, (callFunc f args).run Tryz.prog w = .ok (.enter f args) w
def fExpr : Pt → Nat
  | .num _ => 212
  | .name _ => 218
  | .two _ _ _ => 191
  | .as _ _ => 224
theorem meth_expr (p : Pt) : Meth "loop.example/interlinear/impl.expr" (ptT p) (ptU p) (fExpr p) := by
  cases p
  · exact ⟨fun n w => by kernel_rfl, fun n w => by kernel_rfl, enters_of Tryz.func212 (by kernel_rfl) rfl⟩
  · exact ⟨fun n w => by kernel_rfl, fun n w => by kernel_rfl, enters_of Tryz.func218 (by kernel_rfl) rfl⟩
  · exact ⟨fun n w => by kernel_rfl, fun n w => by kernel_rfl, enters_of Tryz.func191 (by kernel_rfl) rfl⟩
  · exact ⟨fun n w => by kernel_rfl, fun n w => by kernel_rfl, enters_of Tryz.func224 (by kernel_rfl) rfl⟩
def fHold : Pt → Nat
  | .num _ => 213
  | .name _ => 219
  | .two _ _ _ => 192
  | .as _ _ => 225
theorem meth_hold (p : Pt) : Meth "loop.example/interlinear/impl.hold" (ptT p) (ptU p) (fHold p) := by
  cases p
  · exact ⟨fun n w => by kernel_rfl, fun n w => by kernel_rfl, enters_of Tryz.func213 (by kernel_rfl) rfl⟩
  · exact ⟨fun n w => by kernel_rfl, fun n w => by kernel_rfl, enters_of Tryz.func219 (by kernel_rfl) rfl⟩
  · exact ⟨fun n w => by kernel_rfl, fun n w => by kernel_rfl, enters_of Tryz.func192 (by kernel_rfl) rfl⟩
  · exact ⟨fun n w => by kernel_rfl, fun n w => by kernel_rfl, enters_of Tryz.func225 (by kernel_rfl) rfl⟩
def fWrite : Pt → Nat
  | .num _ => 215
  | .name _ => 221
  | .two _ _ _ => 194
  | .as _ _ => 227
theorem meth_write (p : Pt) : Meth "loop.example/interlinear/impl.write" (ptT p) (ptU p) (fWrite p) := by
  cases p
  · exact ⟨fun n w => by kernel_rfl, fun n w => by kernel_rfl, enters_of Tryz.func215 (by kernel_rfl) rfl⟩
  · exact ⟨fun n w => by kernel_rfl, fun n w => by kernel_rfl, enters_of Tryz.func221 (by kernel_rfl) rfl⟩
  · exact ⟨fun n w => by kernel_rfl, fun n w => by kernel_rfl, enters_of Tryz.func194 (by kernel_rfl) rfl⟩
  · exact ⟨fun n w => by kernel_rfl, fun n w => by kernel_rfl, enters_of Tryz.func227 (by kernel_rfl) rfl⟩
def fTypeOf : Pt → Nat
  | .num _ => 214
  | .name _ => 220
  | .two _ _ _ => 193
  | .as _ _ => 226
theorem meth_typeOf (p : Pt) : Meth "loop.example/interlinear/impl.typeOf" (ptT p) (ptU p) (fTypeOf p) := by
  cases p
  · exact ⟨fun n w => by kernel_rfl, fun n w => by kernel_rfl, enters_of Tryz.func214 (by kernel_rfl) rfl⟩
  · exact ⟨fun n w => by kernel_rfl, fun n w => by kernel_rfl, enters_of Tryz.func220 (by kernel_rfl) rfl⟩
  · exact ⟨fun n w => by kernel_rfl, fun n w => by kernel_rfl, enters_of Tryz.func193 (by kernel_rfl) rfl⟩
  · exact ⟨fun n w => by kernel_rfl, fun n w => by kernel_rfl, enters_of Tryz.func226 (by kernel_rfl) rfl⟩
def fComesTo : Pt → Nat
  | .num _ => 211
  | .name _ => 217
  | .two _ _ _ => 190
  | .as _ _ => 223
theorem meth_comesTo (p : Pt) : Meth "loop.example/interlinear/impl.comesTo" (ptT p) (ptU p) (fComesTo p) := by
  cases p
  · exact ⟨fun n w => by kernel_rfl, fun n w => by kernel_rfl, enters_of Tryz.func211 (by kernel_rfl) rfl⟩
  · exact ⟨fun n w => by kernel_rfl, fun n w => by kernel_rfl, enters_of Tryz.func217 (by kernel_rfl) rfl⟩
  · exact ⟨fun n w => by kernel_rfl, fun n w => by kernel_rfl, enters_of Tryz.func190 (by kernel_rfl) rfl⟩
  · exact ⟨fun n w => by kernel_rfl, fun n w => by kernel_rfl, enters_of Tryz.func223 (by kernel_rfl) rfl⟩
end Go.Proofs.YtodioplkgjpcjaaGreatDoor
