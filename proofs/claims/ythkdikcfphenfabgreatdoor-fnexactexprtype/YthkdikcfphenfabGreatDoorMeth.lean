/-
  Parts as the program holds them: which type each has, and which function each method is.
-/
import Derived.Test.YthkdikcfphenfabGreatDoorImplEx
import Derived.Shelf.Abstract
namespace Go.Proofs.YthkdikcfphenfabGreatDoor
open Go.RowKit Go.Shelf

def ptT : Pt → TypeId
  | .num _ => 115
  | .name _ => 117
  | .two _ _ _ => 108
  | .as _ _ => 119
def ptU : Pt → Value
  | .num n => .agg #[.int .i64 n]
  | .name s => .agg #[.string s]
  | .two s a b => .agg #[.string s, partV a, partV b]
  | .as s a => .agg #[.string s, partV a]
theorem partV_at (p : Pt) : partV p = .iface (ptT p) (ptU p) := by cases p <;> rfl

/-- The method of this name, of this part, is this function. -/
structure Meth (nm : String) (t : TypeId) (u : Value) (f : Nat) : Prop where
  m : ∀ n w, (method (n + 1) t u nm).run Tryz.prog w = .ok (f, u) w
  a : ∀ n w, (nilAhead (n + 1) t u nm).run Tryz.prog w = .ok (some false) w
  n : ∀ args w, (callFunc f args).run Tryz.prog w = .ok (.enter f args) w
def fBare : Pt → Nat
  | .num _ => 155
  | .name _ => 161
  | .two _ _ _ => 146
  | .as _ _ => 167
theorem meth_bare (p : Pt) : Meth "loop.example/interlinear/impl.bare" (ptT p) (ptU p) (fBare p) := by
  cases p
  · exact ⟨fun n w => by kernel_rfl, fun n w => by kernel_rfl, enters_of Tryz.func155 (by kernel_rfl) rfl⟩
  · exact ⟨fun n w => by kernel_rfl, fun n w => by kernel_rfl, enters_of Tryz.func161 (by kernel_rfl) rfl⟩
  · exact ⟨fun n w => by kernel_rfl, fun n w => by kernel_rfl, enters_of Tryz.func146 (by kernel_rfl) rfl⟩
  · exact ⟨fun n w => by kernel_rfl, fun n w => by kernel_rfl, enters_of Tryz.func167 (by kernel_rfl) rfl⟩
def fExpr : Pt → Nat
  | .num _ => 157
  | .name _ => 163
  | .two _ _ _ => 148
  | .as _ _ => 169
theorem meth_expr (p : Pt) : Meth "loop.example/interlinear/impl.expr" (ptT p) (ptU p) (fExpr p) := by
  cases p
  · exact ⟨fun n w => by kernel_rfl, fun n w => by kernel_rfl, enters_of Tryz.func157 (by kernel_rfl) rfl⟩
  · exact ⟨fun n w => by kernel_rfl, fun n w => by kernel_rfl, enters_of Tryz.func163 (by kernel_rfl) rfl⟩
  · exact ⟨fun n w => by kernel_rfl, fun n w => by kernel_rfl, enters_of Tryz.func148 (by kernel_rfl) rfl⟩
  · exact ⟨fun n w => by kernel_rfl, fun n w => by kernel_rfl, enters_of Tryz.func169 (by kernel_rfl) rfl⟩
def fHold : Pt → Nat
  | .num _ => 158
  | .name _ => 164
  | .two _ _ _ => 149
  | .as _ _ => 170
theorem meth_hold (p : Pt) : Meth "loop.example/interlinear/impl.hold" (ptT p) (ptU p) (fHold p) := by
  cases p
  · exact ⟨fun n w => by kernel_rfl, fun n w => by kernel_rfl, enters_of Tryz.func158 (by kernel_rfl) rfl⟩
  · exact ⟨fun n w => by kernel_rfl, fun n w => by kernel_rfl, enters_of Tryz.func164 (by kernel_rfl) rfl⟩
  · exact ⟨fun n w => by kernel_rfl, fun n w => by kernel_rfl, enters_of Tryz.func149 (by kernel_rfl) rfl⟩
  · exact ⟨fun n w => by kernel_rfl, fun n w => by kernel_rfl, enters_of Tryz.func170 (by kernel_rfl) rfl⟩
def fWrite : Pt → Nat
  | .num _ => 160
  | .name _ => 166
  | .two _ _ _ => 151
  | .as _ _ => 172
theorem meth_write (p : Pt) : Meth "loop.example/interlinear/impl.write" (ptT p) (ptU p) (fWrite p) := by
  cases p
  · exact ⟨fun n w => by kernel_rfl, fun n w => by kernel_rfl, enters_of Tryz.func160 (by kernel_rfl) rfl⟩
  · exact ⟨fun n w => by kernel_rfl, fun n w => by kernel_rfl, enters_of Tryz.func166 (by kernel_rfl) rfl⟩
  · exact ⟨fun n w => by kernel_rfl, fun n w => by kernel_rfl, enters_of Tryz.func151 (by kernel_rfl) rfl⟩
  · exact ⟨fun n w => by kernel_rfl, fun n w => by kernel_rfl, enters_of Tryz.func172 (by kernel_rfl) rfl⟩
def fTypeOf : Pt → Nat
  | .num _ => 159
  | .name _ => 165
  | .two _ _ _ => 150
  | .as _ _ => 171
theorem meth_typeOf (p : Pt) : Meth "loop.example/interlinear/impl.typeOf" (ptT p) (ptU p) (fTypeOf p) := by
  cases p
  · exact ⟨fun n w => by kernel_rfl, fun n w => by kernel_rfl, enters_of Tryz.func159 (by kernel_rfl) rfl⟩
  · exact ⟨fun n w => by kernel_rfl, fun n w => by kernel_rfl, enters_of Tryz.func165 (by kernel_rfl) rfl⟩
  · exact ⟨fun n w => by kernel_rfl, fun n w => by kernel_rfl, enters_of Tryz.func150 (by kernel_rfl) rfl⟩
  · exact ⟨fun n w => by kernel_rfl, fun n w => by kernel_rfl, enters_of Tryz.func171 (by kernel_rfl) rfl⟩
def fComesTo : Pt → Nat
  | .num _ => 156
  | .name _ => 162
  | .two _ _ _ => 147
  | .as _ _ => 168
theorem meth_comesTo (p : Pt) : Meth "loop.example/interlinear/impl.comesTo" (ptT p) (ptU p) (fComesTo p) := by
  cases p
  · exact ⟨fun n w => by kernel_rfl, fun n w => by kernel_rfl, enters_of Tryz.func156 (by kernel_rfl) rfl⟩
  · exact ⟨fun n w => by kernel_rfl, fun n w => by kernel_rfl, enters_of Tryz.func162 (by kernel_rfl) rfl⟩
  · exact ⟨fun n w => by kernel_rfl, fun n w => by kernel_rfl, enters_of Tryz.func147 (by kernel_rfl) rfl⟩
  · exact ⟨fun n w => by kernel_rfl, fun n w => by kernel_rfl, enters_of Tryz.func168 (by kernel_rfl) rfl⟩
end Go.Proofs.YthkdikcfphenfabGreatDoor
