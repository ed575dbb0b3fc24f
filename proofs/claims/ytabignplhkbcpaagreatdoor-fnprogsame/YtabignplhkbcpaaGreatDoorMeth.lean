/-
  Parts as the program holds them: which type each has, and which function each method is.
-/
import Derived.Test.YtabignplhkbcpaaGreatDoorImplEx
import Derived.Shelf.Abstract
namespace Go.Proofs.YtabignplhkbcpaaGreatDoor
open Go.RowKit Go.Shelf

def ptT : Pt → TypeId
  | .num _ => 132
  | .name _ => 134
  | .two _ _ _ => 137
  | .as _ _ => 139
def ptU : Pt → Value
  | .num n => .agg #[.int .i64 n]
  | .name s => .agg #[.string s]
  | .two s a b => .agg #[.string s, partV a, partV b]
  | .as s a => .agg #[.string s, partV a]
theorem partV_at (p : Pt) : partV p = .iface (ptT p) (ptU p) := by cases p <;> rfl

/-- The method of this name, of this part, is this function. -/
structure Meth (nm : String) (t : TypeId) (u : Value) (f : Nat) : Prop where
  m : ∀ n w, (method (n + 1) t u nm).run Tryz.prog w = .ok (f, u) w
  a : ∀ n w, (nilAhead (n + 1) t u nm).run Tryz.prog w = .ok (some false) w
  n : ∀ args w, (callFunc f args).run Tryz.prog w = .ok (.enter f args) w
def fExpr : Pt → Nat
  | .num _ => 167
  | .name _ => 173
  | .two _ _ _ => 180
  | .as _ _ => 188
theorem meth_expr (p : Pt) : Meth "loop.example/interlinear/impl.expr" (ptT p) (ptU p) (fExpr p) := by
  cases p
  · exact ⟨fun n w => by kernel_rfl, fun n w => by kernel_rfl, enters_of Tryz.func167 (by kernel_rfl) rfl⟩
  · exact ⟨fun n w => by kernel_rfl, fun n w => by kernel_rfl, enters_of Tryz.func173 (by kernel_rfl) rfl⟩
  · exact ⟨fun n w => by kernel_rfl, fun n w => by kernel_rfl, enters_of Tryz.func180 (by kernel_rfl) rfl⟩
  · exact ⟨fun n w => by kernel_rfl, fun n w => by kernel_rfl, enters_of Tryz.func188 (by kernel_rfl) rfl⟩
def fHold : Pt → Nat
  | .num _ => 168
  | .name _ => 174
  | .two _ _ _ => 181
  | .as _ _ => 189
theorem meth_hold (p : Pt) : Meth "loop.example/interlinear/impl.hold" (ptT p) (ptU p) (fHold p) := by
  cases p
  · exact ⟨fun n w => by kernel_rfl, fun n w => by kernel_rfl, enters_of Tryz.func168 (by kernel_rfl) rfl⟩
  · exact ⟨fun n w => by kernel_rfl, fun n w => by kernel_rfl, enters_of Tryz.func174 (by kernel_rfl) rfl⟩
  · exact ⟨fun n w => by kernel_rfl, fun n w => by kernel_rfl, enters_of Tryz.func181 (by kernel_rfl) rfl⟩
  · exact ⟨fun n w => by kernel_rfl, fun n w => by kernel_rfl, enters_of Tryz.func189 (by kernel_rfl) rfl⟩
def fWrite : Pt → Nat
  | .num _ => 170
  | .name _ => 176
  | .two _ _ _ => 183
  | .as _ _ => 191
theorem meth_write (p : Pt) : Meth "loop.example/interlinear/impl.write" (ptT p) (ptU p) (fWrite p) := by
  cases p
  · exact ⟨fun n w => by kernel_rfl, fun n w => by kernel_rfl, enters_of Tryz.func170 (by kernel_rfl) rfl⟩
  · exact ⟨fun n w => by kernel_rfl, fun n w => by kernel_rfl, enters_of Tryz.func176 (by kernel_rfl) rfl⟩
  · exact ⟨fun n w => by kernel_rfl, fun n w => by kernel_rfl, enters_of Tryz.func183 (by kernel_rfl) rfl⟩
  · exact ⟨fun n w => by kernel_rfl, fun n w => by kernel_rfl, enters_of Tryz.func191 (by kernel_rfl) rfl⟩
def fTypeOf : Pt → Nat
  | .num _ => 169
  | .name _ => 175
  | .two _ _ _ => 182
  | .as _ _ => 190
theorem meth_typeOf (p : Pt) : Meth "loop.example/interlinear/impl.typeOf" (ptT p) (ptU p) (fTypeOf p) := by
  cases p
  · exact ⟨fun n w => by kernel_rfl, fun n w => by kernel_rfl, enters_of Tryz.func169 (by kernel_rfl) rfl⟩
  · exact ⟨fun n w => by kernel_rfl, fun n w => by kernel_rfl, enters_of Tryz.func175 (by kernel_rfl) rfl⟩
  · exact ⟨fun n w => by kernel_rfl, fun n w => by kernel_rfl, enters_of Tryz.func182 (by kernel_rfl) rfl⟩
  · exact ⟨fun n w => by kernel_rfl, fun n w => by kernel_rfl, enters_of Tryz.func190 (by kernel_rfl) rfl⟩
def fComesTo : Pt → Nat
  | .num _ => 166
  | .name _ => 172
  | .two _ _ _ => 179
  | .as _ _ => 187
theorem meth_comesTo (p : Pt) : Meth "loop.example/interlinear/impl.comesTo" (ptT p) (ptU p) (fComesTo p) := by
  cases p
  · exact ⟨fun n w => by kernel_rfl, fun n w => by kernel_rfl, enters_of Tryz.func166 (by kernel_rfl) rfl⟩
  · exact ⟨fun n w => by kernel_rfl, fun n w => by kernel_rfl, enters_of Tryz.func172 (by kernel_rfl) rfl⟩
  · exact ⟨fun n w => by kernel_rfl, fun n w => by kernel_rfl, enters_of Tryz.func179 (by kernel_rfl) rfl⟩
  · exact ⟨fun n w => by kernel_rfl, fun n w => by kernel_rfl, enters_of Tryz.func187 (by kernel_rfl) rfl⟩
end Go.Proofs.YtabignplhkbcpaaGreatDoor
