/-
  Parts as the program holds them: which type each has, and which function each method is.
-/
import Derived.Test.YtkfnbakhbbcfcaaGreatDoorImplEx
import Derived.Shelf.Abstract
namespace Go.Proofs.YtkfnbakhbbcfcaaGreatDoor
open Go.RowKit Go.Shelf

def ptT : Pt → TypeId
  | .num _ => 185
  | .name _ => 187
  | .two _ _ _ => 155
  | .as _ _ => 189
def ptU : Pt → Value
  | .num n => .agg #[.int .i64 n]
  | .name s => .agg #[.string s]
  | .two s a b => .agg #[.string s, partV a, partV b]
  | .as s a => .agg #[.string s, partV a]
theorem partV_at (p : Pt) : partV p = .iface (ptT p) (ptU p) := by cases p <;> rfl

/-- The method of this name, of this part, is this function. -/
structure Meth (nm : String) (t : TypeId) (u : Value) (f : Nat) : Prop where
  m : ∀ n w, (method (n + 1) t u nm).run Tryz.prog w = .ok (f, u) w
  a : ∀ n w, (nilAhead (n + 1) t u nm).run Tryz.prog w = .ok (some false) w
  n : ∀ args w, (callFunc f args).run Tryz.prog w = .ok (.enter f args) w
def fBare : Pt → Nat
  | .num _ => 245
  | .name _ => 251
  | .two _ _ _ => 224
  | .as _ _ => 257
theorem meth_bare (p : Pt) : Meth "loop.example/interlinear/impl.bare" (ptT p) (ptU p) (fBare p) := by
  cases p
  · exact ⟨fun n w => by kernel_rfl, fun n w => by kernel_rfl, enters_of Tryz.func245 (by kernel_rfl) rfl⟩
  · exact ⟨fun n w => by kernel_rfl, fun n w => by kernel_rfl, enters_of Tryz.func251 (by kernel_rfl) rfl⟩
  · exact ⟨fun n w => by kernel_rfl, fun n w => by kernel_rfl, enters_of Tryz.func224 (by kernel_rfl) rfl⟩
  · exact ⟨fun n w => by kernel_rfl, fun n w => by kernel_rfl, enters_of Tryz.func257 (by kernel_rfl) rfl⟩
def fExpr : Pt → Nat
  | .num _ => 247
  | .name _ => 253
  | .two _ _ _ => 226
  | .as _ _ => 259
theorem meth_expr (p : Pt) : Meth "loop.example/interlinear/impl.expr" (ptT p) (ptU p) (fExpr p) := by
  cases p
  · exact ⟨fun n w => by kernel_rfl, fun n w => by kernel_rfl, enters_of Tryz.func247 (by kernel_rfl) rfl⟩
  · exact ⟨fun n w => by kernel_rfl, fun n w => by kernel_rfl, enters_of Tryz.func253 (by kernel_rfl) rfl⟩
  · exact ⟨fun n w => by kernel_rfl, fun n w => by kernel_rfl, enters_of Tryz.func226 (by kernel_rfl) rfl⟩
  · exact ⟨fun n w => by kernel_rfl, fun n w => by kernel_rfl, enters_of Tryz.func259 (by kernel_rfl) rfl⟩
def fHold : Pt → Nat
  | .num _ => 248
  | .name _ => 254
  | .two _ _ _ => 227
  | .as _ _ => 260
theorem meth_hold (p : Pt) : Meth "loop.example/interlinear/impl.hold" (ptT p) (ptU p) (fHold p) := by
  cases p
  · exact ⟨fun n w => by kernel_rfl, fun n w => by kernel_rfl, enters_of Tryz.func248 (by kernel_rfl) rfl⟩
  · exact ⟨fun n w => by kernel_rfl, fun n w => by kernel_rfl, enters_of Tryz.func254 (by kernel_rfl) rfl⟩
  · exact ⟨fun n w => by kernel_rfl, fun n w => by kernel_rfl, enters_of Tryz.func227 (by kernel_rfl) rfl⟩
  · exact ⟨fun n w => by kernel_rfl, fun n w => by kernel_rfl, enters_of Tryz.func260 (by kernel_rfl) rfl⟩
def fWrite : Pt → Nat
  | .num _ => 250
  | .name _ => 256
  | .two _ _ _ => 229
  | .as _ _ => 262
theorem meth_write (p : Pt) : Meth "loop.example/interlinear/impl.write" (ptT p) (ptU p) (fWrite p) := by
  cases p
  · exact ⟨fun n w => by kernel_rfl, fun n w => by kernel_rfl, enters_of Tryz.func250 (by kernel_rfl) rfl⟩
  · exact ⟨fun n w => by kernel_rfl, fun n w => by kernel_rfl, enters_of Tryz.func256 (by kernel_rfl) rfl⟩
  · exact ⟨fun n w => by kernel_rfl, fun n w => by kernel_rfl, enters_of Tryz.func229 (by kernel_rfl) rfl⟩
  · exact ⟨fun n w => by kernel_rfl, fun n w => by kernel_rfl, enters_of Tryz.func262 (by kernel_rfl) rfl⟩
def fTypeOf : Pt → Nat
  | .num _ => 249
  | .name _ => 255
  | .two _ _ _ => 228
  | .as _ _ => 261
theorem meth_typeOf (p : Pt) : Meth "loop.example/interlinear/impl.typeOf" (ptT p) (ptU p) (fTypeOf p) := by
  cases p
  · exact ⟨fun n w => by kernel_rfl, fun n w => by kernel_rfl, enters_of Tryz.func249 (by kernel_rfl) rfl⟩
  · exact ⟨fun n w => by kernel_rfl, fun n w => by kernel_rfl, enters_of Tryz.func255 (by kernel_rfl) rfl⟩
  · exact ⟨fun n w => by kernel_rfl, fun n w => by kernel_rfl, enters_of Tryz.func228 (by kernel_rfl) rfl⟩
  · exact ⟨fun n w => by kernel_rfl, fun n w => by kernel_rfl, enters_of Tryz.func261 (by kernel_rfl) rfl⟩
def fComesTo : Pt → Nat
  | .num _ => 246
  | .name _ => 252
  | .two _ _ _ => 225
  | .as _ _ => 258
theorem meth_comesTo (p : Pt) : Meth "loop.example/interlinear/impl.comesTo" (ptT p) (ptU p) (fComesTo p) := by
  cases p
  · exact ⟨fun n w => by kernel_rfl, fun n w => by kernel_rfl, enters_of Tryz.func246 (by kernel_rfl) rfl⟩
  · exact ⟨fun n w => by kernel_rfl, fun n w => by kernel_rfl, enters_of Tryz.func252 (by kernel_rfl) rfl⟩
  · exact ⟨fun n w => by kernel_rfl, fun n w => by kernel_rfl, enters_of Tryz.func225 (by kernel_rfl) rfl⟩
  · exact ⟨fun n w => by kernel_rfl, fun n w => by kernel_rfl, enters_of Tryz.func258 (by kernel_rfl) rfl⟩
end Go.Proofs.YtkfnbakhbbcfcaaGreatDoor
