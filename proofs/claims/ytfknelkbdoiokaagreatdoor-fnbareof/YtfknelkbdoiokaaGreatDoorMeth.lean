/-
  Parts as the program holds them: which type each has, and which function each method is.
-/
import Derived.Test.YtfknelkbdoiokaaGreatDoorImplEx
import Derived.Shelf.Abstract
namespace Go.Proofs.YtfknelkbdoiokaaGreatDoor
open Go.RowKit Go.Shelf

def ptT : Pt → TypeId
  | .num _ => 202
  | .name _ => 204
  | .two _ _ _ => 206
  | .as _ _ => 208
def ptU : Pt → Value
  | .num n => .agg #[.int .i64 n]
  | .name s => .agg #[.string s]
  | .two s a b => .agg #[.string s, partV a, partV b]
  | .as s a => .agg #[.string s, partV a]
theorem partV_at (p : Pt) : partV p = .iface (ptT p) (ptU p) := by cases p <;> rfl

/-- The method of this name, of this part, is this function. -/
structure Meth (nm : String) (t : TypeId) (u : Value) (f : Nat) : Prop where
  m : ∀ n w, (method (n + 1) t u nm).run Tryz.prog w = .ok (f, u) w
  a : ∀ n w, (nilAhead (n + 1) t u nm).run Tryz.prog w = .ok (some false) w
  n : ∀ args w, (callFunc f args).run Tryz.prog w = .ok (.enter f args) w
def fBare : Pt → Nat
  | .num _ => 255
  | .name _ => 261
  | .two _ _ _ => 268
  | .as _ _ => 276
theorem meth_bare (p : Pt) : Meth "loop.example/interlinear/impl.bare" (ptT p) (ptU p) (fBare p) := by
  cases p
  · exact ⟨fun n w => by kernel_rfl, fun n w => by kernel_rfl, enters_of Tryz.func255 (by kernel_rfl) rfl⟩
  · exact ⟨fun n w => by kernel_rfl, fun n w => by kernel_rfl, enters_of Tryz.func261 (by kernel_rfl) rfl⟩
  · exact ⟨fun n w => by kernel_rfl, fun n w => by kernel_rfl, enters_of Tryz.func268 (by kernel_rfl) rfl⟩
  · exact ⟨fun n w => by kernel_rfl, fun n w => by kernel_rfl, enters_of Tryz.func276 (by kernel_rfl) rfl⟩
def fExpr : Pt → Nat
  | .num _ => 257
  | .name _ => 263
  | .two _ _ _ => 270
  | .as _ _ => 278
theorem meth_expr (p : Pt) : Meth "loop.example/interlinear/impl.expr" (ptT p) (ptU p) (fExpr p) := by
  cases p
  · exact ⟨fun n w => by kernel_rfl, fun n w => by kernel_rfl, enters_of Tryz.func257 (by kernel_rfl) rfl⟩
  · exact ⟨fun n w => by kernel_rfl, fun n w => by kernel_rfl, enters_of Tryz.func263 (by kernel_rfl) rfl⟩
  · exact ⟨fun n w => by kernel_rfl, fun n w => by kernel_rfl, enters_of Tryz.func270 (by kernel_rfl) rfl⟩
  · exact ⟨fun n w => by kernel_rfl, fun n w => by kernel_rfl, enters_of Tryz.func278 (by kernel_rfl) rfl⟩
def fHold : Pt → Nat
  | .num _ => 258
  | .name _ => 264
  | .two _ _ _ => 271
  | .as _ _ => 279
theorem meth_hold (p : Pt) : Meth "loop.example/interlinear/impl.hold" (ptT p) (ptU p) (fHold p) := by
  cases p
  · exact ⟨fun n w => by kernel_rfl, fun n w => by kernel_rfl, enters_of Tryz.func258 (by kernel_rfl) rfl⟩
  · exact ⟨fun n w => by kernel_rfl, fun n w => by kernel_rfl, enters_of Tryz.func264 (by kernel_rfl) rfl⟩
  · exact ⟨fun n w => by kernel_rfl, fun n w => by kernel_rfl, enters_of Tryz.func271 (by kernel_rfl) rfl⟩
  · exact ⟨fun n w => by kernel_rfl, fun n w => by kernel_rfl, enters_of Tryz.func279 (by kernel_rfl) rfl⟩
def fWrite : Pt → Nat
  | .num _ => 260
  | .name _ => 266
  | .two _ _ _ => 273
  | .as _ _ => 281
theorem meth_write (p : Pt) : Meth "loop.example/interlinear/impl.write" (ptT p) (ptU p) (fWrite p) := by
  cases p
  · exact ⟨fun n w => by kernel_rfl, fun n w => by kernel_rfl, enters_of Tryz.func260 (by kernel_rfl) rfl⟩
  · exact ⟨fun n w => by kernel_rfl, fun n w => by kernel_rfl, enters_of Tryz.func266 (by kernel_rfl) rfl⟩
  · exact ⟨fun n w => by kernel_rfl, fun n w => by kernel_rfl, enters_of Tryz.func273 (by kernel_rfl) rfl⟩
  · exact ⟨fun n w => by kernel_rfl, fun n w => by kernel_rfl, enters_of Tryz.func281 (by kernel_rfl) rfl⟩
def fTypeOf : Pt → Nat
  | .num _ => 259
  | .name _ => 265
  | .two _ _ _ => 272
  | .as _ _ => 280
theorem meth_typeOf (p : Pt) : Meth "loop.example/interlinear/impl.typeOf" (ptT p) (ptU p) (fTypeOf p) := by
  cases p
  · exact ⟨fun n w => by kernel_rfl, fun n w => by kernel_rfl, enters_of Tryz.func259 (by kernel_rfl) rfl⟩
  · exact ⟨fun n w => by kernel_rfl, fun n w => by kernel_rfl, enters_of Tryz.func265 (by kernel_rfl) rfl⟩
  · exact ⟨fun n w => by kernel_rfl, fun n w => by kernel_rfl, enters_of Tryz.func272 (by kernel_rfl) rfl⟩
  · exact ⟨fun n w => by kernel_rfl, fun n w => by kernel_rfl, enters_of Tryz.func280 (by kernel_rfl) rfl⟩
def fComesTo : Pt → Nat
  | .num _ => 256
  | .name _ => 262
  | .two _ _ _ => 269
  | .as _ _ => 277
theorem meth_comesTo (p : Pt) : Meth "loop.example/interlinear/impl.comesTo" (ptT p) (ptU p) (fComesTo p) := by
  cases p
  · exact ⟨fun n w => by kernel_rfl, fun n w => by kernel_rfl, enters_of Tryz.func256 (by kernel_rfl) rfl⟩
  · exact ⟨fun n w => by kernel_rfl, fun n w => by kernel_rfl, enters_of Tryz.func262 (by kernel_rfl) rfl⟩
  · exact ⟨fun n w => by kernel_rfl, fun n w => by kernel_rfl, enters_of Tryz.func269 (by kernel_rfl) rfl⟩
  · exact ⟨fun n w => by kernel_rfl, fun n w => by kernel_rfl, enters_of Tryz.func277 (by kernel_rfl) rfl⟩
end Go.Proofs.YtfknelkbdoiokaaGreatDoor
