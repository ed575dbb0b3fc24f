/-
  Which deed it is: what the program's 'switch d := d.(type)' comes to at each type of a deed.
-/
import Derived.Test.YtfknelkbdoiokaaGreatDoorProg
import Derived.WalkKit
import Derived.WalkSpells
import Derived.WalkLawsBesides
import Derived.Stop.Asserts
namespace Go.Proofs.YtfknelkbdoiokaaGreatDoor

theorem assert_same {P : Program} {T : TypeId} {fs : Array Field} (hu : P.underlying T = some (.struct fs)) (v : Value) (xT : TypeId) (w : World) : (Instr.typeAssert (.iface T v) xT T true).run P w = .ok (.tuple #[v, .bool true]) w := by
  simp [Instr.typeAssert, run_underlying hu]
theorem assert_other {P : Program} {t T : TypeId} {fs : Array Field} {z : Value} (hu : P.underlying T = some (.struct fs)) (hz : (P.info? T).map (·.zero) = some (some z)) (hne : t ≠ T) (v : Value) (xT : TypeId) (w : World) : (Instr.typeAssert (.iface t v) xT T true).run P w = .ok (.tuple #[z, .bool false]) w := by
  obtain ⟨j, hj, hz'⟩ := Option.map_eq_some_iff.1 hz
  unfold Instr.typeAssert
  simp only [Sem.run_bind, run_underlying hu, Result.andThen_ok]
  simp [hne, zeroValue, typeInfo, hj, hz']
theorem as_let_let (v : Value) (xT : TypeId) (w : World) : (Instr.typeAssert (.iface 143 v) xT 143 true).run Tryz.prog w = .ok (.tuple #[v, .bool true]) w := assert_same Tryz.underlying143 v xT w
theorem as_say_say (v : Value) (xT : TypeId) (w : World) : (Instr.typeAssert (.iface 170 v) xT 170 true).run Tryz.prog w = .ok (.tuple #[v, .bool true]) w := assert_same Tryz.underlying170 v xT w
theorem as_when_when (v : Value) (xT : TypeId) (w : World) : (Instr.typeAssert (.iface 172 v) xT 172 true).run Tryz.prog w = .ok (.tuple #[v, .bool true]) w := assert_same Tryz.underlying172 v xT w
theorem as_no_let (v : Value) (xT : TypeId) (w : World) : (Instr.typeAssert (.iface 168 v) xT 143 true).run Tryz.prog w = .ok (.tuple #[.agg #[.string { data := #[] }, .string { data := #[] }, .nilIface], .bool false]) w := assert_other Tryz.underlying143 (by kernel_rfl) (by decide) v xT w
theorem as_say_let (v : Value) (xT : TypeId) (w : World) : (Instr.typeAssert (.iface 170 v) xT 143 true).run Tryz.prog w = .ok (.tuple #[.agg #[.string { data := #[] }, .string { data := #[] }, .nilIface], .bool false]) w := assert_other Tryz.underlying143 (by kernel_rfl) (by decide) v xT w
theorem as_when_let (v : Value) (xT : TypeId) (w : World) : (Instr.typeAssert (.iface 172 v) xT 143 true).run Tryz.prog w = .ok (.tuple #[.agg #[.string { data := #[] }, .string { data := #[] }, .nilIface], .bool false]) w := assert_other Tryz.underlying143 (by kernel_rfl) (by decide) v xT w
theorem as_no_say (v : Value) (xT : TypeId) (w : World) : (Instr.typeAssert (.iface 168 v) xT 170 true).run Tryz.prog w = .ok (.tuple #[.agg #[.nilIface], .bool false]) w := assert_other Tryz.underlying170 (by kernel_rfl) (by decide) v xT w
theorem as_when_say (v : Value) (xT : TypeId) (w : World) : (Instr.typeAssert (.iface 172 v) xT 170 true).run Tryz.prog w = .ok (.tuple #[.agg #[.nilIface], .bool false]) w := assert_other Tryz.underlying170 (by kernel_rfl) (by decide) v xT w
theorem as_no_when (v : Value) (xT : TypeId) (w : World) : (Instr.typeAssert (.iface 168 v) xT 172 true).run Tryz.prog w = .ok (.tuple #[.agg #[.nilIface, .nilIface], .bool false]) w := assert_other Tryz.underlying172 (by kernel_rfl) (by decide) v xT w
end Go.Proofs.YtfknelkbdoiokaaGreatDoor
