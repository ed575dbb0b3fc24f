/-
  DeedAs: these texts one behind the other, as a claim holds at most 60 files.
-/
import Derived.Test.YtabignplhkbcpaaGreatDoorProg
import Derived.WalkKit
import Derived.WalkSpells
import Derived.WalkLawsBesides
import Derived.Stop.Asserts
namespace Go.Proofs.YtabignplhkbcpaaGreatDoor

theorem assert_same {P : Program} {T : TypeId} {fs : Array Field} (hu : P.underlying T = some (.struct fs)) (v : Value) (xT : TypeId) (w : World) : (Instr.typeAssert (.iface T v) xT T true).run P w = .ok (.tuple #[v, .bool true]) w := by
  simp [Instr.typeAssert, run_underlying hu]
theorem assert_other {P : Program} {t T : TypeId} {fs : Array Field} {z : Value} (hu : P.underlying T = some (.struct fs)) (hz : (P.info? T).map (·.zero) = some (some z)) (hne : t ≠ T) (v : Value) (xT : TypeId) (w : World) : (Instr.typeAssert (.iface t v) xT T true).run P w = .ok (.tuple #[z, .bool false]) w := by
  obtain ⟨j, hj, hz'⟩ := Option.map_eq_some_iff.1 hz
  unfold Instr.typeAssert
  simp only [Sem.run_bind, run_underlying hu, Result.andThen_ok]
  simp [hne, zeroValue, typeInfo, hj, hz']
theorem as_let_let (v : Value) (xT : TypeId) (w : World) : (Instr.typeAssert (.iface 61 v) xT 61 true).run Tryz.prog w = .ok (.tuple #[v, .bool true]) w := assert_same Tryz.underlying61 v xT w
theorem as_say_say (v : Value) (xT : TypeId) (w : World) : (Instr.typeAssert (.iface 78 v) xT 78 true).run Tryz.prog w = .ok (.tuple #[v, .bool true]) w := assert_same Tryz.underlying78 v xT w
theorem as_when_when (v : Value) (xT : TypeId) (w : World) : (Instr.typeAssert (.iface 80 v) xT 80 true).run Tryz.prog w = .ok (.tuple #[v, .bool true]) w := assert_same Tryz.underlying80 v xT w
theorem as_no_let (v : Value) (xT : TypeId) (w : World) : (Instr.typeAssert (.iface 93 v) xT 61 true).run Tryz.prog w = .ok (.tuple #[.agg #[.string { data := #[] }, .string { data := #[] }, .nilIface], .bool false]) w := assert_other Tryz.underlying61 (by kernel_rfl) (by decide) v xT w
theorem as_say_let (v : Value) (xT : TypeId) (w : World) : (Instr.typeAssert (.iface 78 v) xT 61 true).run Tryz.prog w = .ok (.tuple #[.agg #[.string { data := #[] }, .string { data := #[] }, .nilIface], .bool false]) w := assert_other Tryz.underlying61 (by kernel_rfl) (by decide) v xT w
theorem as_when_let (v : Value) (xT : TypeId) (w : World) : (Instr.typeAssert (.iface 80 v) xT 61 true).run Tryz.prog w = .ok (.tuple #[.agg #[.string { data := #[] }, .string { data := #[] }, .nilIface], .bool false]) w := assert_other Tryz.underlying61 (by kernel_rfl) (by decide) v xT w
theorem as_no_say (v : Value) (xT : TypeId) (w : World) : (Instr.typeAssert (.iface 93 v) xT 78 true).run Tryz.prog w = .ok (.tuple #[.agg #[.nilIface], .bool false]) w := assert_other Tryz.underlying78 (by kernel_rfl) (by decide) v xT w
theorem as_when_say (v : Value) (xT : TypeId) (w : World) : (Instr.typeAssert (.iface 80 v) xT 78 true).run Tryz.prog w = .ok (.tuple #[.agg #[.nilIface], .bool false]) w := assert_other Tryz.underlying78 (by kernel_rfl) (by decide) v xT w
theorem as_no_when (v : Value) (xT : TypeId) (w : World) : (Instr.typeAssert (.iface 93 v) xT 80 true).run Tryz.prog w = .ok (.tuple #[.agg #[.nilIface, .nilIface], .bool false]) w := assert_other Tryz.underlying80 (by kernel_rfl) (by decide) v xT w
end Go.Proofs.YtabignplhkbcpaaGreatDoor
