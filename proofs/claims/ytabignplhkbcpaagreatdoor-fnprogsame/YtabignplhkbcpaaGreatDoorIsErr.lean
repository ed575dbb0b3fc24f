/-
  errors.Is of an error that errors.New made, against itself, and of nil against it.
-/
import Derived.Test.YtabignplhkbcpaaGreatDoorDecimal
import Derived.LaidEql
import Derived.Stop.Asserts
import Derived.RowKitTokens
import Derived.ChangeBears2
namespace Go.Proofs.YtabignplhkbcpaaGreatDoor
open Go.RowKit Go.Extern.Stop Go.Stop Go.Extern

theorem isTypeOf (v : Value) (w : World) : (Extern.ReflectliteType.typeOf #[.iface 187 v]).run Tryz.prog w = .ok (.iface 117 (.agg #[.pointer (some ⟨7, 187, none⟩)])) w := by kernel_rfl
theorem isComparable (w : World) : ((Extern.ReflectliteType.method fun t => do Extern.Rtype.noPackHeld "Comparable" t; (fun a => Value.bool a.comparable) <$> typeInfo t) #[.agg #[.pointer (some ⟨7, 187, none⟩)]]).run Tryz.prog w = .ok (.bool true) w := by kernel_rfl
theorem isMethodComparable (n : Nat) (v : Value) (w : World) : (Go.method (n + 1) 117 v "Comparable").run Tryz.prog w = .ok (156, v) w := by kernel_rfl
theorem isComp : (Tryz.prog.info? 187).map (·.comparable) = some true := by kernel_rfl
theorem isSize : (Tryz.prog.info? 189).map (·.size) = some 1 := by kernel_rfl

set_option maxRecDepth 100000 in
set_option maxHeartbeats 1000000 in
/-- errors.Is(x, x), x a pointer to an errors.errorString. -/
theorem is_same (a : Addr) (w : World) :
    Calls Tryz.prog 34 #[.iface 187 (.pointer (some a)), .iface 187 (.pointer (some a))] w fun e w' => e = .returned (.bool true) ∧ w' = w := by
  obtain ⟨i, hi, hcmp⟩ := Option.map_eq_some_iff.1 isComp
  obtain ⟨j, hj, hjs⟩ := Option.map_eq_some_iff.1 isSize
  have h8 := @run_callFunc_extern Tryz.prog 53 _ Extern.ReflectliteType.typeOf Tryz.func53 (by kernel_rfl) (by kernel_rfl) (by kernel_rfl) (by kernel_rfl)
  have h32 := @run_callFunc_extern Tryz.prog 156 _ (Extern.ReflectliteType.method fun t => do Extern.Rtype.noPackHeld "Comparable" t; pure (.bool (← typeInfo t).comparable)) Tryz.func156 (by kernel_rfl) (by kernel_rfl) (by kernel_rfl) (by kernel_rfl)
  have tT := isTypeOf
  have cT := isComparable
  have mR := isMethodComparable
  have heq := run_eql_iface_ptr_same (P := Tryz.prog) w a Tryz.underlying70 Tryz.underlying187 hi hcmp hj
  go_enter Tryz.func34, Tryz.ntmps34
  go_wp2
  refine wp_loop_rounds 1 ?_
  rw [rounds_succ]
  go_wp2
  go_ret
  exact ⟨rfl, rfl⟩

set_option maxRecDepth 100000 in
set_option maxHeartbeats 1000000 in
/-- errors.Is(nil, x). -/
theorem is_nil (b : Addr) (w : World) :
    Calls Tryz.prog 34 #[.nilIface, .iface 187 (.pointer (some b))] w fun e w' => e = .returned (.bool false) ∧ w' = w := by
  have hn := run_eql_iface_nil_left (P := Tryz.prog) w 187 (.pointer (some b)) Tryz.underlying70
  go_enter Tryz.func34, Tryz.ntmps34
  go_wp2
  go_ret
  exact ⟨rfl, rfl⟩

/-- The program's own error is what its initialiser lays. -/
def LaidN (w : World) (a : Addr) : Prop := w.var? Tryz.prog "loop.example/interlinear/impl.errNoLine" = some #[.iface 187 (.pointer (some a))]
theorem LaidN.below {w w' : World} {a : Addr} (h : LaidN w a) (hb : Below w.heap.size w w') : LaidN w' a := var_kept hb h
theorem gNo : Tryz.prog.globalNamed "loop.example/interlinear/impl.errNoLine" = some 0 := by kernel_rfl
theorem LaidN.cell {w : World} {a : Addr} (h : LaidN w a) : w.cell? ⟨0, 0, none⟩ = some (.iface 187 (.pointer (some a))) := by
  exact var?_cell gNo h 0
end Go.Proofs.YtabignplhkbcpaaGreatDoor
