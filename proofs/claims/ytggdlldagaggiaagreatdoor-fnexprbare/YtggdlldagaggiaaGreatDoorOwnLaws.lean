/-
  The contracts of laws.toExpr (a copy of one's own), laws.eqExpr.
-/
import Derived.Test.YtggdlldagaggiaaGreatDoorOwn
import Derived.Laws.MakeOwn
namespace Go.Proofs.YtggdlldagaggiaaGreatDoor
open Go.RowKit

def zeroC : Array Value := #[.int .i64 0, .int .i64 0, .string ByteArray.empty, .slice none 0 0]
theorem infoEx : (Tryz.prog.info? 25).map (fun i => (i.zero, i.size, i.bytes)) = some (some (.agg zeroC), 4, 56) := by kernel_rfl
theorem run_makeE (n : Nat) (hn : n ≤ 2 ^ 40) (w : World) : (Instr.makeSlice 23 (.int .i64 (n : Int)) (.int .i64 (n : Int))).run Tryz.prog w = .ok (.slice (some ⟨w.heap.size, 0, none⟩) n n) (w.alloc (.cells (madeCells zeroC (n * 4)) 25)) := by
  obtain ⟨i, hi, hzz⟩ := Option.map_eq_some_iff.1 infoEx
  simp only [Prod.mk.injEq] at hzz
  obtain ⟨hz, hs, hb⟩ := hzz
  have hr := run_make (P := Tryz.prog) w 23 25 i _ Tryz.underlying23 hi hz .i64 .i64 n n (by omega) (Int.le_refl _) (by rw [hb]; omega) (by omega)
  rw [hs] at hr
  simp only [Int.toNat_natCast] at hr
  exact hr

end Go.Proofs.YtggdlldagaggiaaGreatDoor
