/-
  From the row's condition on the variables, the program's own error among them, to what the walks ask of them; and that the program's initialisers meet it.
-/
import Derived.Test.YtabignplhkbcpaaGreatDoorLaid
import Derived.Test.YtabignplhkbcpaaGreatDoorIsErr
import Derived.OpenVars
import Derived.ChangeVars
namespace Go.Proofs.YtabignplhkbcpaaGreatDoor
open Go.ChangeShapes Go.WideShapes Go.ChangeAt Go.WideMaps Go.WideElems Go.RowKit

def laidL6 : List (String × DataW Unit) := [("math/bits.deBruijn32tab", Rows.laid_math_bits_deBruijn32tab), ("math/bits.deBruijn64tab", Rows.laid_math_bits_deBruijn64tab), ("internal/strconv.uint64pow10", Rows.laid_internal_strconv_uint64pow10), ("strconv.ErrRange", Rows.laid_strconv_ErrRange), ("strconv.ErrSyntax", Rows.laid_strconv_ErrSyntax), ("loop.example/interlinear/impl.errNoLine", Rows.laid_loop_example_interlinear_impl_errNoLine)]
theorem door_met6 (os : Os) (args : Array Value) : laidMetH Tryz.prog laidL6 ((World.doorLaid Tryz.prog 81 os).forCall (fun _ _ => 0) ⟨#[], args, []⟩).memory :=
  laidMetH_of_parts3 (fuel := 8) (laidMet_of_run' 8 (by kernel_rfl) (by kernel_rfl)) (by kernel_rfl) (by kernel_rfl)
theorem gNoType : (Tryz.prog.globals[0]?).map (·.type) = some 70 := by kernel_rfl

/-- What the condition gives the walks. -/
theorem of_laid6 {W : World} (h : laidMetH Tryz.prog laidL6 W) : LaidW W ∧ ∃ a, LaidN W a := by
  rw [MakeChecks.laidMetH_plain _ _ _ (by kernel_rfl)] at h
  have h3 := h.tail.tail
  have h4 := h3.tail
  have h5 := h4.tail
  have h6 := h5.tail
  obtain ⟨a, _, ha, _⟩ := laid_sentinel h4 gRng gRngType Tryz.underlying70 rowErr Tryz.underlying187 Tryz.underlying189 rfl rfl Tryz.underlying9 cellsErr cellsStr
  obtain ⟨b, _, hb, _⟩ := laid_sentinel h5 gSyn gSynType Tryz.underlying70 rowErr Tryz.underlying187 Tryz.underlying189 rfl rfl Tryz.underlying9 cellsErr cellsStr
  obtain ⟨c, _, hc, _⟩ := laid_sentinel h6 gNo gNoType Tryz.underlying70 rowErr Tryz.underlying187 Tryz.underlying189 rfl rfl Tryz.underlying9 cellsErr cellsStr
  exact ⟨⟨Lib.tabIs_of_head (zs := Lib.pow10Tab) gTab gTabType Tryz.underlying191 Tryz.underlying171 cellsU64 cellsTab h3, ⟨_, _, ha⟩, ⟨_, _, hb⟩⟩, c, hc⟩
end Go.Proofs.YtabignplhkbcpaaGreatDoor
