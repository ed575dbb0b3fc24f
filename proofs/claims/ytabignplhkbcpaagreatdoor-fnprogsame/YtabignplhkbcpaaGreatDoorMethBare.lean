/-
  The contracts of the program's methods hold and bare, for all parts.
-/
import Derived.Test.YtabignplhkbcpaaGreatDoorMeth
namespace Go.Proofs.YtabignplhkbcpaaGreatDoor
open Go.RowKit

set_option maxRecDepth 100000 in
set_option maxHeartbeats 1000000 in
theorem hold_any (p : Pt) (w : World) : Calls Tryz.prog (fHold p) #[ptU p] w fun e w' => e = .returned (.int .i64 (p.lvl : Int)) ∧ Below w.heap.size w w' := by
  cases p with
  | num n =>
    show Calls Tryz.prog 168 #[.agg #[.int .i64 n]] w _
    go_enter Tryz.func168, Tryz.ntmps168
    go_wp2_with fail
    go_ret
    exact ⟨rfl, (Below.refl _ w).alloc (Nat.le_refl _) _⟩
  | name s =>
    show Calls Tryz.prog 174 #[.agg #[.string s]] w _
    go_enter Tryz.func174, Tryz.ntmps174
    go_wp2_with fail
    go_ret
    exact ⟨rfl, (Below.refl _ w).alloc (Nat.le_refl _) _⟩
  | two s a b =>
    show Calls Tryz.prog 181 #[.agg #[.string s, partV a, partV b]] w fun e w' => e = .returned (.int .i64 (hold s : Int)) ∧ Below w.heap.size w w'
    generalize partV a = x
    generalize partV b = y
    have HM := Lib.hid (fun W => markHold_any s W)
    generalize hold s = h at *
    go_enter Tryz.func181, Tryz.ntmps181
    go_wp2_with fail
    refine (HM.out _).mono ?_
    rintro e w1 ⟨rfl, rfl⟩
    go_wp2_with fail
    go_ret
    exact ⟨rfl, (Below.refl _ w).alloc (Nat.le_refl _) _⟩
  | «as» s a =>
    show Calls Tryz.prog 189 #[.agg #[.string s, partV a]] w _
    generalize partV a = x
    go_enter Tryz.func189, Tryz.ntmps189
    go_wp2_with fail
    go_ret
    exact ⟨rfl, (Below.refl _ w).alloc (Nat.le_refl _) _⟩
end Go.Proofs.YtabignplhkbcpaaGreatDoor
