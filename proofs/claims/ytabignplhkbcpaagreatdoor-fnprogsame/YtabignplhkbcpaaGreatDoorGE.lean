/-
  LawsEx, OwnLaws, EqEx: these texts one behind the other, as a claim holds at most 60 files.
-/
import Derived.Test.YtabignplhkbcpaaGreatDoorGB
import Derived.Test.YtabignplhkbcpaaGreatDoorGC
import Derived.Test.YtabignplhkbcpaaGreatDoorGD
import Derived.Laws.MakeOwn
namespace Go.Proofs.YtabignplhkbcpaaGreatDoor
open Go.RowKit

mutual
/-- No text and no list is longer than can be. -/
def Ex.fits : Ex → Prop
  | .mk _ _ s ks => s.size ≤ maxLen ∧ ks.length ≤ maxLen ∧ Ex.fitss ks
def Ex.fitss : List Ex → Prop
  | [] => True
  | e :: es => e.fits ∧ Ex.fitss es
end
theorem Ex.fits_mem {x : Ex} {xs : List Ex} (h : Ex.fitss xs) (hx : x ∈ xs) : x.fits := by
  induction xs with
  | nil => cases hx
  | cons y ys ih =>
    simp only [Ex.fitss] at h
    rcases List.mem_cons.1 hx with rfl | hx
    · exact h.1
    · exact ih h.2 hx
theorem Ex.wts_take (ks : List Ex) (j : Nat) (h : j < ks.length) : Ex.wts (ks.take (j + 1)) = Ex.wts (ks.take j) + (1 + ks[j].wt) := by
  rw [List.take_succ_eq_append_getElem h, Ex.wts_append]; simp [Ex.wts]

/-- What is left is told, and it tells that there is not too much. -/
def LeftE (n : Nat) (left : Int) (w : World) (e : Ending) (w' : World) : Prop :=
  ∃ r : Int, e = .returned (.int .i64 r) ∧ (0 ≤ r → r + (n : Int) = left) ∧ r ≤ left ∧ Below w.heap.size w w'

end Go.Proofs.YtabignplhkbcpaaGreatDoor

namespace Go.Proofs.YtabignplhkbcpaaGreatDoor
open Go.RowKit

def zeroC : Array Value := #[.int .i64 0, .int .i64 0, .string ByteArray.empty, .slice none 0 0]
theorem infoEx : (Tryz.prog.info? 34).map (fun i => (i.zero, i.size, i.bytes)) = some (some (.agg zeroC), 4, 56) := by kernel_rfl
theorem run_makeE (n : Nat) (hn : n ≤ 2 ^ 40) (w : World) : (Instr.makeSlice 32 (.int .i64 (n : Int)) (.int .i64 (n : Int))).run Tryz.prog w = .ok (.slice (some ⟨w.heap.size, 0, none⟩) n n) (w.alloc (.cells (madeCells zeroC (n * 4)) 34)) := by
  obtain ⟨i, hi, hzz⟩ := Option.map_eq_some_iff.1 infoEx
  simp only [Prod.mk.injEq] at hzz
  obtain ⟨hz, hs, hb⟩ := hzz
  have hr := run_make (P := Tryz.prog) w 32 34 i _ Tryz.underlying32 hi hz .i64 .i64 n n (by omega) (Int.le_refl _) (by rw [hb]; omega) (by omega)
  rw [hs] at hr
  simp only [Int.toNat_natCast] at hr
  exact hr

end Go.Proofs.YtabignplhkbcpaaGreatDoor

namespace Go.Proofs.YtabignplhkbcpaaGreatDoor
open Go.RowKit

end Go.Proofs.YtabignplhkbcpaaGreatDoor
