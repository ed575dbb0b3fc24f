/-
  The contract of laws.markText.
-/
import Derived.Test.YtaclndbilpaboaaDoorBase
namespace Go.Proofs.YtaclndbilpaboaaDoor
open Go.RowKit

def byteS (n : Int) : ByteArray := ByteArray.empty.push (UInt8.ofNat n.toNat)
def digB (j : Nat) : ByteArray := byteS (48 + (j : Int) % 10)
def markLoop : Nat → Nat → ByteArray → ByteArray
  | 0, _, out => out
  | f + 1, j, out => if j = 0 then out else markLoop f (j / 10) (digB j ++ out)
/-- The mark of a number. -/
def markS (k : Nat) : ByteArray := ⟨#[109]⟩ ++ markLoop k k ByteArray.empty

theorem byteS_size (n : Int) : (byteS n).size = 1 := rfl

/-- A slice of one byte, just made, turned into a text. -/
theorem conv_one (n : Int) (w : World) : (convert 39 9 (.slice (some ⟨w.heap.size, 0, none⟩) 1 1)).run Tryd.prog (w.alloc (.cells #[.int .u8 n] 5)) = .ok (.string (byteS n)) (w.alloc (.cells #[.int .u8 n] 5)) := by
  rw [run_convert_bytes_string _ _ _ _ _ _ _ Tryd.underlying39 Tryd.underlying5 Tryd.underlying9]
  rw [run_bytesToString _ _ _ _ [n] (by simp [loadCells, go_sem])]
  rfl

set_option maxHeartbeats 1000000 in
theorem markText_any (k : Nat) (w : World) (hk : 0 < k) (hk2 : k ≤ 2 ^ 40) :
    Calls Tryd.prog 31 #[.int .i64 k] w fun e w' => e = .returned (.string (markS k)) ∧ Below w.heap.size w w' := by
  have q0 : ¬ ((k : Int) ≤ 0) := by omega
  have hcv := conv_one
  have hbs := byteS_size
  go_enter Tryd.func31, Tryd.ntmps31
  go_wp2
  go_loopw [0, 3] (fun n o wr => ∃ (f j : Nat) (out : ByteArray), j ≤ f ∧ j ≤ k ∧ out.size + j ≤ k ∧ n = .int .i64 j ∧ o = .string out ∧ markLoop k k ByteArray.empty = markLoop f j out ∧ Below w.heap.size w wr)
    (fun n _ _ => (intOf n).toNat)
  case atStart => exact ⟨k, k, ByteArray.empty, Nat.le_refl _, Nat.le_refl _, by simp, rfl, rfl, rfl, Below.refl _ _⟩
  case round =>
    obtain ⟨f, j, out, hjf, hjk, hsz, rfl, rfl, hm, hB⟩ := hrel
    have HM := Lib.hid hm; clear hm
    by_cases hj : j = 0
    · subst hj
      have HF := Lib.hid (show markLoop k k ByteArray.empty = out by rw [HM.out]; cases f <;> simp [markLoop])
      clear HM
      go_wp2
      go_ret
      exact ⟨congrArg (fun x => Ending.returned (.string x)) (by unfold markS; rw [HF.out]), hB⟩
    · have hj0 : 0 < (j : Int) := by omega
      obtain ⟨f', rfl⟩ : ∃ f', f = f' + 1 := ⟨f - 1, by omega⟩
      have HF := Lib.hid (show markLoop k k ByteArray.empty = markLoop f' (j / 10) (digB j ++ out) by rw [HM.out]; simp [markLoop, hj])
      have hds : (digB j ++ out).size = out.size + 1 := by rw [ByteArray.size_append]; unfold digB; rw [byteS_size]; omega
      have HD := Lib.hid hds
      clear HM hds
      go_wp2
      go_roundw
      case rel => exact ⟨f', j / 10, digB j ++ out, by omega, by omega, by rw [HD.out]; omega, by go_num, rfl, HF.out, hB.alloc hB.size _⟩
      case measure => simp [intOf]; omega

end Go.Proofs.YtaclndbilpaboaaDoor
