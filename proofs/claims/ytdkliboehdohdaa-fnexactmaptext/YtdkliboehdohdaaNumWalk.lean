/-
  The contracts of impl.NumLetter, signedCode, letterDigit, codeNumber and of the model's letters, for all arguments.
-/
import Derived.Test.YtdkliboehdohdaaBase
import Derived.Test.YtdkliboehdohdaaNumMath
import Derived.WalkKit
import Derived.WalkSpells
import Derived.WalkLawsBesides
import Derived.Deep.QuietTactic
import Derived.BigQuiet
import Derived.Lib.Hide
import Derived.Laws.BitsAllLaws
import Derived.Laws.BitsLemmas
import Derived.Laws.IdiomStrings
namespace Go.Proofs.Ytdkliboehdohdaa
open Go.RowKit

def letB (d : Nat) : ByteArray := ⟨#[letU d]⟩

theorem wraps_i64 (n : Int) (h0 : 0 ≤ n) (h1 : n < 2 ^ 40) : IntKind.i64.wrap n = n := IntWalk.i64_in n (by omega)
theorem and15 (x : Int) (h0 : 0 ≤ x) (h1 : x < 2 ^ 40) : bits .and .i64 x 15 = x % 16 := bits_mask .i64 40 (by decide) wraps_i64 4 (by decide) x h0 h1
theorem and1 (x : Int) (h0 : 0 ≤ x) (h1 : x < 2 ^ 40) : bits .and .i64 x 1 = x % 2 := bits_mask .i64 40 (by decide) wraps_i64 1 (by decide) x h0 h1
theorem or_comm64 (x y : Int) : bits .or .i64 x y = bits .or .i64 y x := by
  show IntKind.i64.wrap ((BitVec.ofInt 64 x ||| BitVec.ofInt 64 y).toNat : Int) = IntKind.i64.wrap ((BitVec.ofInt 64 y ||| BitVec.ofInt 64 x).toNat : Int)
  rw [BitVec.or_comm]
theorem or16 (x : Int) (h0 : 0 ≤ x) (h1 : x < 16) : bits .or .i64 x 16 = x + 16 := by
  rw [or_comm64, bits_join .i64 40 (by decide) wraps_i64 4 16 x (by decide) (by decide) (by decide) h0 (by omega) (by omega)]; omega
theorem or1 (x : Int) (h0 : 0 ≤ x) (h1 : x < 2 ^ 40) (he : x % 2 = 0) : bits .or .i64 x 1 = x + 1 :=
  bits_join .i64 40 (by decide) wraps_i64 1 x 1 h0 (by simpa using he) h1 (by decide) (by decide) (by decide)
/-- A digit laid above what was read. -/
theorem or_high (i : Nat) (x y : Int) (hx0 : 0 ≤ x) (hx : x < 2 ^ i) (hi : i ≤ 40) (hy0 : 0 ≤ y) (hy : y % 2 ^ i = 0) (hy1 : y < 2 ^ 40) : bits .or .i64 x y = x + y := by
  have hp : (2 : Int) ^ i ≤ 2 ^ 40 := by exact_mod_cast Nat.pow_le_pow_right (n := 2) (by decide) hi
  rw [or_comm64, bits_join .i64 40 (by decide) wraps_i64 i y x hy0 hy hy1 hx0 hx (by omega)]; omega

/-- A slice of one byte as a text. -/
theorem conv1 (w : World) (z : Int) (c : UInt8) (h : z = (c.toNat : Int)) :
    (convert 52 9 (.slice (some ⟨w.heap.size, 0, none⟩) 1 1)).run Try.prog (w.alloc (.cells #[.int .u8 z] 5)) = .ok (.string ⟨#[c]⟩) (w.alloc (.cells #[.int .u8 z] 5)) := by
  have h1 := run_convert_bytes_back (P := Try.prog) (w.alloc (.cells #[.int .u8 z] 5)) 52 9 5 ⟨w.heap.size, 0, none⟩ 1 [c] Try.underlying52 Try.underlying5 Try.underlying9
    (fun j hj => by
      obtain rfl : j = 0 := by simp at hj; omega
      rw [Go.WideShapes.add_plain, World.cell?_alloc_mark, h]
      rfl)
  exact h1

set_option maxHeartbeats 400000 in
theorem numLetter_in (x : Int) (w : World) (h0 : 0 ≤ x) (h1 : x < 32) :
    Calls Try.prog 62 #[.int .i64 x] w fun e w' => e = .returned (.string (letB x.toNat)) ∧ Below w.heap.size w w' := by
  have q1 : decide (x < 0) = false := by simpa using h0
  have q2 : decide (31 < x) = false := by simp; omega
  by_cases h : x < 16
  · have q3 : decide (x < 16) = true := by simpa using h
    have hcv := conv1 w (97 + x) (letU x.toNat) (by rw [letU_toNat _ (by omega), if_pos (by omega)]; omega)
    go_enter Try.func62, Try.ntmps62
    go_wp2
    go_ret
    exact ⟨rfl, (Below.refl _ w).alloc (Nat.le_refl _) _⟩
  · have q3 : decide (x < 16) = false := by simpa using h
    have hcv := conv1 w (65 + (x - 16)) (letU x.toNat) (by rw [letU_toNat _ (by omega), if_neg (by omega)]; omega)
    have hbt : bits .and .i64 x 15 = x - 16 := by rw [and15 x h0 (by omega)]; omega
    go_enter Try.func62, Try.ntmps62
    go_wp2
    go_ret
    exact ⟨rfl, (Below.refl _ w).alloc (Nat.le_refl _) _⟩
set_option maxHeartbeats 400000 in
theorem numLetter_out (d : Int) (w : World) (hd : d < 0 ∨ 31 < d) :
    Calls Try.prog 62 #[.int .i64 d] w fun e w' => e = .returned (.string ByteArray.empty) ∧ w = w' := by
  rcases hd with h | h
  · go_enter Try.func62, Try.ntmps62
    go_wp2
    go_ret
    exact ⟨rfl, rfl⟩
  · have h0 : ¬ d < 0 := by omega
    go_enter Try.func62, Try.ntmps62
    go_wp2
    go_ret
    exact ⟨rfl, rfl⟩
set_option maxHeartbeats 400000 in
theorem signedCode_any (n : Int) (w : World) (h : inB n = true) :
    Calls Try.prog 61 #[.int .i64 n] w fun e w' => e = .returned (.int .i64 (codeOf n : Int)) ∧ w = w' := by
  have hb := inB_bd h
  clear h
  by_cases h0 : n < 0
  · have HC := Lib.hid (show (codeOf n : Int) = -n * 2 + 1 by unfold codeOf; rw [if_pos h0]; omega)
    have hbt : bits .or .i64 (-n * 2) 1 = -n * 2 + 1 := or1 _ (by omega) (by omega) (by omega)
    go_enter Try.func61, Try.ntmps61
    go_wp2
    go_ret
    exact ⟨by rw [HC.out]; rfl, rfl⟩
  · have HC := Lib.hid (show (codeOf n : Int) = n * 2 by unfold codeOf; rw [if_neg h0]; omega)
    go_enter Try.func61, Try.ntmps61
    go_wp2
    go_ret
    exact ⟨by rw [HC.out]; rfl, rfl⟩

end Go.Proofs.Ytdkliboehdohdaa
