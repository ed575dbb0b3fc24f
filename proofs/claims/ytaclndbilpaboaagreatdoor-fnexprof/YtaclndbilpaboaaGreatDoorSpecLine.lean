/-
  The contracts of the model's TokOk, TokKind, l3Class and l3End, for all texts.
-/
import Derived.Test.YtaclndbilpaboaaGreatDoorSpecNum
namespace Go.Proofs.YtaclndbilpaboaaGreatDoor
open Go.RowKit

theorem okL_one (l : List UInt8) : okL 1 l = wordL l := rfl
theorem okL_two (l : List UInt8) : okL 2 l = decL l := rfl
theorem okL_three (l : List UInt8) : okL 3 l = markL l := rfl
theorem okL_else {k : Int} (h1 : k ≠ 1) (h2 : k ≠ 2) (h3 : k ≠ 3) (l : List UInt8) : okL k l = false := by
  unfold okL; rw [if_neg h1, if_neg h2, if_neg h3]
theorem markL_one {s : ByteArray} (h : s.size = 1) : markL (L s) = isMark (s[0]'(by omega)) := by
  have h1 := L_cons (s := s) (by omega)
  have h2 : (L s).drop 1 = [] := List.eq_nil_of_length_eq_zero (by rw [List.length_drop, L_length]; omega)
  rw [h1, h2]
  rfl
theorem markL_no {s : ByteArray} (h : s.size ≠ 1) : markL (L s) = false := by
  have hl := L_length s
  match hL : L s with
  | [] => rfl
  | [c] => rw [hL] at hl; simp at hl; omega
  | c :: d :: r => rfl

theorem kind_at {l : List UInt8} {k : Nat} (h1 : 1 ≤ k) (h3 : k ≤ 3) (hp : ∀ j : Nat, 1 ≤ j → j < k → okL (j : Int) l = false) (h : okL (k : Int) l = true) : kindL l = k := by
  have h4 : k = 1 ∨ k = 2 ∨ k = 3 := by omega
  unfold kindL
  rcases h4 with rfl | rfl | rfl
  · rw [if_pos (show wordL l = true from h)]
  · have a1 : wordL l = false := hp 1 (by omega) (by omega)
    rw [a1, if_pos (show decL l = true from h)]
    rfl
  · have a1 : wordL l = false := hp 1 (by omega) (by omega)
    have a2 : decL l = false := hp 2 (by omega) (by omega)
    rw [a1, a2, if_pos (show markL l = true from h)]
    rfl
theorem kind_none {l : List UInt8} (hp : ∀ j : Nat, 1 ≤ j → j < 4 → okL (j : Int) l = false) : kindL l = 0 := by
  have a1 : wordL l = false := hp 1 (by omega) (by omega)
  have a2 : decL l = false := hp 2 (by omega) (by omega)
  have a3 : markL l = false := hp 3 (by omega) (by omega)
  unfold kindL
  rw [a1, a2, a3]
  rfl

/-- The class of a byte, as the model tells it. -/
def clsN (c : UInt8) : Nat := if isLet c then 1 else if isDig c then 2 else if isMark c then 3 else if c = 32 then 4 else 0
end Go.Proofs.YtaclndbilpaboaaGreatDoor
