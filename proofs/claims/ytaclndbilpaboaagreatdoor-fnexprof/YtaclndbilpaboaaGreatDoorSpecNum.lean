/-
  The contract of the model's l12Num and l3Num, for all texts.
-/
import Derived.Test.YtaclndbilpaboaaGreatDoorSpecTok
namespace Go.Proofs.YtaclndbilpaboaaGreatDoor
open Go.RowKit

theorem ret_num_no {x : Option Int} (h : x = none) : Ending.returned (.tuple #[.int .i64 0, .bool false]) = .returned (.tuple #[.int .i64 (x.getD 0), .bool x.isSome]) := by subst h; rfl
theorem ret_num_yes {x : Option Int} {n : Int} (h : x = some n) : Ending.returned (.tuple #[.int .i64 n, .bool true]) = .returned (.tuple #[.int .i64 (x.getD 0), .bool x.isSome]) := by subst h; rfl
theorem u8_ne {c : UInt8} {n : Nat} (h : c ≠ UInt8.ofNat n) (hn : n < 256) : ((c.toNat : Int) == (n : Int)) = false := by
  simp only [beq_eq_false_iff_ne, ne_eq]
  intro e
  exact h (UInt8.toNat_inj.1 (by rw [UInt8.toNat_ofNat']; omega))
theorem numV_plain {l : List UInt8} (h : l.head? ≠ some 45) : numV l = if l.length ≤ 17 ∧ l.all isDig = true ∧ noLead l = true then some (decV 0 l : Int) else none := by unfold numV; rw [if_neg h]
theorem numV_neg {l : List UInt8} (h : l.head? = some 45) : numV l = if l.length ≤ 18 ∧ (l.drop 1).all isDig = true ∧ l.drop 1 ≠ [] ∧ (l.drop 1).head? ≠ some 48 then some (-(decV 0 (l.drop 1) : Int)) else none := by unfold numV; rw [if_pos h]
theorem L_tail (s : ByteArray) : L (s.extract 1 s.size) = (L s).drop 1 := by rw [L_extract, L_take_all]
theorem size_tail (s : ByteArray) : (s.extract 1 s.size).size = s.size - 1 := by rw [← L_length, L_tail, List.length_drop, L_length]

end Go.Proofs.YtaclndbilpaboaaGreatDoor
