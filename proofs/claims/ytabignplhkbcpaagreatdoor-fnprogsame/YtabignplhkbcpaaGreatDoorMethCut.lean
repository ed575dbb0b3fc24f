/-
  The contracts of the program's cutNumber and reckon; what it is to tell a number.
-/
import Derived.Test.YtabignplhkbcpaaGreatDoorMeth
import Derived.Test.YtabignplhkbcpaaGreatDoorExprOk
import Derived.Test.YtabignplhkbcpaaGreatDoorGA
namespace Go.Proofs.YtabignplhkbcpaaGreatDoor
open Go.RowKit

theorem cell_lt {w : World} {p : Addr} {v : Value} (h : w.cell? p = some v) : p.block < w.heap.size := by
  rcases Nat.lt_or_ge p.block w.heap.size with hlt | hge
  · exact hlt
  · simp [World.cell?, Array.getElem?_eq_none hge] at h
/-- What it comes to is told. -/
def Comes (x : Option Int) (w : World) (e : Ending) (w' : World) : Prop := e = .returned (.tuple #[.int .i64 (x.getD 0), .bool x.isSome]) ∧ Below w.heap.size w w'
set_option maxHeartbeats 1000000 in
theorem cutNumber_any (n : Int) (w : World) : Calls Tryz.prog 177 #[.int .i64 n] w fun e w' => e = .returned (.int .i64 (cutN n)) ∧ w = w' := by
  have HF := Lib.hid (show cutN n = min (max n (-1000000)) 1000000 by unfold cutN; omega)
  go_enter Tryz.func177, Tryz.ntmps177
  go_wp2_with fail
  all_goals (go_ret; exact ⟨ret_int (by rw [HF.out] <;> omega), rfl⟩)

set_option maxRecDepth 100000 in
set_option maxHeartbeats 1000000 in
theorem reckon_any (s : ByteArray) (a b : Int) (w : World) (ha0 : -1000000 ≤ a) (ha1 : a ≤ 1000000) (hb0 : -1000000 ≤ b) (hb1 : b ≤ 1000000) : Calls Tryz.prog 184 #[.string s, .int .i64 a, .int .i64 b] w fun e w' => e = .returned (.int .i64 (twoN s a b)) ∧ w = w' := by
  obtain ⟨hm0, hm1⟩ := mul_bounds ha0 ha1 hb0 hb1
  have HF := Lib.hid (show twoN s a b = (if (s.toList == [43]) = true then cutN (a + b) else if (s.toList == [45]) = true then cutN (a - b) else if (s.toList == [42]) = true then cutN (a * b) else if a < b then 1 else 0) by
    simp only [isS, decide_eq_true_eq]; rfl)
  have HC := Lib.hid cutNumber_any
  cases q0 : (s.toList == [43])
  · cases q1 : (s.toList == [45])
    · cases q2 : (s.toList == [42])
      · by_cases hab : a < b
        · have q : decide (a < b) = true := by simpa using hab
          have HB := Lib.hid (show twoN s a b = 1 by rw [HF.out, q0, q1, q2]; simp [hab])
          clear HF
          go_enter Tryz.func184, Tryz.ntmps184
          go_wp2_with fail
          go_ret
          exact ⟨ret_int HB.out.symm, rfl⟩
        · have q : decide (a < b) = false := by simpa using hab
          have HB := Lib.hid (show twoN s a b = 0 by rw [HF.out, q0, q1, q2]; simp [hab])
          clear HF
          go_enter Tryz.func184, Tryz.ntmps184
          go_wp2_with fail
          go_ret
          exact ⟨ret_int HB.out.symm, rfl⟩
      · have HB := Lib.hid (show twoN s a b = cutN (a * b) by rw [HF.out, q0, q1, q2]; rfl)
        clear HF
        go_enter Tryz.func184, Tryz.ntmps184
        go_wp2_with fail
        refine (HC.out _ _).mono ?_
        rintro e w1 ⟨rfl, rfl⟩
        go_wp2_with fail
        go_ret
        exact ⟨ret_int HB.out.symm, rfl⟩
    · have HB := Lib.hid (show twoN s a b = cutN (a - b) by rw [HF.out, q0, q1]; rfl)
      clear HF
      go_enter Tryz.func184, Tryz.ntmps184
      go_wp2_with fail
      refine (HC.out _ _).mono ?_
      rintro e w1 ⟨rfl, rfl⟩
      go_wp2_with fail
      go_ret
      exact ⟨ret_int HB.out.symm, rfl⟩
  · have HB := Lib.hid (show twoN s a b = cutN (a + b) by rw [HF.out, q0]; rfl)
    clear HF
    go_enter Tryz.func184, Tryz.ntmps184
    go_wp2_with fail
    refine (HC.out _ _).mono ?_
    rintro e w1 ⟨rfl, rfl⟩
    go_wp2_with fail
    go_ret
    exact ⟨ret_int HB.out.symm, rfl⟩
end Go.Proofs.YtabignplhkbcpaaGreatDoor
