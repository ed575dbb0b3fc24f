/-
  The contracts of the program's nameOk, markHold, typeOk.
-/
import Derived.Test.YtabignplhkbcpaaGreatDoorGC
import Derived.RangeFuncBox
namespace Go.Proofs.YtabignplhkbcpaaGreatDoor
open Go.RowKit

/-- The part as the program holds it. -/
def partV : Pt → Value
  | .num n => .iface 132 (.agg #[.int .i64 n])
  | .name s => .iface 134 (.agg #[.string s])
  | .two s a b => .iface 137 (.agg #[.string s, partV a, partV b])
  | .as s a => .iface 139 (.agg #[.string s, partV a])

set_option maxHeartbeats 1000000 in
theorem typeOk_any (s : ByteArray) (w : World) : Calls Tryz.prog 50 #[.string s] w fun e w' => e = .returned (.bool (typeB s)) ∧ w = w' := by
  have HF := Lib.hid (show typeB s = (s.toList == [105, 110, 116] || s.toList == [98, 111, 111, 108]) by rw [isS, isS]; rfl)
  go_enter Tryz.func50, Tryz.ntmps50
  go_wp2
  all_goals (go_ret; exact ⟨ret_bool (by rw [HF.out] <;> simp [*]), rfl⟩)
set_option maxHeartbeats 1000000 in
theorem markHold_any (s : ByteArray) (w : World) : Calls Tryz.prog 76 #[.string s] w fun e w' => e = .returned (.int .i64 (hold s : Int)) ∧ w = w' := by
  have HF := Lib.hid (show hold s = (if (s.toList == [60]) = true then 1 else if (s.toList == [43]) = true then 2 else if (s.toList == [45]) = true then 2 else if (s.toList == [42]) = true then 3 else 0) by
    simp only [isS, decide_eq_true_eq]; rfl)
  cases q0 : (s.toList == [60])
  · cases q1 : (s.toList == [43])
    · cases q2 : (s.toList == [45])
      · cases q3 : (s.toList == [42])
        · have HB := Lib.hid (show hold s = 0 by rw [HF.out, q0, q1, q2, q3]; rfl)
          clear HF
          go_enter Tryz.func76, Tryz.ntmps76
          go_wp2_with fail
          go_ret
          exact ⟨ret_int (by rw [HB.out]; rfl), rfl⟩
        · have HB := Lib.hid (show hold s = 3 by rw [HF.out, q0, q1, q2, q3]; rfl)
          clear HF
          go_enter Tryz.func76, Tryz.ntmps76
          go_wp2_with fail
          go_ret
          exact ⟨ret_int (by rw [HB.out]; rfl), rfl⟩
      · have HB := Lib.hid (show hold s = 2 by rw [HF.out, q0, q1, q2]; rfl)
        clear HF
        go_enter Tryz.func76, Tryz.ntmps76
        go_wp2_with fail
        go_ret
        exact ⟨ret_int (by rw [HB.out]; rfl), rfl⟩
    · have HB := Lib.hid (show hold s = 2 by rw [HF.out, q0, q1]; rfl)
      clear HF
      go_enter Tryz.func76, Tryz.ntmps76
      go_wp2_with fail
      go_ret
      exact ⟨ret_int (by rw [HB.out]; rfl), rfl⟩
  · have HB := Lib.hid (show hold s = 1 by rw [HF.out, q0]; rfl)
    clear HF
    go_enter Tryz.func76, Tryz.ntmps76
    go_wp2_with fail
    go_ret
    exact ⟨ret_int (by rw [HB.out]; rfl), rfl⟩
set_option maxHeartbeats 1000000 in
theorem tokWord_any (s : ByteArray) (w : World) (hs : s.size ≤ 2 ^ 40) : Calls Tryz.prog 67 #[.int .i64 1, .string s] w fun e w' => e = .returned (.bool (wordL (L s))) ∧ Below w.heap.size w w' := by
  have HW := Lib.hid (wordOk_any s w hs)
  go_enter Tryz.func67, Tryz.ntmps67
  go_wp2_with fail
  refine HW.out.mono ?_
  rintro e w' ⟨rfl, hb⟩
  go_wp2_with fail
  go_ret
  exact ⟨rfl, hb⟩
set_option maxHeartbeats 1000000 in
theorem nameOk_any (s : ByteArray) (w : World) (hs : s.size ≤ 2 ^ 40) : Calls Tryz.prog 49 #[.string s] w fun e w' => e = .returned (.bool (nameB s)) ∧ Below w.heap.size w w' := by
  have HF := Lib.hid (show nameB s = (wordL (L s) && !(s.toList == [108, 101, 116] || (s.toList == [115, 97, 121] || (s.toList == [119, 104, 101, 110] || (s.toList == [97, 115] || (s.toList == [112, 114, 105, 110, 116] || (s.toList == [105, 102] || (s.toList == [105, 110, 116] || s.toList == [98, 111, 111, 108])))))))) by rw [isS, isS, isS, isS, isS, isS, isS, isS]; rfl)
  have HW := Lib.hid (tokWord_any s w hs)
  cases q0 : (s.toList == [108, 101, 116])
  · cases q1 : (s.toList == [115, 97, 121])
    · cases q2 : (s.toList == [119, 104, 101, 110])
      · cases q3 : (s.toList == [97, 115])
        · cases q4 : (s.toList == [112, 114, 105, 110, 116])
          · cases q5 : (s.toList == [105, 102])
            · cases q6 : (s.toList == [105, 110, 116])
              · cases q7 : (s.toList == [98, 111, 111, 108])
                · have HB := Lib.hid (show nameB s = wordL (L s) by rw [HF.out, q0, q1, q2, q3, q4, q5, q6, q7]; simp)
                  clear HF
                  go_enter Tryz.func49, Tryz.ntmps49
                  go_wp2_with fail
                  refine HW.out.mono ?_
                  rintro e w' ⟨rfl, hb⟩
                  go_wp2_with fail
                  go_ret
                  exact ⟨ret_bool HB.out.symm, hb⟩
                · have HB := Lib.hid (show nameB s = false by rw [HF.out, q0, q1, q2, q3, q4, q5, q6, q7]; simp)
                  clear HF HW
                  go_enter Tryz.func49, Tryz.ntmps49
                  go_wp2_with fail
                  go_ret
                  exact ⟨ret_bool HB.out.symm, Below.refl _ _⟩
              · have HB := Lib.hid (show nameB s = false by rw [HF.out, q0, q1, q2, q3, q4, q5, q6]; simp)
                clear HF HW
                go_enter Tryz.func49, Tryz.ntmps49
                go_wp2_with fail
                go_ret
                exact ⟨ret_bool HB.out.symm, Below.refl _ _⟩
            · have HB := Lib.hid (show nameB s = false by rw [HF.out, q0, q1, q2, q3, q4, q5]; simp)
              clear HF HW
              go_enter Tryz.func49, Tryz.ntmps49
              go_wp2_with fail
              go_ret
              exact ⟨ret_bool HB.out.symm, Below.refl _ _⟩
          · have HB := Lib.hid (show nameB s = false by rw [HF.out, q0, q1, q2, q3, q4]; simp)
            clear HF HW
            go_enter Tryz.func49, Tryz.ntmps49
            go_wp2_with fail
            go_ret
            exact ⟨ret_bool HB.out.symm, Below.refl _ _⟩
        · have HB := Lib.hid (show nameB s = false by rw [HF.out, q0, q1, q2, q3]; simp)
          clear HF HW
          go_enter Tryz.func49, Tryz.ntmps49
          go_wp2_with fail
          go_ret
          exact ⟨ret_bool HB.out.symm, Below.refl _ _⟩
      · have HB := Lib.hid (show nameB s = false by rw [HF.out, q0, q1, q2]; simp)
        clear HF HW
        go_enter Tryz.func49, Tryz.ntmps49
        go_wp2_with fail
        go_ret
        exact ⟨ret_bool HB.out.symm, Below.refl _ _⟩
    · have HB := Lib.hid (show nameB s = false by rw [HF.out, q0, q1]; simp)
      clear HF HW
      go_enter Tryz.func49, Tryz.ntmps49
      go_wp2_with fail
      go_ret
      exact ⟨ret_bool HB.out.symm, Below.refl _ _⟩
  · have HB := Lib.hid (show nameB s = false by rw [HF.out, q0]; simp)
    clear HF HW
    go_enter Tryz.func49, Tryz.ntmps49
    go_wp2_with fail
    go_ret
    exact ⟨ret_bool HB.out.symm, Below.refl _ _⟩
end Go.Proofs.YtabignplhkbcpaaGreatDoor
