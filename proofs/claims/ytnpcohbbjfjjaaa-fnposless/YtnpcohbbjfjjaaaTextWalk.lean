/-
  The contracts of impl.plainBytes and spec.TextOk, for all texts.
-/
import Derived.Test.YtnpcohbbjfjjaaaProg
import Derived.Test.YtnpcohbbjfjjaaaTextMath
import Derived.WalkKit
import Derived.WalkSpells
import Derived.WalkLawsBesides
import Derived.Deep.QuietTactic
import Derived.BigQuiet
import Derived.Lib.Hide
namespace Go.Proofs.Ytnpcohbbjfjjaaa
open Go.RowKit

theorem ret_bool {a b : Bool} (h : a = b) : Ending.returned (.bool a) = .returned (.bool b) := by rw [h]

theorem plainL_take_succ (s : ByteArray) (k : Nat) (h : k < s.size) : plainL ((L s).take (k + 1)) = (plainL ((L s).take k) && plainC s[k]) := by
  rw [List.take_succ_eq_append_getElem (by rw [L_length]; exact h), plainL_append]
  simp [plainL, L]; rfl

theorem plainL_of_take {l : List UInt8} {k : Nat} (h : plainL (l.take k) = false) : plainL l = false := by
  rw [← List.take_append_drop k l, plainL_append, h]; rfl

theorem plainC_yes {c : UInt8} (h1 : 32 ≤ (c.toNat : Int)) (h2 : (c.toNat : Int) ≤ 126) : plainC c = true := by
  simp only [plainC, Bool.and_eq_true, decide_eq_true_eq]; omega
theorem plainC_low {c : UInt8} (h1 : (c.toNat : Int) < 32) : plainC c = false := by
  simp only [plainC, Bool.and_eq_false_iff, decide_eq_false_iff_not]; omega
theorem plainC_high {c : UInt8} (h1 : 126 < (c.toNat : Int)) : plainC c = false := by
  simp only [plainC, Bool.and_eq_false_iff, decide_eq_false_iff_not]; omega

set_option maxHeartbeats 400000 in
theorem plainBytes_any (s : ByteArray) (w : World) (hs : s.size ≤ maxLen) :
    Calls Try.prog 51 #[.string s] w fun e w' => e = .returned (.bool (plainL (L s))) ∧ w = w' := by
  unfold maxLen at hs
  go_enter Try.func51, Try.ntmps51
  go_wp2
  go_loop [6] (fun i => ∃ k : Nat, k ≤ s.size ∧ i = .int .i64 k ∧ plainL ((L s).take k) = true) (fun i => s.size - (intOf i).toNat)
  case atStart => exact ⟨0, Nat.zero_le _, rfl, by simp [plainL]⟩
  case round =>
    obtain ⟨k, hk, rfl, hp⟩ := hrel
    have HP := Lib.hid hp; clear hp
    by_cases hlt : k < s.size
    · have HS := Lib.hid (plainL_take_succ s k hlt)
      go_wp2
      · go_ret
        have h1 : 32 ≤ (s[k].toNat : Int) := by assumption
        have h2 : (s[k].toNat : Int) < 32 ∨ 126 < (s[k].toNat : Int) := by assumption
        exact ⟨ret_bool (plainL_of_take (k := k + 1) (by rw [HS.out, plainC_high (by omega)]; simp)).symm, rfl⟩
      · have h2 : 32 ≤ (s[k].toNat : Int) ∧ (s[k].toNat : Int) ≤ 126 := by assumption
        go_round
        case rel => exact ⟨k + 1, by omega, by go_num, by rw [HS.out, HP.out, plainC_yes h2.1 h2.2]; rfl⟩
        case measure => simp [intOf]; omega
      · go_ret
        have h1 : (s[k].toNat : Int) < 32 := by assumption
        exact ⟨ret_bool (plainL_of_take (k := k + 1) (by rw [HS.out, plainC_low h1]; simp)).symm, rfl⟩
    · go_wp2
      go_ret
      exact ⟨ret_bool (by rw [← HP.out, List.take_of_length_le (by rw [L_length]; omega)]), rfl⟩

set_option maxRecDepth 100000 in
set_option maxHeartbeats 1000000 in
theorem specTextOk_any (s : ByteArray) (w : World) (hs : s.size ≤ maxLen) :
    Calls Try.prog 27 #[.string s] w fun e w' => e = .returned (.bool (okB s)) ∧ w = w' := by
  unfold maxLen at hs
  go_enter Try.func27, Try.ntmps27
  go_wp2
  go_loop [3, 4] (fun d i => ∃ k wide : Nat, k ≤ s.size ∧ wide ≤ 120 ∧ i = .int .i64 k ∧ d = .int .i64 wide ∧ okFrom 0 (L s) = okFrom wide ((L s).drop k)) (fun _ i => s.size - (intOf i).toNat)
  case atStart => exact ⟨0, 0, Nat.zero_le _, Nat.zero_le _, rfl, rfl, rfl⟩
  case round =>
    obtain ⟨k, wide, hk, hwd, rfl, rfl, hp⟩ := hrel
    have HP := Lib.hid hp; clear hp
    by_cases hlt : k < s.size
    · have HS := Lib.hid (L_drop s k hlt)
      by_cases h10 : (s[k].toNat : Int) = 10
      · have q1 : ((s[k].toNat : Int) != 10) = false := by simpa using h10
        have q2 : ((s[k].toNat : Int) == 10) = true := by simpa using h10
        have q3 : s[k] = 10 := UInt8.toNat_inj.1 (by have : (10 : UInt8).toNat = 10 := rfl; omega)
        have HF := Lib.hid (show okFrom 0 (L s) = okFrom 0 ((L s).drop (k + 1)) by rw [HP.out, HS.out]; simp [okFrom, q3])
        clear HP HS h10 q3
        go_wp2
        go_round
        case rel => exact ⟨k + 1, 0, by omega, by omega, by go_num, rfl, HF.out⟩
        case measure => simp [intOf]; omega
      · have q1 : ((s[k].toNat : Int) != 10) = true := by simpa using h10
        have q2 : ((s[k].toNat : Int) == 10) = false := by simpa using h10
        have q3 : ¬ s[k] = 10 := fun h => h10 (by rw [h]; rfl)
        by_cases hlo : (s[k].toNat : Int) < 32
        · have HF := Lib.hid (show okFrom 0 (L s) = false by rw [HP.out, HS.out]; simp [okFrom, q3, plainC_low hlo])
          have q4 : decide ((s[k].toNat : Int) < 32) = true := by simpa using hlo
          clear HP HS h10 q3
          go_wp2
          go_ret
          exact ⟨ret_bool (by unfold okB; rw [HF.out]; simp), rfl⟩
        · have q4 : decide ((s[k].toNat : Int) < 32) = false := by simpa using hlo
          by_cases hhi : 126 < (s[k].toNat : Int)
          · have HF := Lib.hid (show okFrom 0 (L s) = false by rw [HP.out, HS.out]; simp [okFrom, q3, plainC_high hhi])
            have q5 : decide (126 < (s[k].toNat : Int)) = true := by simpa using hhi
            clear HP HS h10 q3
            go_wp2
            go_ret
            exact ⟨ret_bool (by unfold okB; rw [HF.out]; simp), rfl⟩
          · have q5 : decide (126 < (s[k].toNat : Int)) = false := by simpa using hhi
            by_cases hwide : wide + 1 ≤ 120
            · have HF := Lib.hid (show okFrom 0 (L s) = okFrom (wide + 1) ((L s).drop (k + 1)) by rw [HP.out, HS.out]; simp [okFrom, q3, plainC_yes (c := s[k]) (by omega) (by omega), hwide])
              clear HP HS h10 q3
              go_wp2
              go_round
              case rel => exact ⟨k + 1, wide + 1, by omega, by omega, by go_num, by go_num, HF.out⟩
              case measure => simp [intOf]; omega
            · have HF := Lib.hid (show okFrom 0 (L s) = false by rw [HP.out, HS.out]; simp [okFrom, q3, plainC_yes (c := s[k]) (by omega) (by omega)]; omega)
              clear HP HS h10 q3
              go_wp2
              go_ret
              exact ⟨ret_bool (by unfold okB; rw [HF.out]; simp), rfl⟩
    · have HF := Lib.hid (show okFrom 0 (L s) = true by rw [HP.out, List.drop_eq_nil_of_le (by rw [L_length]; omega)]; rfl)
      go_wp2
      go_ret
      exact ⟨ret_bool (by unfold okB; rw [HF.out]; simp; omega), rfl⟩

end Go.Proofs.Ytnpcohbbjfjjaaa
