/-
  The contract of impl.NumText, for all numbers.
-/
import Derived.Test.YtdkliboehdohdaaNumSpec
import Derived.Test.YtdkliboehdohdaaBuilder
namespace Go.Proofs.Ytdkliboehdohdaa
open Go.RowKit

theorem digs_acc {k c : Nat} {acc : List UInt8} (h : ¬ k < 16) (he : acc ++ digs k = digs c) : (acc ++ (letB (16 + k % 16)).data.toList) ++ digs (k / 16) = digs c := by
  rw [← he, digs_big h]; simp [letB]
theorem digs_acc_le {k c : Nat} {acc : List UInt8} (hc : c < 16 ^ 6) (he : acc ++ digs k = digs c) : acc.length ≤ 5 := by
  have h1 := digs_length 5 c hc
  rw [← he, List.length_append] at h1
  have h2 : 0 < (digs k).length := List.length_pos_iff.2 (digs_ne k)
  omega

set_option maxRecDepth 100000 in
set_option maxHeartbeats 1000000 in
theorem numText_in (n : Int) (w : World) (hb : inB n = true) :
    Calls Try.prog 51 #[.int .i64 n] w fun e w' => e = .returned (.string (numT n)) ∧ Below w.heap.size w w' := by
  have HT := Lib.hid (numT_in hb)
  have hbd := inB_bd hb
  have hlt := codeOf_lt hb
  have HS := Lib.hid (fun w => signedCode_any n w hb)
  generalize codeOf n = c at *
  clear hb
  have q1 : decide (n < -1000000) = false := by simp; omega
  have q2 : decide (1000000 < n) = false := by simp; omega
  go_enter Try.func51, Try.ntmps51
  go_wp2_with fail
  refine (HS.out _).mono ?_
  rintro e w' ⟨rfl, rfl⟩
  clear HS
  go_wp2_with fail
  go_loopw [4] (fun x wr => ∃ (k : Nat) (acc : List UInt8), x = .int .i64 k ∧ k < 16 ^ 6 ∧ Bd w.heap.size w.heap.size acc wr ∧ acc ++ digs k = digs c ∧ Below w.heap.size w wr) (fun x _ => (intOf x).toNat)
  case atStart => exact ⟨c, [], rfl, hlt, Bd.new w, rfl, (Below.refl _ w).alloc (Nat.le_refl _) _⟩
  case round =>
    obtain ⟨k, acc, rfl, hk, hbd, he, hB⟩ := hrel
    have hal := digs_acc_le hlt he
    have hsz := hB.size
    by_cases h16 : k < 16
    · have q3 : decide ((15 : Int) < (k : Int)) = false := by simp; omega
      have HE := Lib.hid he
      have HD := Lib.hid hbd
      clear he hbd
      go_wp2_with fail
      refine (numLetter_in (k : Int) wr (by omega) (by omega)).mono ?_
      rintro e w1 ⟨rfl, hb1⟩
      have hs1 := hb1.size
      go_wp2_with fail
      refine (writeString_any _ _ acc (letB ((k : Int)).toNat) w1 (HD.out.below hb1) (by show acc.length + 1 ≤ _; omega) (by omega)).mono ?_
      rintro e w2 ⟨rfl, hd2, hb2⟩
      have hs2 := hb2.size
      have HD2 := Lib.hid hd2.bd
      clear hd2
      go_wp2_with fail
      refine (Try.Builder_String_any _ _ _ w2 HD2.out (by omega)).mono ?_
      rintro e w3 ⟨rfl, hb3⟩
      go_wp2_with fail
      go_ret
      refine ⟨ret_str ?_, ((hB.trans (hb1.mono (by omega))).trans hb2).trans hb3⟩
      rw [HT.out]
      unfold digT
      rw [← HE.out, digs_small h16]
      simp [letB]
    · have q3 : decide ((15 : Int) < (k : Int)) = true := by simp; omega
      have hbt1 : bits .and .i64 (k : Int) 15 = (k : Int) % 16 := and15 _ (by omega) (by omega)
      have hbt2 : bits .or .i64 ((k : Int) % 16) 16 = (k : Int) % 16 + 16 := or16 _ (by omega) (by omega)
      have HE := Lib.hid (digs_acc h16 he)
      have HD := Lib.hid hbd
      clear he hbd
      go_wp2_with fail
      refine (numLetter_in ((k : Int) % 16 + 16) wr (by omega) (by omega)).mono ?_
      rintro e w1 ⟨rfl, hb1⟩
      have hs1 := hb1.size
      have HL := Lib.hid (show ((k : Int) % 16 + 16).toNat = 16 + k % 16 by omega)
      rw [HL.out]
      go_wp2_with fail
      refine (writeString_any _ _ acc (letB (16 + k % 16)) w1 (HD.out.below hb1) (by show acc.length + 1 ≤ _; omega) (by omega)).mono ?_
      rintro e w2 ⟨rfl, hd2, hb2⟩
      have HD2 := Lib.hid hd2.bd
      clear hd2
      go_wp2_with fail
      go_roundw
      case rel => exact ⟨k / 16, _, by go_num, by omega, HD2.out, HE.out, (hB.trans (hb1.mono (by omega))).trans hb2⟩
      case measure => simp [intOf]; omega

set_option maxHeartbeats 400000 in
theorem numText_any (n : Int) (w : World) :
    Calls Try.prog 51 #[.int .i64 n] w fun e w' => e = .returned (.string (numT n)) ∧ Below w.heap.size w w' := by
  cases hb : inB n
  · have HT := Lib.hid (numT_out hb)
    have h : n < -1000000 ∨ 1000000 < n := by
      rcases Int.lt_or_le n (-1000000) with h | h
      · exact .inl h
      · rcases Int.lt_or_le 1000000 n with h2 | h2
        · exact .inr h2
        · rw [inB_yes h h2] at hb; simp at hb
    clear hb
    rcases h with h | h
    · have q1 : decide (n < -1000000) = true := by simpa using h
      go_enter Try.func51, Try.ntmps51
      go_wp2_with fail
      go_ret
      exact ⟨ret_str HT.out.symm, Below.refl _ _⟩
    · have q1 : decide (n < -1000000) = false := by simp; omega
      have q2 : decide (1000000 < n) = true := by simpa using h
      go_enter Try.func51, Try.ntmps51
      go_wp2_with fail
      go_ret
      exact ⟨ret_str HT.out.symm, Below.refl _ _⟩
  · exact numText_in n w hb

end Go.Proofs.Ytdkliboehdohdaa
