/-
  The contracts of the model's NumLetter, l2In, l2Digits, NumText, l12Find and l2Digit, for all arguments.
-/
import Derived.Test.YtdkliboehdohdaaNumWalk
namespace Go.Proofs.Ytdkliboehdohdaa
open Go.RowKit

/-- The letters of all digits. -/
def letters : ByteArray := ⟨#[97, 98, 99, 100, 101, 102, 103, 104, 105, 106, 107, 108, 109, 110, 111, 112, 65, 66, 67, 68, 69, 70, 71, 72, 73, 74, 75, 76, 77, 78, 79, 80]⟩
theorem letters_size : letters.size = 32 := rfl
theorem letters_at : ∀ k : Fin 32, letters[k.1]'(by rw [letters_size]; exact k.2) = letU k.1 := by decide
theorem letters_get (k : Nat) (h : k < letters.size) : letters[k] = letU k := letters_at ⟨k, by rw [letters_size] at h; exact h⟩
theorem letters_cut (k : Nat) (h : k < 32) : letters.extract k (k + 1) = letB k := by
  apply ByteArray.ext
  apply Array.toList_inj.1
  rw [Lib.extract_data, show k + 1 - k = 1 by omega, List.drop_eq_getElem_cons (by simpa [letters] using h)]
  show [letters[k]'(by rw [letters_size]; exact h)] = [letU k]
  rw [letters_get]

theorem specNumLetter_in (x : Int) (w : World) (h0 : 0 ≤ x) (h1 : x < 32) :
    Calls Try.prog 65 #[.int .i64 x] w fun e w' => e = .returned (.string (letB x.toNat)) ∧ w = w' := by
  have q1 : decide (x < 0) = false := by simpa using h0
  have q2 : decide (31 < x) = false := by simp; omega
  obtain ⟨k, rfl⟩ := Int.eq_ofNat_of_zero_le h0
  have HL := Lib.hid (letters_cut k (by omega))
  go_enter Try.func65, Try.ntmps65
  go_wp2
  go_ret
  exact ⟨ret_str HL.out, rfl⟩
theorem specNumLetter_out (d : Int) (w : World) (hd : d < 0 ∨ 31 < d) :
    Calls Try.prog 65 #[.int .i64 d] w fun e w' => e = .returned (.string ByteArray.empty) ∧ w = w' := by
  rcases hd with h | h
  · go_enter Try.func65, Try.ntmps65
    go_wp2
    go_ret
    exact ⟨rfl, rfl⟩
  · have h0 : ¬ d < 0 := by omega
    go_enter Try.func65, Try.ntmps65
    go_wp2
    go_ret
    exact ⟨rfl, rfl⟩
theorem l2In_any (n : Int) (w : World) :
    Calls Try.prog 54 #[.int .i64 n] w fun e w' => e = .returned (.bool (inB n)) ∧ w = w' := by
  by_cases h1 : -1000000 ≤ n
  · have q1 : decide (-1000000 ≤ n) = true := by simpa using h1
    have HB := Lib.hid (show inB n = decide (n ≤ 1000000) by unfold inB; rw [q1]; rfl)
    go_enter Try.func54, Try.ntmps54
    go_wp2
    go_ret
    exact ⟨by rw [HB.out]; rfl, rfl⟩
  · have q1 : decide (-1000000 ≤ n) = false := by simpa using h1
    have HB := Lib.hid (show inB n = false by unfold inB; rw [q1]; rfl)
    go_enter Try.func54, Try.ntmps54
    go_wp2
    go_ret
    exact ⟨by rw [HB.out]; rfl, rfl⟩
def digT (n : Nat) : ByteArray := ⟨(digs n).toArray⟩
theorem digT_size (n : Nat) (h : n < 16 ^ 6) : (digT n).size ≤ 6 := by
  have := digs_length 5 n h
  simpa [digT, ByteArray.size] using this
theorem digT_big {n : Nat} (h : ¬ n < 16) : letB (16 + n % 16) ++ digT (n / 16) = digT n := by
  apply ByteArray.ext
  apply Array.toList_inj.1
  simp [letB, digT, digs_big h]
set_option maxHeartbeats 400000 in
theorem l2Digits_any (n : Nat) : ∀ (w : World), n < 16 ^ 6 →
    Calls Try.prog 63 #[.int .i64 (n : Int)] w fun e w' => e = .returned (.string (digT n)) ∧ w = w' := by
  induction n using Nat.strongRecOn with
  | ind n ih =>
    intro w hn
    by_cases h : n < 16
    · have HE := Lib.hid (show letB ((n : Int)).toNat = digT n by simp [letB, digT, digs_small h])
      clear ih
      go_enter Try.func63, Try.ntmps63
      go_wp2_with fail
      refine (specNumLetter_in (n : Int) w (by omega) (by omega)).mono ?_
      rintro e w' ⟨rfl, rfl⟩
      go_wp2_with fail
      go_ret
      exact ⟨ret_str HE.out, rfl⟩
    · have HE := Lib.hid (digT_big h)
      have HI := Lib.hid (ih (n / 16) (by omega) w (by omega))
      clear ih
      go_enter Try.func63, Try.ntmps63
      go_wp2_with fail
      refine (specNumLetter_in (16 + (n : Int) % 16) w (by omega) (by omega)).mono ?_
      rintro e w' ⟨rfl, rfl⟩
      go_wp2_with fail
      have HI2 := HI.out
      rw [show ((n / 16 : Nat) : Int) = (n : Int) / 16 from by omega] at HI2
      refine HI2.mono ?_
      clear HI2 HI
      rintro e w' ⟨rfl, rfl⟩
      have hs := digT_size (n / 16) (by omega)
      have HT := Lib.hid (show ((16 : Int) + (n : Int) % 16).toNat = 16 + n % 16 by omega)
      rw [HT.out]
      have hs1 : (letB (16 + n % 16)).size = 1 := rfl
      generalize letB (16 + n % 16) = x at *
      generalize digT (n / 16) = y at *
      go_wp2_with fail
      go_ret
      exact ⟨ret_str HE.out, rfl⟩
theorem numT_in {n : Int} (h : inB n = true) : numT n = digT (codeOf n) := by unfold numT digT; rw [numL_in h]
theorem numT_out {n : Int} (h : inB n = false) : numT n = ByteArray.empty := by unfold numT; rw [numL_out h]; rfl
set_option maxHeartbeats 400000 in
theorem specNumText_any (n : Int) (w : World) :
    Calls Try.prog 55 #[.int .i64 n] w fun e w' => e = .returned (.string (numT n)) ∧ w = w' := by
  have HI := Lib.hid (l2In_any n w)
  cases hb : inB n
  · have HT := Lib.hid (numT_out hb)
    rw [hb] at HI
    clear hb
    go_enter Try.func55, Try.ntmps55
    go_wp2_with fail
    refine HI.out.mono ?_
    rintro e w' ⟨rfl, rfl⟩
    go_wp2_with fail
    go_ret
    exact ⟨ret_str HT.out.symm, rfl⟩
  · have HT := Lib.hid (numT_in hb)
    have hbd := inB_bd hb
    have hlt := codeOf_lt hb
    have HD := Lib.hid (l2Digits_any (codeOf n) w hlt)
    rw [hb] at HI
    clear hb hlt
    by_cases h0 : n < 0
    · rw [show (codeOf n : Int) = -2 * n + 1 by unfold codeOf; rw [if_pos h0]; omega] at HD
      go_enter Try.func55, Try.ntmps55
      go_wp2_with fail
      refine HI.out.mono ?_
      rintro e w' ⟨rfl, rfl⟩
      go_wp2_with fail
      refine HD.out.mono ?_
      rintro e w' ⟨rfl, rfl⟩
      go_wp2_with fail
      go_ret
      exact ⟨ret_str HT.out.symm, rfl⟩
    · rw [show (codeOf n : Int) = 2 * n by unfold codeOf; rw [if_neg h0]; omega] at HD
      go_enter Try.func55, Try.ntmps55
      go_wp2_with fail
      refine HI.out.mono ?_
      rintro e w' ⟨rfl, rfl⟩
      go_wp2_with fail
      refine HD.out.mono ?_
      rintro e w' ⟨rfl, rfl⟩
      go_wp2_with fail
      go_ret
      exact ⟨ret_str HT.out.symm, rfl⟩

end Go.Proofs.Ytdkliboehdohdaa
