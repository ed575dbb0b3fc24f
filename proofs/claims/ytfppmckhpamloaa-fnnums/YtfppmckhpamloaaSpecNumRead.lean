/-
  The contract of the model's NumRead, for all texts and bytes.
-/
import Derived.Test.YtfppmckhpamloaaNumRead
namespace Go.Proofs.Ytfppmckhpamloaa
open Go.RowKit

theorem l2In_at (n : Int) (w : World) (k : Nat) : Calls Try.prog 38 #[.int .i64 n] (w.drewN k) fun e w' => e = .returned (.bool (inB n)) ∧ w' = w.drewN k :=
  (l2In_any n (w.drewN k)).mono fun _ _ ⟨he, hw⟩ => ⟨he, hw.symm⟩
theorem specNumText_at (n : Int) (w : World) (k : Nat) : Calls Try.prog 16 #[.int .i64 n] (w.drewN k) fun e w' => e = .returned (.string (numT n)) ∧ w' = w.drewN k :=
  (specNumText_any n (w.drewN k)).mono fun _ _ ⟨he, hw⟩ => ⟨he, hw.symm⟩
theorem code_sum (v j : Nat) (d : Int) (hj : j ≤ 6) (hv : v < 16 ^ j) (h0 : 0 ≤ d) (h16 : d < 16) : (v : Int) + d % 16 * ((16 ^ j : Nat) : Int) = ((v + 16 ^ j * d.toNat : Nat) : Int) ∧ v + 16 ^ j * d.toNat < 16 ^ 7 := by
  obtain ⟨k, rfl⟩ := Int.eq_ofNat_of_zero_le h0
  refine ⟨?_, ?_⟩
  · rw [Int.emod_eq_of_lt h0 h16, Int.toNat_natCast, Nat.mul_comm (16 ^ j) k]; simp
  · have h1 : 16 ^ (j + 1) ≤ 16 ^ 7 := Nat.pow_le_pow_right (by decide) (by omega)
    have h2 : 16 ^ j * k ≤ 16 ^ j * 15 := Nat.mul_le_mul_left _ (by omega)
    rw [Nat.pow_succ] at h1
    rw [Int.toNat_natCast]
    omega
theorem prod_bd (d : Int) (P : Nat) (hP : P ≤ 16 ^ 7) : 0 ≤ d % 16 * (P : Int) ∧ d % 16 * (P : Int) ≤ 2 ^ 32 := by
  have h1 : 0 ≤ d % 16 := Int.emod_nonneg _ (by decide)
  have h2 : d % 16 < 16 := Int.emod_lt_of_pos _ (by decide)
  obtain ⟨k, hk⟩ := Int.eq_ofNat_of_zero_le h1
  rw [hk, ← Int.natCast_mul]
  have : k * P ≤ 15 * 16 ^ 7 := Nat.mul_le_mul (by omega) hP
  omega

/-- Two numbers are told, and nothing was written. -/
def Tells2 (x : Int × Int) (w : World) (e : Ending) (w' : World) : Prop := e = .returned (.tuple #[.int .i64 x.1, .int .i64 x.2]) ∧ ∃ n, w' = w.drewN n
theorem cut_ne {s : ByteArray} {a b : Nat} (h : a < b) (hb : b ≤ s.size) : ¬ ByteArray.empty = s.extract a b := by
  intro e
  have h1 := congrArg ByteArray.size e
  rw [ByteArray.size_extract] at h1
  have : ByteArray.empty.size = 0 := rfl
  omega
theorem code_up (v j : Nat) (d : Int) (h16 : 16 ≤ d) (h32 : d < 32) : (v : Int) + d % 16 * ((16 ^ j : Nat) : Int) = ((v + 16 ^ j * (d.toNat - 16) : Nat) : Int) := by
  obtain ⟨k, rfl⟩ := Int.eq_ofNat_of_zero_le (by omega : 0 ≤ d)
  rw [show (k : Int) % 16 = ((k - 16 : Nat) : Int) by omega, Int.toNat_natCast, Nat.mul_comm (16 ^ j)]
  simp

set_option maxRecDepth 100000 in
set_option maxHeartbeats 1000000 in
theorem specNumRead_at (s : ByteArray) (a : Nat) (w : World) (hs : s.size ≤ 2 ^ 40) :
    Calls Try.prog 20 #[.string s, .int .i64 (a : Int)] w (Tells2 (numR s (a : Int)) w) := by
  have hll : ((L s).drop a).length = s.size - a := by rw [List.length_drop, L_length]
  have HLL := Lib.hid hll
  clear hll
  go_enter Try.func20, Try.ntmps20
  go_wp2_with fail
  go_loop [6, 7, 8] (fun c p x => ∃ (b v j P : Nat), b = a + j ∧ j ≤ 7 ∧ c = .int .i64 v ∧ p = .int .i64 P ∧ x = .int .i64 b ∧ P = 16 ^ j ∧ US ((L s).drop a) j ∧ v = valU (((L s).drop a).take j)) (fun _ _ x => s.size - (intOf x).toNat)
  case atStart => exact ⟨a, 0, 0, 1, rfl, Nat.zero_le _, rfl, rfl, rfl, rfl, US.zero _, rfl⟩
  case round =>
    obtain ⟨b, v, j, P, hbj, hj7, rfl, rfl, rfl, hP, hu, hval⟩ := hrel
    have HB := Lib.hid hbj
    have HU := Lib.hid hu
    have HV := Lib.hid hval
    have HP := Lib.hid hP
    have hab : a ≤ b := by omega
    have hvl : v < 16 ^ 7 := by
      have h1 := hu.lt
      have h2 : 16 ^ j ≤ 16 ^ 7 := Nat.pow_le_pow_right (by decide) hj7
      rw [hval]; omega
    have hPl : P ≤ 16 ^ 7 := by rw [hP]; exact Nat.pow_le_pow_right (by decide) hj7
    clear hu hval hbj hP
    have q0 : decide ((0 : Int) ≤ (b : Int)) = true := by simp
    by_cases hlt : b < s.size
    · have q1 : decide (b < s.size) = true := by simpa using hlt
      by_cases h7 : j < 7
      · have hP6 : P ≤ 16777216 := by rw [HP.out]; exact Nat.pow_le_pow_right (n := 16) (by decide) (by omega : j ≤ 6)
        have q2 : decide ((P : Int) ≤ 16777216) = true := by simp; omega
        have hjl : j < ((L s).drop a).length := by have := HB.out; have := HLL.out; omega
        have HG := Lib.hid (show ((L s).drop a)[j] = s[b] by have h := HB.out; subst h; exact L_get s a j hlt)
        have hd := digU_bd s[b]
        have HD := Lib.hid (l2Digit_any s[b] w)
        have HVL := Lib.hid (show v < 16 ^ j by rw [HV.out]; exact HU.out.lt)
        generalize hdd : digU s[b] = d at *
        have HX := Lib.hid (show digU ((L s).drop a)[j] = d by rw [HG.out]; exact hdd)
        clear hdd
        by_cases hneg : d < 0
        · have q5 : decide (d < 0) = true := by simpa using hneg
          have HN := Lib.hid (numR_none (s := s) (a := a) (rdN_none (HU.out.bad hjl (by rw [HX.out]; exact hneg))))
          go_wp2_with fail
          refine HD.out.mono ?_
          rintro e w' ⟨rfl, rfl⟩
          go_wp2_with fail
          go_ret2
          exact ⟨ret_pair HN.out, 0, rfl⟩
        · have q5 : decide (d < 0) = false := by simpa using hneg
          have hpb := prod_bd d P hPl
          by_cases h16 : d < 16
          · have q6 : decide ((16 : Int) ≤ d) = false := by simp; omega
            have HCS := Lib.hid (code_sum v j d (by omega) HVL.out (by omega) h16)
            have HCM := Lib.hid (Came.last (HU.out.last hjl (by rw [HX.out]; omega) (by rw [HX.out]; exact h16)))
            rw [HX.out, ← HV.out] at HCM
            rw [← HP.out] at HCS HCM
            generalize v + P * d.toNat = N at *
            have hN := HCS.out.1
            have hNl := HCS.out.2
            clear HCS
            go_wp2_with fail
            refine HD.out.mono ?_
            rintro e w' ⟨rfl, rfl⟩
            go_wp2_with fail
            · have h1 : ((N : Int) % 2 == 1) = true := by assumption
              have HM := Lib.hid (show -((N : Int) / 2) = numOf N by unfold numOf; rw [if_pos (by simp at h1; omega)]; omega)
              rw [HM.out]
              unfold Came at HCM
              rw [show a + (j + 1) = b + 1 by have := HB.out; omega] at HCM
              generalize numOf N = m at *
              clear h1 HM hN
              have w1 : IntKind.i64.wrap ((b : Int) + 1) = (b : Int) + 1 := IntWalk.i64_in _ (by omega)
              have i1 : (0 : Int) ≤ (b : Int) + 1 := by omega
              have i2 : (b : Int) + 1 ≤ (s.size : Int) := by omega
              have i3 : (a : Int) ≤ (b : Int) + 1 := by omega
              have i4 : ((b : Int) + 1).toNat = b + 1 := by omega
              cases hb : inB m
              · have HI := Lib.hid (l2In_at m)
                rw [hb] at HI
                have HN := Lib.hid (HCM.out.2 (by rw [numT_out hb]; exact cut_ne (by omega) (by omega)))
                clear hb
                go_quiet ((go_at_call 38; exact Calls.quiet_of_same (HI.out _ _)))
                go_wp2_with fail
                go_ret2
                exact ⟨ret_pair HN.out, _, rfl⟩
              · have HI := Lib.hid (l2In_at m)
                rw [hb] at HI
                have HT := Lib.hid (specNumText_at m)
                clear hb
                go_quiet ((first | (go_at_call 38; exact Calls.quiet_of_same (HI.out _ _)) | (go_at_call 16; exact Calls.quiet_of_same (HT.out _ _))))
                go_wp2_with fail
                · have hne := str_ne ‹_›
                  go_ret2
                  exact ⟨ret_pair (HCM.out.2 hne), _, rfl⟩
                · have heq := str_eq ‹_›
                  go_ret2
                  exact ⟨ret_pair (HCM.out.1 heq), _, rfl⟩
            · have h1 : ((N : Int) % 2 == 1) = false := by assumption
              have HM := Lib.hid (show (N : Int) / 2 = numOf N by unfold numOf; rw [if_neg (by simp at h1; omega)]; omega)
              rw [HM.out]
              unfold Came at HCM
              rw [show a + (j + 1) = b + 1 by have := HB.out; omega] at HCM
              generalize numOf N = m at *
              clear h1 HM hN
              have w1 : IntKind.i64.wrap ((b : Int) + 1) = (b : Int) + 1 := IntWalk.i64_in _ (by omega)
              have i1 : (0 : Int) ≤ (b : Int) + 1 := by omega
              have i2 : (b : Int) + 1 ≤ (s.size : Int) := by omega
              have i3 : (a : Int) ≤ (b : Int) + 1 := by omega
              have i4 : ((b : Int) + 1).toNat = b + 1 := by omega
              cases hb : inB m
              · have HI := Lib.hid (l2In_at m)
                rw [hb] at HI
                have HN := Lib.hid (HCM.out.2 (by rw [numT_out hb]; exact cut_ne (by omega) (by omega)))
                clear hb
                go_quiet ((go_at_call 38; exact Calls.quiet_of_same (HI.out _ _)))
                go_wp2_with fail
                go_ret2
                exact ⟨ret_pair HN.out, _, rfl⟩
              · have HI := Lib.hid (l2In_at m)
                rw [hb] at HI
                have HT := Lib.hid (specNumText_at m)
                clear hb
                go_quiet ((first | (go_at_call 38; exact Calls.quiet_of_same (HI.out _ _)) | (go_at_call 16; exact Calls.quiet_of_same (HT.out _ _))))
                go_wp2_with fail
                · have hne := str_ne ‹_›
                  go_ret2
                  exact ⟨ret_pair (HCM.out.2 hne), _, rfl⟩
                · have heq := str_eq ‹_›
                  go_ret2
                  exact ⟨ret_pair (HCM.out.1 heq), _, rfl⟩
          · have q6 : decide ((16 : Int) ≤ d) = true := by simp; omega
            go_wp2_with fail
            refine HD.out.mono ?_
            rintro e w' ⟨rfl, rfl⟩
            go_wp2_with fail
            have HCU := Lib.hid (code_up v j d (by omega) (by omega))
            have HSU := Lib.hid (HU.out.succ hjl (by rw [HX.out]; omega))
            rw [HX.out, ← HV.out] at HSU
            go_round
            case rel => exact ⟨b + 1, _, j + 1, P * 16, by have := HB.out; omega, by omega, by rw [HP.out, HCU.out], by go_num, by go_num, by rw [HP.out, Nat.pow_succ], HSU.out.1, HSU.out.2.symm⟩
            case measure => simp [intOf]; omega
      · have q2 : decide ((P : Int) ≤ 16777216) = false := by have h := HP.out; rw [show j = 7 by omega] at h; simp; omega
        have HN := Lib.hid (numR_none (s := s) (a := a) (HU.out.long (by omega)))
        go_wp2_with fail
        go_ret2
        exact ⟨ret_pair HN.out, 0, rfl⟩
    · have q1 : decide (b < s.size) = false := by simpa using hlt
      have HN := Lib.hid (numR_none (s := s) (a := a) (rdN_none (HU.out.ended (by have := HB.out; have := HLL.out; omega))))
      go_wp2_with fail
      go_ret2
      exact ⟨ret_pair HN.out, 0, rfl⟩

set_option maxHeartbeats 400000 in
theorem specNumRead_any (s : ByteArray) (i : Int) (w : World) (hs : s.size ≤ 2 ^ 40) :
    Calls Try.prog 20 #[.string s, .int .i64 i] w (Tells2 (numR s i) w) := by
  by_cases h0 : i < 0
  · have HN := Lib.hid (numR_neg (s := s) h0)
    have q0 : decide (0 ≤ i) = false := by simpa using h0
    go_enter Try.func20, Try.ntmps20
    go_wp2_with fail
    go_loop [6, 7, 8] (fun c p x => c = .int .i64 0 ∧ p = .int .i64 1 ∧ x = .int .i64 i) (fun _ _ _ => 0)
    case atStart => exact ⟨rfl, rfl, rfl⟩
    case round =>
      obtain ⟨rfl, rfl, rfl⟩ := hrel
      go_wp2_with fail
      go_ret2
      exact ⟨ret_pair HN.out, 0, rfl⟩
  · obtain ⟨a, rfl⟩ := Int.eq_ofNat_of_zero_le (by omega : 0 ≤ i)
    exact specNumRead_at s a w hs

end Go.Proofs.Ytfppmckhpamloaa
