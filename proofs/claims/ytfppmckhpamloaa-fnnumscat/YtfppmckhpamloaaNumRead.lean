/-
  The contract of impl.NumRead, for all texts and bytes.
-/
import Derived.Test.YtfppmckhpamloaaNumText
import Derived.Deep.RegionHeld3
namespace Go.Proofs.Ytfppmckhpamloaa
open Go.RowKit

theorem numR_neg {s : ByteArray} {i : Int} (h : i < 0) : numR s i = (0, -1) := by unfold numR; rw [if_neg (by omega)]
theorem numR_none {s : ByteArray} {a : Nat} (h : rdN ((L s).drop a) = none) : numR s (a : Int) = (0, -1) := by
  unfold numR; rw [if_pos (by omega), Int.toNat_natCast, h]
theorem numR_some {s : ByteArray} {a : Nat} {m : Int} {k : Nat} (h : rdN ((L s).drop a) = some (m, k)) : numR s (a : Int) = (m, (a : Int) + k) := by
  unfold numR; rw [if_pos (by omega), Int.toNat_natCast, h]
theorem numR_past {s : ByteArray} {a : Nat} (h : s.size ≤ a) : numR s (a : Int) = (0, -1) :=
  numR_none (by rw [List.drop_eq_nil_of_le (by rw [L_length]; exact h)]; rfl)
/-- The letters at a place are those of a list. -/
theorem cut_eq (s : ByteArray) (a k : Nat) (l : List UInt8) : (⟨l.toArray⟩ : ByteArray) = s.extract a (a + k) ↔ l = ((L s).drop a).take k := by
  constructor
  · intro h
    have h1 := congrArg L h
    rw [L_extract] at h1
    simp only [L] at h1 ⊢
    rw [h1, List.drop_take, show a + k - a = k by omega]
  · intro h
    apply ByteArray.ext
    apply Array.toList_inj.1
    have h1 := L_extract s a (a + k)
    unfold L at h1 h
    rw [h1, List.drop_take, show a + k - a = k by omega, ← h]
theorem L_get (s : ByteArray) (a j : Nat) (h : a + j < s.size) : ((L s).drop a)[j]'(by rw [List.length_drop, L_length]; omega) = s[a + j] := by
  rw [List.getElem_drop]; rfl
/-- What was read of a number: its code, how many letters; what follows from comparing its letters with those that stand there. -/
def Came (s : ByteArray) (a v k : Nat) : Prop :=
  (numT (numOf v) = s.extract a (a + k) → numR s (a : Int) = (numOf v, ((a + k : Nat) : Int))) ∧ (¬ numT (numOf v) = s.extract a (a + k) → numR s (a : Int) = (0, -1))
theorem Came.open {s : ByteArray} {a j : Nat} (h : US ((L s).drop a) j) (hn : rdN ((L s).drop a) = none) (hj : 1 ≤ j ∨ valU (((L s).drop a).take j) = 0) : Came s a (valU (((L s).drop a).take j)) j := by
  refine ⟨fun e => absurd ((cut_eq s a j _).1 e) (h.not_num ?_), fun _ => numR_none hn⟩
  rcases hj with hj | hj
  · exact .inl hj
  · rw [hj]; exact .inr rfl
theorem Came.last {s : ByteArray} {a v k : Nat} (h : rd ((L s).drop a) = some (v, k)) : Came s a v k := by
  refine ⟨fun e => ?_, fun e => ?_⟩
  · have h1 := numR_some (rdN_yes h ((cut_eq s a k _).1 e))
    rw [h1]; simp
  · exact numR_none (rdN_no h (fun e2 => e ((cut_eq s a k _).2 e2)))

theorem code_lay (a b j v : Nat) (d : Int) (hb : b = a + j) (hj : j < 6) (hv : v < 16 ^ j) (h0 : 0 ≤ d) (h16 : d < 16) : bits .or .i64 (v : Int) (wrap64 (d * 2 ^ ((b - a) * 4))) = ((v + 16 ^ j * d.toNat : Nat) : Int) := by
  obtain ⟨k, rfl⟩ := Int.eq_ofNat_of_zero_le h0
  subst hb
  rw [show a + j - a = j by omega, Nat.mul_comm j 4]
  have hp : (2 : Int) ^ (4 * j) = ((16 ^ j : Nat) : Int) := by rw [Int.pow_mul]; simp
  have hle : 16 ^ j ≤ 16 ^ 5 := Nat.pow_le_pow_right (by decide) (by omega)
  have hk : k ≤ 15 := by omega
  have hmul : k * 16 ^ j ≤ 15 * 16 ^ 5 := Nat.mul_le_mul hk hle
  have hw : wrap64 ((k : Int) * 2 ^ (4 * j)) = ((k * 16 ^ j : Nat) : Int) := by
    rw [hp, ← Int.natCast_mul]
    exact IntWalk.wrap64_in ((k * 16 ^ j : Nat) : Int) (by omega)
  rw [hw, or_high (4 * j) (v : Int) ((k * 16 ^ j : Nat) : Int) (by omega) (by rw [hp]; exact_mod_cast hv) (by omega) (Int.natCast_nonneg _) ?_ (by omega)]
  · rw [Int.toNat_natCast, Nat.mul_comm (16 ^ j) k]; simp
  · rw [hp, ← Int.natCast_emod, Nat.mul_mod_left]; rfl

theorem code_lt (j v d : Nat) (hj : j < 6) (hv : v < 16 ^ j) (hd : d < 16) : v + 16 ^ j * d < 16 ^ 6 := by
  have h1 : 16 ^ (j + 1) ≤ 16 ^ 6 := Nat.pow_le_pow_right (by decide) (by omega)
  have h2 : 16 ^ j * d ≤ 16 ^ j * 15 := Nat.mul_le_mul_left _ (by omega)
  rw [Nat.pow_succ] at h1
  omega
set_option maxRecDepth 100000 in
set_option maxHeartbeats 1000000 in
theorem numRead_at (s : ByteArray) (a : Nat) (w : World) (hs : s.size ≤ 2 ^ 40) (ha : a < s.size) :
    Calls Try.prog 18 #[.string s, .int .i64 (a : Int)] w fun e w' => e = .returned (.tuple #[.int .i64 (numR s (a : Int)).1, .int .i64 (numR s (a : Int)).2]) ∧ Below w.heap.size w w' := by
  have hll : ((L s).drop a).length = s.size - a := by rw [List.length_drop, L_length]
  have HLL := Lib.hid hll
  clear hll
  have q1 : decide ((a : Int) < 0) = false := by simp
  have q2 : decide (s.size ≤ a) = false := by simp; omega
  go_enter Try.func18, Try.ntmps18
  go_wp2_with fail
  go_step3
  go_wp2_with fail
  go_step3
  go_wp2_with fail
  go_loop [6, 7] (fun c x => ∃ (b v j : Nat), b = a + j ∧ j ≤ 6 ∧ b ≤ s.size ∧ c = .int .i64 v ∧ x = .int .i64 b ∧ v < 16 ^ 6 ∧ US ((L s).drop a) j ∧ v = valU (((L s).drop a).take j)) (fun _ x => s.size - (intOf x).toNat)
  case atStart => exact ⟨a, 0, 0, rfl, Nat.zero_le _, by omega, rfl, rfl, by decide, US.zero _, rfl⟩
  case round =>
    obtain ⟨b, v, j, hbj, hj6, hbs, rfl, rfl, hv, hu, hval⟩ := hrel
    have HB := Lib.hid hbj
    have HU := Lib.hid hu
    have HV := Lib.hid hval
    have hab : a ≤ b := by omega
    have hab6 : b ≤ a + 6 := by omega
    clear hu hval hbj
    by_cases hlt : b < s.size
    · have q3 : decide (b < s.size) = true := by simpa using hlt
      by_cases h6 : j < 6
      · have q4 : decide ((b : Int) - (a : Int) < 6) = true := by have := HB.out; simp; omega
        have hjl : j < ((L s).drop a).length := by have := HB.out; have := HLL.out; omega
        have HG := Lib.hid (show ((L s).drop a)[j] = s[b] by have h := HB.out; subst h; exact L_get s a j hlt)
        have hd := digU_bd s[b]
        have HD := Lib.hid (letterDigit_any s[b] w)
        have HVL := Lib.hid (show v < 16 ^ j by rw [HV.out]; exact HU.out.lt)
        generalize hdd : digU s[b] = d at *
        have HX := Lib.hid (show digU ((L s).drop a)[j] = d by rw [HG.out]; exact hdd)
        clear hdd
        by_cases hneg : d < 0
        · have q5 : decide (d < 0) = true := by simpa using hneg
          go_wp2_with fail
          refine HD.out.mono ?_
          rintro e w' ⟨rfl, rfl⟩
          go_wp2_with fail
          refine (codeNumber_any v w hv).mono ?_
          rintro e w' ⟨rfl, rfl⟩
          have HNT := Lib.hid (fun w => numText_any (numOf v) w)
          have HC := Lib.hid (show Came s a v j by rw [HV.out]; exact Came.open HU.out (rdN_none (HU.out.bad hjl (by rw [HX.out]; exact hneg))) (if h : j = 0 then .inr (by rw [h]; rfl) else .inl (by omega)))
          unfold Came at HC
          rw [← HB.out] at HC
          generalize numOf (v) = m at *
          go_wp2_with fail
          go_region_held3 (fun _ => True) (trivial) (first | (go_at_call 15; refine (HNT.out _).mono ?_; rintro e w1 ⟨rfl, hb1⟩))
          go_wp2_with fail
          · have hne := str_ne ‹_›
            (try rw [Exit.noGoto_ret])
            go_ret2
            exact ⟨ret_pair (HC.out.2 hne), (Below.refl _ w).drew.trans hb1⟩
          · have heq := str_eq ‹_›
            (try rw [Exit.noGoto_ret])
            go_ret2
            exact ⟨ret_pair (HC.out.1 heq), (Below.refl _ w).drew.trans hb1⟩
        · have q5 : decide (d < 0) = false := by simpa using hneg
          by_cases h16 : d < 16
          · have q6 : decide (d < 16) = true := by simpa using h16
            go_wp2_with fail
            refine HD.out.mono ?_
            rintro e w' ⟨rfl, rfl⟩
            go_wp2_with fail
            have HCL := Lib.hid (code_lay a b j v d HB.out h6 HVL.out (by omega) h16)
            have HLT := Lib.hid (code_lt j v d.toNat h6 HVL.out (by omega))
            have HCM := Lib.hid (Came.last (HU.out.last hjl (by rw [HX.out]; omega) (by rw [HX.out]; exact h16)))
            rw [HX.out, ← HV.out] at HCM
            rw [HCL.out]
            generalize v + 16 ^ j * d.toNat = c at *
            clear HCL
            refine (codeNumber_any c w HLT.out).mono ?_
            rintro e w' ⟨rfl, rfl⟩
            have HNT := Lib.hid (fun w => numText_any (numOf c) w)
            unfold Came at HCM
            rw [show a + (j + 1) = b + 1 by have := HB.out; omega] at HCM
            generalize numOf c = m at *
            have i1 : (0 : Int) ≤ (b : Int) + 1 := by omega
            have i2 : (b : Int) + 1 ≤ (s.size : Int) := by omega
            have i3 : (a : Int) ≤ (b : Int) + 1 := by omega
            go_wp2_with fail
            go_region_held3 (fun _ => True) (trivial) (first | (go_at_call 15; refine (HNT.out _).mono ?_; rintro e w1 ⟨rfl, hb1⟩))
            go_wp2_with fail
            · have hne := str_ne ‹_›
              (try rw [Exit.noGoto_ret])
              go_ret2
              exact ⟨ret_pair (HCM.out.2 hne), (Below.refl _ w).drew.trans hb1⟩
            · have heq := str_eq ‹_›
              (try rw [Exit.noGoto_ret])
              go_ret2
              exact ⟨ret_pair (HCM.out.1 heq), (Below.refl _ w).drew.trans hb1⟩
          · have q6 : decide (d < 16) = false := by simpa using h16
            have hbt : bits .and .i64 d 15 = d - 16 := by rw [and15 d (by omega) (by omega)]; omega
            go_wp2_with fail
            refine HD.out.mono ?_
            rintro e w' ⟨rfl, rfl⟩
            go_wp2_with fail
            have HCL := Lib.hid (code_lay a b j v (d - 16) HB.out h6 HVL.out (by omega) (by omega))
            have HLT := Lib.hid (code_lt j v (d - 16).toNat h6 HVL.out (by omega))
            have HSU := Lib.hid (HU.out.succ hjl (by rw [HX.out]; omega))
            rw [HX.out, ← HV.out, show d.toNat - 16 = (d - 16).toNat by omega] at HSU
            rw [HCL.out]
            generalize v + 16 ^ j * (d - 16).toNat = c at *
            clear HCL
            go_round
            case rel => exact ⟨b + 1, c, j + 1, by have := HB.out; omega, by omega, by omega, rfl, by go_num, HLT.out, HSU.out.1, HSU.out.2.symm⟩
            case measure => simp [intOf]; omega
      · have q4 : decide ((b : Int) - (a : Int) < 6) = false := by have := HB.out; simp; omega
        go_wp2_with fail
        refine (codeNumber_any v w hv).mono ?_
        rintro e w' ⟨rfl, rfl⟩
        have HNT := Lib.hid (fun w => numText_any (numOf v) w)
        have HC := Lib.hid (show Came s a v j by rw [HV.out]; exact Came.open HU.out (HU.out.long (by omega)) (.inl (by omega)))
        unfold Came at HC
        rw [← HB.out] at HC
        generalize numOf (v) = m at *
        go_wp2_with fail
        go_region_held3 (fun _ => True) (trivial) (first | (go_at_call 15; refine (HNT.out _).mono ?_; rintro e w1 ⟨rfl, hb1⟩))
        go_wp2_with fail
        · have hne := str_ne ‹_›
          (try rw [Exit.noGoto_ret])
          go_ret2
          exact ⟨ret_pair (HC.out.2 hne), (Below.refl _ w).drew.trans hb1⟩
        · have heq := str_eq ‹_›
          (try rw [Exit.noGoto_ret])
          go_ret2
          exact ⟨ret_pair (HC.out.1 heq), (Below.refl _ w).drew.trans hb1⟩
    · have q3 : decide (b < s.size) = false := by simpa using hlt
      go_wp2_with fail
      refine (codeNumber_any v w hv).mono ?_
      rintro e w' ⟨rfl, rfl⟩
      have HNT := Lib.hid (fun w => numText_any (numOf v) w)
      have HC := Lib.hid (show Came s a v j by rw [HV.out]; exact Came.open HU.out (rdN_none (HU.out.ended (by have := HB.out; have := HLL.out; omega))) (.inl (by have := HB.out; omega)))
      unfold Came at HC
      rw [← HB.out] at HC
      generalize numOf (v) = m at *
      go_wp2_with fail
      go_region_held3 (fun _ => True) (trivial) (first | (go_at_call 15; refine (HNT.out _).mono ?_; rintro e w1 ⟨rfl, hb1⟩))
      go_wp2_with fail
      · have hne := str_ne ‹_›
        (try rw [Exit.noGoto_ret])
        go_ret2
        exact ⟨ret_pair (HC.out.2 hne), (Below.refl _ w).drew.trans hb1⟩
      · have heq := str_eq ‹_›
        (try rw [Exit.noGoto_ret])
        go_ret2
        exact ⟨ret_pair (HC.out.1 heq), (Below.refl _ w).drew.trans hb1⟩

set_option maxHeartbeats 400000 in
theorem numRead_any (s : ByteArray) (i : Int) (w : World) (hs : s.size ≤ 2 ^ 40) :
    Calls Try.prog 18 #[.string s, .int .i64 i] w fun e w' => e = .returned (.tuple #[.int .i64 (numR s i).1, .int .i64 (numR s i).2]) ∧ Below w.heap.size w w' := by
  by_cases h0 : i < 0
  · have HN := Lib.hid (numR_neg (s := s) h0)
    have q1 : decide (i < 0) = true := by simpa using h0
    go_enter Try.func18, Try.ntmps18
    go_wp2_with fail
    go_step3
    go_wp2_with fail
    (try rw [Exit.noGoto_ret])
    go_ret2
    exact ⟨ret_pair HN.out, Below.refl _ _⟩
  · obtain ⟨a, rfl⟩ := Int.eq_ofNat_of_zero_le (by omega : 0 ≤ i)
    by_cases h1 : a < s.size
    · exact numRead_at s a w hs h1
    · have HN := Lib.hid (numR_past (s := s) (a := a) (by omega))
      have q1 : decide ((a : Int) < 0) = false := by simp
      have q2 : decide (s.size ≤ a) = true := by simp; omega
      go_enter Try.func18, Try.ntmps18
      go_wp2_with fail
      go_step3
      go_wp2_with fail
      (try rw [Exit.noGoto_ret])
      go_ret2
      exact ⟨ret_pair HN.out, Below.refl _ _⟩

end Go.Proofs.Ytfppmckhpamloaa
