/-
  The contracts of the model's l4Level and l12Dec.
-/
import Derived.Test.YtaclndbilpaboaaDoorSpecEx
import Derived.Test.YtaclndbilpaboaaDoorExLaws
import Derived.Laws.BytesArg
namespace Go.Proofs.YtaclndbilpaboaaDoor
open Go.RowKit

set_option maxRecDepth 100000 in
set_option maxHeartbeats 1000000 in
theorem l4Level_any (p : Pt) (hf : p.fine = true) (A : Option Addr) (m c : Nat) (w : World) :
    Calls Tryd.prog 40 #[.agg #[.int .i64 p.ex.kind, .int .i64 p.ex.n, .string p.ex.s, .slice A m c]] w fun e w' => e = .returned (.int .i64 (p.lvl : Int)) ∧ Below w.heap.size w w' := by
  cases p with
  | num n =>
    simp only [Pt.ex, Ex.kind, Ex.n, Ex.s]
    go_enter Tryd.func40, Tryd.ntmps40
    go_wp2_with fail
    go_ret
    exact ⟨rfl, (Below.refl _ w).alloc (Nat.le_refl _) _⟩
  | name s =>
    simp only [Pt.ex, Ex.kind, Ex.n, Ex.s]
    go_enter Tryd.func40, Tryd.ntmps40
    go_wp2_with fail
    go_ret
    exact ⟨rfl, (Below.refl _ w).alloc (Nat.le_refl _) _⟩
  | «as» s a =>
    simp only [Pt.ex, Ex.kind, Ex.n, Ex.s]
    go_enter Tryd.func40, Tryd.ntmps40
    go_wp2_with fail
    go_ret
    exact ⟨rfl, (Below.refl _ w).alloc (Nat.le_refl _) _⟩
  | two s a b =>
    simp only [Pt.fine, Bool.and_eq_true, decide_eq_true_eq] at hf
    simp only [Pt.ex, Ex.kind, Ex.n, Ex.s]
    have h0 := hf.1
    clear hf
    have HF := Lib.hid (show (Pt.two s a b).lvl = if (s.toList == [60]) = true then 1 else if (s.toList == [42]) = true then 3 else 2 by
      rw [isS, isS]
      show hold s = _
      unfold hold at h0 ⊢
      by_cases h1 : s = sLess
      · subst h1; rfl
      · by_cases h2 : s = sPlus
        · subst h2; rfl
        · by_cases h3 : s = sMinus
          · subst h3; rfl
          · by_cases h4 : s = sTimes
            · subst h4; rfl
            · rw [if_neg h1, if_neg h2, if_neg h3, if_neg h4] at h0; exact absurd rfl h0)
    clear h0
    generalize (Pt.two s a b).lvl = lv at *
    cases h1 : (s.toList == [60])
    · cases h2 : (s.toList == [42])
      · rw [h1, h2] at HF
        go_enter Tryd.func40, Tryd.ntmps40
        go_wp2_with fail
        go_ret
        exact ⟨by rw [HF.out]; rfl, (Below.refl _ w).alloc (Nat.le_refl _) _⟩
      · rw [h1, h2] at HF
        go_enter Tryd.func40, Tryd.ntmps40
        go_wp2_with fail
        go_ret
        exact ⟨by rw [HF.out]; rfl, (Below.refl _ w).alloc (Nat.le_refl _) _⟩
    · rw [h1] at HF
      go_enter Tryd.func40, Tryd.ntmps40
      go_wp2_with fail
      go_ret
      exact ⟨by rw [HF.out]; rfl, (Below.refl _ w).alloc (Nat.le_refl _) _⟩

theorem decDigits_step {m : Nat} (h : ¬ m < 10) : Lib.decDigits m = Lib.decDigits (m / 10) ++ [UInt8.ofNat (48 + m % 10)] := by
  rw [Lib.decDigits, dif_neg h]

theorem conv_oneN (W : World) (x : Int) : (convert 39 9 (.slice (some ⟨W.heap.size, 0, none⟩) 1 1)).run Tryd.prog (W.alloc (.cells #[.int .u8 x] 5)) = .ok (.string (strOfNums [x])) (W.alloc (.cells #[.int .u8 x] 5)) :=
  run_convert_bytes_arg _ 39 5 Tryd.underlying39 Tryd.underlying5 W.heap.size 0 1 1 [x] rfl (fun i hi => (by obtain rfl : i = 0 := (by omega); exact cell_made4 W #[.int .u8 x] 5 0 _ rfl)) _ Tryd.underlying9
theorem L_nums (x : Nat) (out : ByteArray) : L (strOfNums [(x : Int)] ++ out) = UInt8.ofNat x :: L out := by
  simp [L, strOfNums]

set_option maxRecDepth 100000 in
set_option maxHeartbeats 1000000 in
theorem l12Dec_any (n : Int) (w : World) (h0 : 0 ≤ n) (h1 : n ≤ 1000000) :
    Calls Tryd.prog 41 #[.int .i64 n] w fun e w' => e = .returned (.string (decS n)) ∧ Below w.heap.size w w' := by
  obtain ⟨N, rfl⟩ := Int.eq_ofNat_of_zero_le h0
  have q1 : decide ((N : Int) < -9223372036854775807) = false := decide_eq_false (by omega)
  have q2 : decide ((N : Int) < 0) = false := by simp
  have hlen : (Lib.decDigits N).length ≤ 7 := decL_length ((decL_iff _).2 ⟨N, by omega, rfl⟩)
  have kc := conv_oneN
  go_enter Tryd.func41, Tryd.ntmps41
  go_wp2_with fail
  go_loopw [0, 3] (fun i o wr => ∃ (m : Nat) (out : ByteArray), m ≤ 1000000 ∧ i = .int .i64 (m : Int) ∧ o = .string out ∧ Hid (Lib.decDigits N = Lib.decDigits m ++ L out) ∧ out.size ≤ 7 ∧ Below w.heap.size w wr) (fun i _ _ => (intOf i).toNat)
  case atStart => exact ⟨N, _, by omega, rfl, rfl, Lib.hid (List.append_nil _).symm, by decide, Below.refl _ _⟩
  case round =>
    obtain ⟨m, out, hm, rfl, rfl, HD, hsz, hb⟩ := hrel
    by_cases hlt : m < 10
    · have q3 : decide ((9 : Int) < (m : Int)) = false := by simp; omega
      have kz : (strOfNums [48 + (m : Int)]).size = 1 := strOfNums_size _
      have HR := Lib.hid (show strOfNums [48 + (m : Int)] ++ out = decS (N : Int) by
        unfold decS
        rw [Int.toNat_natCast, HD.out, Lib.decDigits_one hlt]
        exact ByteArray.ext (Array.toList_inj.1 (L_nums (48 + m) out)))
      go_wp2_with fail
      · go_ret
        exact ⟨ret_str HR.out, hb.alloc hb.size _⟩
    · have q3 : decide ((9 : Int) < (m : Int)) = true := by simp; omega
      have q4 : (m : Int).tmod 10 = ((m % 10 : Nat) : Int) := by rw [Int.tmod_eq_emod_of_nonneg (by omega)]; omega
      have q5 : (m : Int).tdiv 10 = ((m / 10 : Nat) : Int) := by rw [Int.tdiv_eq_ediv_of_nonneg (by omega)]; omega
      have kz : (strOfNums [48 + (m : Int) % 10]).size = 1 := strOfNums_size _
      have HR := Lib.hid (show Lib.decDigits N = Lib.decDigits (m / 10) ++ L (strOfNums [48 + (m : Int) % 10] ++ out) by
        rw [HD.out, decDigits_step hlt, show (48 + (m : Int) % 10) = ((48 + m % 10 : Nat) : Int) by omega, L_nums, List.append_assoc]; rfl)
      have hsz2 : (strOfNums [48 + (m : Int) % 10] ++ out).size ≤ 7 := by
        have := congrArg List.length HR.out
        rw [List.length_append] at this
        have e : (L (strOfNums [48 + (m : Int) % 10] ++ out)).length = (strOfNums [48 + (m : Int) % 10] ++ out).size := Array.length_toList
        omega
      go_wp2_with fail
      · exact ⟨⟨m / 10, _, by omega, rfl, rfl, HR, hsz2, hb.alloc hb.size _⟩, by simp [intOf]; omega⟩
end Go.Proofs.YtaclndbilpaboaaDoor
