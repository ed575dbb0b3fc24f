/-
  The contracts of the model's l12Find, l3Word, l12Num, l3Num, TokOk, TokKind, for all texts.
-/
import Derived.Test.YtaclndbilpaboaaGreatDoorBase
import Derived.Test.YtaclndbilpaboaaGreatDoorTextMath
import Derived.Test.YtaclndbilpaboaaGreatDoorTokCut
namespace Go.Proofs.YtaclndbilpaboaaGreatDoor
open Go.RowKit

/-- The first place of a byte, or -1. -/
def findB (s : ByteArray) (c : UInt8) : Int := match s.data.toList.findIdx? (· == c) with | some k => (k : Int) | none => -1
theorem findB_none {s : ByteArray} {c : UInt8} (h : ∀ k (hk : k < s.size), s[k] ≠ c) : findB s c = -1 := by
  have : s.data.toList.findIdx? (· == c) = none := by
    rw [List.findIdx?_eq_none_iff]
    intro x hx
    obtain ⟨k, hk, rfl⟩ := List.getElem_of_mem hx
    have := h k (by rw [Lib.size_eq]; exact hk)
    exact beq_eq_false_iff_ne.2 this
  unfold findB; rw [this]
theorem findB_some {s : ByteArray} {c : UInt8} {k : Nat} (hk : k < s.size) (he : s[k] = c) (h : ∀ j (hj : j < k), s[j]'(by omega) ≠ c) : findB s c = k := by
  have : s.data.toList.findIdx? (· == c) = some k := by
    rw [List.findIdx?_eq_some_iff_getElem]
    refine ⟨by rw [← Lib.size_eq]; exact hk, ?_, ?_⟩
    · exact beq_iff_eq.2 he
    · intro j hj
      have := h j hj
      rw [beq_iff_eq]
      exact this
  unfold findB; rw [this]

theorem L_get (s : ByteArray) (k : Nat) (h : k < s.size) : (L s)[k]'(by rw [L_length]; exact h) = s[k] := rfl
theorem L_take (s : ByteArray) (k : Nat) (h : k < s.size) : (L s).take (k + 1) = (L s).take k ++ [s[k]] := by
  rw [List.take_succ_eq_append_getElem (by rw [L_length]; exact h), L_get s k h]
theorem L_take_all (s : ByteArray) : (L s).take s.size = L s := List.take_of_length_le (by rw [L_length]; exact Nat.le_refl _)
theorem all_take_bad {p : UInt8 → Bool} (s : ByteArray) (k : Nat) (h : k < s.size) (hp : p s[k] = false) : (L s).all p = false := by
  cases ha : (L s).all p
  · rfl
  · have := List.all_eq_true.1 ha ((L s)[k]'(by rw [L_length]; exact h)) (List.getElem_mem _)
    rw [L_get s k h, hp] at this
    cases this
theorem L_ne {s : ByteArray} (h : 0 < s.size) : L s ≠ [] := by
  intro e; have := L_length s; rw [e] at this; simp at this; omega
theorem L_cons {s : ByteArray} (h : 0 < s.size) : L s = s[0] :: (L s).drop 1 := by
  have := L_drop s 0 h
  simpa using this

def marksS : ByteArray := ⟨#[43, 45, 42, 60, 40, 41, 58, 61]⟩
theorem marks_find (c : UInt8) : decide ((0 : Int) ≤ findB marksS c) = isMark c := by
  unfold isMark
  rw [show marks = L marksS from rfl, Bool.eq_iff_iff]
  simp only [decide_eq_true_eq, List.contains_iff_mem]
  constructor
  · intro h
    by_cases hm : c ∈ L marksS
    · exact hm
    · rw [findB_none (fun k hk e => hm (by rw [← e]; exact List.getElem_mem (l := L marksS) (by rw [L_length]; exact hk)))] at h
      omega
  · intro h
    unfold findB
    cases hf : marksS.data.toList.findIdx? (· == c) with
    | none =>
      rw [List.findIdx?_eq_none_iff] at hf
      have := hf c h
      simp at this
    | some k => simp

set_option maxHeartbeats 1000000 in
theorem l3Word_any (s : ByteArray) (w : World) (hs : s.size ≤ 2 ^ 40) :
    Calls Tryz.prog 59 #[.string s] w fun e w' => e = .returned (.bool (wordL (L s))) ∧ w = w' := by
  go_enter Tryz.func59, Tryz.ntmps59
  go_wp2
  go_loop [3] (fun i => ∃ k : Nat, k ≤ s.size ∧ i = .int .i64 k ∧ Hid (((L s).take k).all isLet = true)) (fun i => s.size - (intOf i).toNat)
  case atStart => exact ⟨0, Nat.zero_le _, rfl, rfl⟩
  case round =>
    obtain ⟨k, hk, rfl, HP⟩ := hrel
    by_cases hlt : k < s.size
    · have hx : (k : Int) < (s.size : Int) := by omega
      cases hl : isLet s[k]
      · have HF := Lib.hid (show wordL (L s) = false by unfold wordL; rw [all_take_bad s k hlt hl, Bool.and_false, Bool.and_false])
        by_cases h97 : s[k].toNat < 97
        · have q1 : decide ((s[k].toNat : Int) < 97) = true := by simp; omega
          clear hl h97
          go_wp2
          go_ret
          exact ⟨ret_bool HF.out.symm, rfl⟩
        · have q1 : decide ((s[k].toNat : Int) < 97) = false := by simp; omega
          have q2 : decide ((122 : Int) < (s[k].toNat : Int)) = true := by
            rw [decide_eq_true_eq]
            have : ¬ (97 ≤ s[k].toNat ∧ s[k].toNat ≤ 122) := fun h => by rw [(isLet_iff _).2 h] at hl; cases hl
            omega
          clear hl h97
          go_wp2
          go_ret
          exact ⟨ret_bool HF.out.symm, rfl⟩
      · have hb := (isLet_iff _).1 hl
        have q1 : decide ((s[k].toNat : Int) < 97) = false := by simp; omega
        have q2 : decide ((122 : Int) < (s[k].toNat : Int)) = false := by simp; omega
        have HP2 := Lib.hid (show ((L s).take (k + 1)).all isLet = true by rw [L_take s k hlt, List.all_append, HP.out, List.all_cons, hl]; rfl)
        clear hl hb
        go_wp2
        go_round
        case rel => exact ⟨k + 1, by omega, by go_num, HP2⟩
        case measure => simp [intOf]; omega
    · obtain rfl : s.size = k := by omega
      have HA := Lib.hid (show (L s).all isLet = true by have := HP.out; rwa [L_take_all] at this)
      have HL := Lib.hid (L_length s)
      by_cases h1 : 1 ≤ s.size
      · have q1 : decide ((1 : Int) ≤ (s.size : Int)) = true := by simp; omega
        have HF := Lib.hid (show wordL (L s) = decide ((s.size : Int) ≤ 8) by
          unfold wordL; rw [HA.out, HL.out, Bool.and_true, decide_eq_true h1, Bool.true_and]; simp; omega)
        clear h1
        go_wp2
        go_ret
        exact ⟨ret_bool (by rw [HF.out]), rfl⟩
      · have q1 : decide ((1 : Int) ≤ (s.size : Int)) = false := by simp; omega
        have HF := Lib.hid (show wordL (L s) = false by
          unfold wordL; rw [HL.out, decide_eq_false h1, Bool.false_and])
        clear h1
        go_wp2
        go_ret
        exact ⟨ret_bool HF.out.symm, rfl⟩

/-- What l12Num reads: a number of at most 17 digits, as it is written. -/
def numV (l : List UInt8) : Option Int :=
  if l.head? = some 45 then (if l.length ≤ 18 ∧ (l.drop 1).all isDig = true ∧ l.drop 1 ≠ [] ∧ (l.drop 1).head? ≠ some 48 then some (-(decV 0 (l.drop 1) : Int)) else none)
  else if l.length ≤ 17 ∧ l.all isDig = true ∧ noLead l = true then some (decV 0 l : Int) else none
theorem numV_dec (l : List UInt8) : ((numV l).isSome && (decide (0 ≤ (numV l).getD 0) && decide ((numV l).getD 0 ≤ 1000000))) = decL l := by
  unfold numV
  by_cases h : l.head? = some 45
  · rw [if_pos h]
    have hf : decL l = false := by
      cases l with
      | nil => simp at h
      | cons c l =>
        simp only [List.head?_cons, Option.some.injEq] at h
        subst h
        unfold decL
        rw [List.all_cons]
        rfl
    rw [hf]
    split
    · rename_i hh
      obtain ⟨_, h2, h3, h4⟩ := hh
      cases hl : l.drop 1 with
      | nil => exact absurd hl h3
      | cons c r =>
        rw [hl] at h2 h4
        have hp : 1 ≤ decV 0 (c :: r) := Nat.le_trans (Nat.pow_pos (by omega)) (decV_head (l := r) (List.all_eq_true.1 h2 c (by simp)) (by simpa using h4))
        have h5 : decide ((0 : Int) ≤ (some (-(decV 0 (c :: r) : Int))).getD 0) = false := by
          rw [decide_eq_false_iff_not]
          show ¬ (0 : Int) ≤ -(decV 0 (c :: r) : Int)
          omega
        rw [h5]
        simp
    · rfl
  · rw [if_neg h]
    by_cases hg : l.all isDig = true ∧ noLead l = true
    · by_cases h17 : l.length ≤ 17
      · rw [if_pos ⟨h17, hg⟩]
        unfold decL
        rw [hg.1, hg.2]
        simp
        omega
      · rw [if_neg (fun hh => h17 hh.1)]
        cases hd : decL l
        · rfl
        · have := decL_length hd; omega
    · rw [if_neg (fun hh => hg hh.2)]
      cases hd : decL l
      · rfl
      · simp only [decL, Bool.and_eq_true] at hd
        exact absurd ⟨hd.1, hd.2.1⟩ hg
end Go.Proofs.YtaclndbilpaboaaGreatDoor
