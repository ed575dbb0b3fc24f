/-
  The contracts of the model's TokOk, TokKind, l3Class and l3End, for all texts.
-/
import Derived.Test.YtkfnbakhbbcfcaaGreatDoorSpecNum
namespace Go.Proofs.YtkfnbakhbbcfcaaGreatDoor
open Go.RowKit

theorem okL_one (l : List UInt8) : okL 1 l = wordL l := rfl
theorem okL_two (l : List UInt8) : okL 2 l = decL l := rfl
theorem okL_three (l : List UInt8) : okL 3 l = markL l := rfl
theorem okL_else {k : Int} (h1 : k ≠ 1) (h2 : k ≠ 2) (h3 : k ≠ 3) (l : List UInt8) : okL k l = false := by
  unfold okL; rw [if_neg h1, if_neg h2, if_neg h3]
theorem markL_one {s : ByteArray} (h : s.size = 1) : markL (L s) = isMark (s[0]'(by omega)) := by
  have h1 := L_cons (s := s) (by omega)
  have h2 : (L s).drop 1 = [] := List.eq_nil_of_length_eq_zero (by rw [List.length_drop, L_length]; omega)
  rw [h1, h2]
  rfl
theorem markL_no {s : ByteArray} (h : s.size ≠ 1) : markL (L s) = false := by
  have hl := L_length s
  match hL : L s with
  | [] => rfl
  | [c] => rw [hL] at hl; simp at hl; omega
  | c :: d :: r => rfl

theorem l3Marks_any (w : World) : Calls Tryz.prog 188 #[] w fun e w' => e = .returned (.string marksS) ∧ w = w' := by
  go_enter Tryz.func188, Tryz.ntmps188
  go_wp2
  go_ret
  exact ⟨rfl, rfl⟩
theorem quiet_eq {P : Program} {f : FuncId} {args : Array Value} {w : World} {v : Value} (h : Calls P f args w fun e w' => e = .returned v ∧ w = w') : Calls P f args w fun e w' => e = .returned v ∧ w' = w := h.mono fun _ _ ⟨h1, h2⟩ => ⟨h1, h2.symm⟩

set_option maxRecDepth 100000 in
set_option maxHeartbeats 1000000 in
theorem specTokOk_any (k : Int) (s : ByteArray) (w : World) (hs : s.size ≤ 2 ^ 40) :
    Calls Tryz.prog 176 #[.int .i64 k, .string s] w fun e w' => e = .returned (.bool (okL k (L s))) ∧ ∃ n, w' = w.drewN n := by
  by_cases h1 : k = 1
  · subst h1
    have HW := Lib.hid (l3Word_any s w hs)
    go_enter Tryz.func176, Tryz.ntmps176
    go_wp2_with fail
    refine HW.out.mono ?_
    rintro e w' ⟨rfl, rfl⟩
    go_wp2_with fail
    go_ret
    exact ⟨rfl, 0, rfl⟩
  · have q1 : (k == 1) = false := by rw [beq_eq_false_iff_ne]; exact h1
    by_cases h2 : k = 2
    · subst h2
      have HW := Lib.hid (l3Num_any s w hs)
      clear h1
      go_enter Tryz.func176, Tryz.ntmps176
      go_wp2_with fail
      refine HW.out.mono ?_
      rintro e w' ⟨rfl, rfl⟩
      go_wp2_with fail
      go_ret
      exact ⟨rfl, 0, rfl⟩
    · have q2 : (k == 2) = false := by rw [beq_eq_false_iff_ne]; exact h2
      by_cases h3 : k = 3
      · subst h3
        clear h1 h2 q1 q2
        by_cases hs1 : s.size = 1
        · have p1 : ((s.size : Int) == 1) = true := by rw [beq_iff_eq]; omega
          have p0 : (0 : Int) < (s.size : Int) := by omega
          have hp0 : 0 < s.size := by omega
          have HM := Lib.hid (show markL (L s) = isMark (s[0]'hp0) from markL_one hs1)
          have HMF := Lib.hid (marks_find (s[0]'hp0))
          have HF := Lib.hid (fun W => quiet_eq (l12Find_any marksS (s[0]'hp0) W (by show 8 ≤ _; omega)))
          have HL := Lib.hid (fun W => quiet_eq (l3Marks_any W))
          rw [← HM.out] at HMF
          generalize findB marksS (s[0]'hp0) = f at *
          clear hs1 HM
          go_enter Tryz.func176, Tryz.ntmps176
          go_wp2_with fail
          go_quiet ((first | (go_at_call 188; exact Calls.quiet_of_same (HL.out _)) | (go_at_call 187; exact Calls.quiet_of_same (HF.out _))))
          go_wp2_with fail
          go_ret
          exact ⟨ret_bool (by rw [okL_three]; exact HMF.out), _, rfl⟩
        · have p1 : ((s.size : Int) == 1) = false := by rw [beq_eq_false_iff_ne]; omega
          have HM := Lib.hid (markL_no hs1)
          clear hs1
          go_enter Tryz.func176, Tryz.ntmps176
          go_wp2_with fail
          go_quiet (fail)
          go_wp2_with fail
          go_ret
          exact ⟨ret_bool (by rw [okL_three]; exact HM.out.symm), _, rfl⟩
      · have q3 : (k == 3) = false := by rw [beq_eq_false_iff_ne]; exact h3
        have HE := Lib.hid (okL_else h1 h2 h3 (L s))
        clear h1 h2 h3
        go_enter Tryz.func176, Tryz.ntmps176
        go_wp2_with fail
        go_ret
        exact ⟨ret_bool HE.out.symm, 0, rfl⟩
theorem kind_at {l : List UInt8} {k : Nat} (h1 : 1 ≤ k) (h3 : k ≤ 3) (hp : ∀ j : Nat, 1 ≤ j → j < k → okL (j : Int) l = false) (h : okL (k : Int) l = true) : kindL l = k := by
  have h4 : k = 1 ∨ k = 2 ∨ k = 3 := by omega
  unfold kindL
  rcases h4 with rfl | rfl | rfl
  · rw [if_pos (show wordL l = true from h)]
  · have a1 : wordL l = false := hp 1 (by omega) (by omega)
    rw [a1, if_pos (show decL l = true from h)]
    rfl
  · have a1 : wordL l = false := hp 1 (by omega) (by omega)
    have a2 : decL l = false := hp 2 (by omega) (by omega)
    rw [a1, a2, if_pos (show markL l = true from h)]
    rfl
theorem kind_none {l : List UInt8} (hp : ∀ j : Nat, 1 ≤ j → j < 4 → okL (j : Int) l = false) : kindL l = 0 := by
  have a1 : wordL l = false := hp 1 (by omega) (by omega)
  have a2 : decL l = false := hp 2 (by omega) (by omega)
  have a3 : markL l = false := hp 3 (by omega) (by omega)
  unfold kindL
  rw [a1, a2, a3]
  rfl
set_option maxHeartbeats 1000000 in
theorem specTokKind_any (s : ByteArray) (w : World) (hs : s.size ≤ 2 ^ 40) :
    Calls Tryz.prog 166 #[.string s] w fun e w' => e = .returned (.int .i64 (kindL (L s) : Int)) ∧ ∃ n, w' = w.drewN n := by
  go_enter Tryz.func166, Tryz.ntmps166
  go_wp2_with fail
  go_loopw [3] (fun i wr => ∃ k : Nat, 1 ≤ k ∧ k ≤ 4 ∧ i = .int .i64 k ∧ (∃ n, wr = w.drewN n) ∧ Hid (∀ j : Nat, 1 ≤ j → j < k → okL (j : Int) (L s) = false)) (fun i _ => 4 - (intOf i).toNat)
  case atStart => exact ⟨1, by omega, by omega, rfl, ⟨0, rfl⟩, fun j h1 h2 => by omega⟩
  case round =>
    obtain ⟨k, hk1, hk4, rfl, ⟨n, rfl⟩, HP⟩ := hrel
    by_cases hlt : k ≤ 3
    · have hx : (k : Int) ≤ 3 := by omega
      have HO := Lib.hid (specTokOk_any (k : Int) s (w.drewN n) hs)
      cases hb : okL (k : Int) (L s)
      · rw [hb] at HO
        have HP2 := Lib.hid (show ∀ j : Nat, 1 ≤ j → j < k + 1 → okL (j : Int) (L s) = false from fun j h1 h2 => if e : j = k then by subst e; exact hb else HP.out j h1 (by omega))
        clear hb
        go_wp2_with fail
        refine HO.out.mono ?_
        rintro e w1 ⟨rfl, n1, rfl⟩
        go_wp2_with fail
        go_roundw
        case rel => exact ⟨k + 1, by omega, by omega, by go_num, ⟨n + n1, rfl⟩, HP2⟩
        case measure => simp [intOf]; omega
      · rw [hb] at HO
        have HK := Lib.hid (kind_at hk1 hlt HP.out hb)
        clear hb
        go_wp2_with fail
        refine HO.out.mono ?_
        rintro e w1 ⟨rfl, n1, rfl⟩
        go_wp2_with fail
        go_ret
        exact ⟨ret_int (by rw [HK.out]), n + n1, rfl⟩
    · obtain rfl : k = 4 := by omega
      have HK := Lib.hid (kind_none HP.out)
      go_wp2_with fail
      go_ret
      exact ⟨ret_int (by rw [HK.out]; rfl), n, rfl⟩

/-- The class of a byte, as the model tells it. -/
def clsN (c : UInt8) : Nat := if isLet c then 1 else if isDig c then 2 else if isMark c then 3 else if c = 32 then 4 else 0
set_option maxRecDepth 100000 in
set_option maxHeartbeats 1000000 in
theorem l3Class_any (c : UInt8) (w : World) :
    Calls Tryz.prog 175 #[.int .u8 (c.toNat : Int)] w fun e w' => e = .returned (.int .i64 (clsN c : Int)) ∧ w = w' := by
  by_cases hA : c.toNat < 48
  · have hd : isDig c = false := by cases h : isDig c; rfl; rw [isDig_iff] at h; omega
    have hl : isLet c = false := by cases h : isLet c; rfl; rw [isLet_iff] at h; omega
    have p1 : decide ((97 : Int) ≤ (c.toNat : Int)) = false := by simp; omega
    have p2 : decide ((48 : Int) ≤ (c.toNat : Int)) = false := by simp; omega
    have HMF := Lib.hid (marks_find c)
    have HF := Lib.hid (l12Find_any marksS c w (by show 8 ≤ _; omega))
    have HL := Lib.hid (l3Marks_any w)
    generalize findB marksS c = f at *
    cases hm : isMark c
    · rw [hm] at HMF
      have p3 := HMF.out
      by_cases h32 : c = 32
      · have p4 : ((c.toNat : Int) == 32) = true := by rw [h32]; rfl
        have HC := Lib.hid (show clsN c = 4 by unfold clsN; rw [hl, hd, hm, if_pos h32]; rfl)
        clear h32 hm hl hd
        go_enter Tryz.func175, Tryz.ntmps175
        go_wp2_with fail
        refine HL.out.mono ?_
        rintro e w' ⟨rfl, rfl⟩
        go_wp2_with fail
        refine HF.out.mono ?_
        rintro e w' ⟨rfl, rfl⟩
        go_wp2_with fail
        go_ret
        exact ⟨ret_int (by rw [HC.out]; rfl), rfl⟩
      · have p4 : ((c.toNat : Int) == 32) = false := u8_ne (n := 32) h32 (by decide)
        have HC := Lib.hid (show clsN c = 0 by unfold clsN; rw [hl, hd, hm, if_neg h32]; rfl)
        clear h32 hm hl hd
        go_enter Tryz.func175, Tryz.ntmps175
        go_wp2_with fail
        refine HL.out.mono ?_
        rintro e w' ⟨rfl, rfl⟩
        go_wp2_with fail
        refine HF.out.mono ?_
        rintro e w' ⟨rfl, rfl⟩
        go_wp2_with fail
        go_ret
        exact ⟨ret_int (by rw [HC.out]; rfl), rfl⟩
    · rw [hm] at HMF
      have p3 := HMF.out
      have HC := Lib.hid (show clsN c = 3 by unfold clsN; rw [hl, hd, hm]; rfl)
      clear hm hl hd
      go_enter Tryz.func175, Tryz.ntmps175
      go_wp2_with fail
      refine HL.out.mono ?_
      rintro e w' ⟨rfl, rfl⟩
      go_wp2_with fail
      refine HF.out.mono ?_
      rintro e w' ⟨rfl, rfl⟩
      go_wp2_with fail
      go_ret
      exact ⟨ret_int (by rw [HC.out]; rfl), rfl⟩
  · by_cases hB : c.toNat ≤ 57
    · have hd : isDig c = true := (isDig_iff c).2 ⟨by omega, hB⟩
      have hl : isLet c = false := by cases h : isLet c; rfl; rw [isLet_iff] at h; omega
      have p1 : decide ((97 : Int) ≤ (c.toNat : Int)) = false := by simp; omega
      have p2 : decide ((48 : Int) ≤ (c.toNat : Int)) = true := by simp; omega
      have p5 : decide ((c.toNat : Int) ≤ 57) = true := by simp; omega
      have HC := Lib.hid (show clsN c = 2 by unfold clsN; rw [hl, hd]; rfl)
      clear hl hd
      go_enter Tryz.func175, Tryz.ntmps175
      go_wp2_with fail
      go_ret
      exact ⟨ret_int (by rw [HC.out]; rfl), rfl⟩
    · by_cases hC : c.toNat < 97
      · have hd : isDig c = false := by cases h : isDig c; rfl; rw [isDig_iff] at h; omega
        have hl : isLet c = false := by cases h : isLet c; rfl; rw [isLet_iff] at h; omega
        have p1 : decide ((97 : Int) ≤ (c.toNat : Int)) = false := by simp; omega
        have p2 : decide ((48 : Int) ≤ (c.toNat : Int)) = true := by simp; omega
        have p5 : decide ((c.toNat : Int) ≤ 57) = false := by simp; omega
        have HMF := Lib.hid (marks_find c)
        have HF := Lib.hid (l12Find_any marksS c w (by show 8 ≤ _; omega))
        have HL := Lib.hid (l3Marks_any w)
        generalize findB marksS c = f at *
        cases hm : isMark c
        · rw [hm] at HMF
          have p3 := HMF.out
          by_cases h32 : c = 32
          · have p4 : ((c.toNat : Int) == 32) = true := by rw [h32]; rfl
            have HC := Lib.hid (show clsN c = 4 by unfold clsN; rw [hl, hd, hm, if_pos h32]; rfl)
            clear h32 hm hl hd
            go_enter Tryz.func175, Tryz.ntmps175
            go_wp2_with fail
            refine HL.out.mono ?_
            rintro e w' ⟨rfl, rfl⟩
            go_wp2_with fail
            refine HF.out.mono ?_
            rintro e w' ⟨rfl, rfl⟩
            go_wp2_with fail
            go_ret
            exact ⟨ret_int (by rw [HC.out]; rfl), rfl⟩
          · have p4 : ((c.toNat : Int) == 32) = false := u8_ne (n := 32) h32 (by decide)
            have HC := Lib.hid (show clsN c = 0 by unfold clsN; rw [hl, hd, hm, if_neg h32]; rfl)
            clear h32 hm hl hd
            go_enter Tryz.func175, Tryz.ntmps175
            go_wp2_with fail
            refine HL.out.mono ?_
            rintro e w' ⟨rfl, rfl⟩
            go_wp2_with fail
            refine HF.out.mono ?_
            rintro e w' ⟨rfl, rfl⟩
            go_wp2_with fail
            go_ret
            exact ⟨ret_int (by rw [HC.out]; rfl), rfl⟩
        · rw [hm] at HMF
          have p3 := HMF.out
          have HC := Lib.hid (show clsN c = 3 by unfold clsN; rw [hl, hd, hm]; rfl)
          clear hm hl hd
          go_enter Tryz.func175, Tryz.ntmps175
          go_wp2_with fail
          refine HL.out.mono ?_
          rintro e w' ⟨rfl, rfl⟩
          go_wp2_with fail
          refine HF.out.mono ?_
          rintro e w' ⟨rfl, rfl⟩
          go_wp2_with fail
          go_ret
          exact ⟨ret_int (by rw [HC.out]; rfl), rfl⟩
      · by_cases hD : c.toNat ≤ 122
        · have hl : isLet c = true := (isLet_iff c).2 ⟨by omega, hD⟩
          have p1 : decide ((97 : Int) ≤ (c.toNat : Int)) = true := by simp; omega
          have p6 : decide ((c.toNat : Int) ≤ 122) = true := by simp; omega
          have HC := Lib.hid (show clsN c = 1 by unfold clsN; rw [hl]; rfl)
          clear hl
          go_enter Tryz.func175, Tryz.ntmps175
          go_wp2_with fail
          go_ret
          exact ⟨ret_int (by rw [HC.out]; rfl), rfl⟩
        · have hd : isDig c = false := by cases h : isDig c; rfl; rw [isDig_iff] at h; omega
          have hl : isLet c = false := by cases h : isLet c; rfl; rw [isLet_iff] at h; omega
          have p1 : decide ((97 : Int) ≤ (c.toNat : Int)) = true := by simp; omega
          have p6 : decide ((c.toNat : Int) ≤ 122) = false := by simp; omega
          have p2 : decide ((48 : Int) ≤ (c.toNat : Int)) = true := by simp; omega
          have p5 : decide ((c.toNat : Int) ≤ 57) = false := by simp; omega
          have HMF := Lib.hid (marks_find c)
          have HF := Lib.hid (l12Find_any marksS c w (by show 8 ≤ _; omega))
          have HL := Lib.hid (l3Marks_any w)
          generalize findB marksS c = f at *
          cases hm : isMark c
          · rw [hm] at HMF
            have p3 := HMF.out
            by_cases h32 : c = 32
            · have p4 : ((c.toNat : Int) == 32) = true := by rw [h32]; rfl
              have HC := Lib.hid (show clsN c = 4 by unfold clsN; rw [hl, hd, hm, if_pos h32]; rfl)
              clear h32 hm hl hd
              go_enter Tryz.func175, Tryz.ntmps175
              go_wp2_with fail
              refine HL.out.mono ?_
              rintro e w' ⟨rfl, rfl⟩
              go_wp2_with fail
              refine HF.out.mono ?_
              rintro e w' ⟨rfl, rfl⟩
              go_wp2_with fail
              go_ret
              exact ⟨ret_int (by rw [HC.out]; rfl), rfl⟩
            · have p4 : ((c.toNat : Int) == 32) = false := u8_ne (n := 32) h32 (by decide)
              have HC := Lib.hid (show clsN c = 0 by unfold clsN; rw [hl, hd, hm, if_neg h32]; rfl)
              clear h32 hm hl hd
              go_enter Tryz.func175, Tryz.ntmps175
              go_wp2_with fail
              refine HL.out.mono ?_
              rintro e w' ⟨rfl, rfl⟩
              go_wp2_with fail
              refine HF.out.mono ?_
              rintro e w' ⟨rfl, rfl⟩
              go_wp2_with fail
              go_ret
              exact ⟨ret_int (by rw [HC.out]; rfl), rfl⟩
          · rw [hm] at HMF
            have p3 := HMF.out
            have HC := Lib.hid (show clsN c = 3 by unfold clsN; rw [hl, hd, hm]; rfl)
            clear hm hl hd
            go_enter Tryz.func175, Tryz.ntmps175
            go_wp2_with fail
            refine HL.out.mono ?_
            rintro e w' ⟨rfl, rfl⟩
            go_wp2_with fail
            refine HF.out.mono ?_
            rintro e w' ⟨rfl, rfl⟩
            go_wp2_with fail
            go_ret
            exact ⟨ret_int (by rw [HC.out]; rfl), rfl⟩
end Go.Proofs.YtkfnbakhbbcfcaaGreatDoor
