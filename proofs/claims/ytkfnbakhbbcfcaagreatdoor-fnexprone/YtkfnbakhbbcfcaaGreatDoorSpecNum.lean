/-
  The contract of the model's l12Num and l3Num, for all texts.
-/
import Derived.Test.YtkfnbakhbbcfcaaGreatDoorSpecTok
namespace Go.Proofs.YtkfnbakhbbcfcaaGreatDoor
open Go.RowKit

theorem ret_num_no {x : Option Int} (h : x = none) : Ending.returned (.tuple #[.int .i64 0, .bool false]) = .returned (.tuple #[.int .i64 (x.getD 0), .bool x.isSome]) := by subst h; rfl
theorem ret_num_yes {x : Option Int} {n : Int} (h : x = some n) : Ending.returned (.tuple #[.int .i64 n, .bool true]) = .returned (.tuple #[.int .i64 (x.getD 0), .bool x.isSome]) := by subst h; rfl
theorem u8_ne {c : UInt8} {n : Nat} (h : c ≠ UInt8.ofNat n) (hn : n < 256) : ((c.toNat : Int) == (n : Int)) = false := by
  simp only [beq_eq_false_iff_ne, ne_eq]
  intro e
  exact h (UInt8.toNat_inj.1 (by rw [UInt8.toNat_ofNat']; omega))
theorem numV_plain {l : List UInt8} (h : l.head? ≠ some 45) : numV l = if l.length ≤ 17 ∧ l.all isDig = true ∧ noLead l = true then some (decV 0 l : Int) else none := by unfold numV; rw [if_neg h]
theorem numV_neg {l : List UInt8} (h : l.head? = some 45) : numV l = if l.length ≤ 18 ∧ (l.drop 1).all isDig = true ∧ l.drop 1 ≠ [] ∧ (l.drop 1).head? ≠ some 48 then some (-(decV 0 (l.drop 1) : Int)) else none := by unfold numV; rw [if_pos h]
theorem L_tail (s : ByteArray) : L (s.extract 1 s.size) = (L s).drop 1 := by rw [L_extract, L_take_all]
theorem size_tail (s : ByteArray) : (s.extract 1 s.size).size = s.size - 1 := by rw [← L_length, L_tail, List.length_drop, L_length]

set_option maxRecDepth 100000 in
set_option maxHeartbeats 2000000 in
theorem l12Num_any (s : ByteArray) (w : World) (hs : s.size ≤ 2 ^ 40) :
    Calls Tryz.prog 170 #[.string s] w fun e w' => e = .returned (.tuple #[.int .i64 ((numV (L s)).getD 0), .bool (numV (L s)).isSome]) ∧ w = w' := by
  have HLL := Lib.hid (L_length s)
  by_cases h0 : s.size = 0
  · have q0 : decide ((0 : Int) < (s.size : Int)) = false := by rw [decide_eq_false_iff_not]; omega
    have q1 : ((s.size : Int) == 0) = true := by rw [beq_iff_eq]; omega
    have HF := Lib.hid (show numV (L s) = none by
      have : L s = [] := List.eq_nil_of_length_eq_zero (by rw [L_length]; exact h0)
      rw [this]; rfl)
    clear h0
    go_enter Tryz.func170, Tryz.ntmps170
    go_wp2
    go_ret2
    exact ⟨ret_num_no HF.out, rfl⟩
  · have hpos : 0 < s.size := by omega
    have q0 : (0 : Int) < (s.size : Int) := by omega
    have q0' : ((s.size : Int) == 0) = false := by rw [beq_eq_false_iff_ne]; omega
    have HC := Lib.hid (L_cons hpos)
    have HH := Lib.hid (show (L s).head? = some s[0] by rw [L_cons hpos]; rfl)
    clear h0
    by_cases h45 : s[0] = 45
    · -- a sign ahead
      have q1 : ((s[0].toNat : Int) == 45) = true := by rw [h45]; rfl
      have HN := Lib.hid (numV_neg (l := L s) (by rw [HH.out, h45]))
      clear h45
      have HLT := Lib.hid (L_tail s)
      have hst := size_tail s
      rw [HLL.out, ← HLT.out] at HN
      by_cases h1 : s.size = 1
      · have HF := Lib.hid (show numV (L s) = none by
          rw [HN.out, if_neg]
          rintro ⟨_, _, h3, _⟩
          exact h3 (List.eq_nil_of_length_eq_zero (by rw [L_length, hst]; omega)))
        generalize ht : s.extract 1 s.size = t at *
        have q2 : ((t.size : Int) == 0) = true := by rw [beq_iff_eq]; omega
        clear hst
        go_enter Tryz.func170, Tryz.ntmps170
        go_wp2
        go_ret2
        exact ⟨ret_num_no HF.out, rfl⟩
      · generalize ht : s.extract 1 s.size = t at *
        have htp : 0 < t.size := by omega
        have HST := Lib.hid hst
        clear hst
        have q2 : ((t.size : Int) == 0) = false := by rw [beq_eq_false_iff_ne]; omega
        have q2' : (0 : Int) < (t.size : Int) := by omega
        have HTH := Lib.hid (show (L t).head? = some t[0] by rw [L_cons htp]; rfl)
        by_cases h17 : 17 < t.size
        · have q3 : decide ((17 : Int) < (t.size : Int)) = true := by simp; omega
          have HF := Lib.hid (show numV (L s) = none by
            rw [HN.out, if_neg]
            rintro ⟨h3, _⟩
            have := HST.out
            omega)
          clear h17
          go_enter Tryz.func170, Tryz.ntmps170
          go_wp2
          go_ret2
          exact ⟨ret_num_no HF.out, rfl⟩
        · have q3 : decide ((17 : Int) < (t.size : Int)) = false := by simp; omega
          by_cases h48 : t[0] = 48
          · have q4 : ((t[0].toNat : Int) == 48) = true := by rw [h48]; rfl
            have HF := Lib.hid (show numV (L s) = none by
              rw [HN.out, if_neg]
              rintro ⟨_, _, _, h4⟩
              exact h4 (by rw [HTH.out, h48]))
            clear h48
            by_cases h1t : t.size = 1
            · have q5 : decide ((1 : Int) < (t.size : Int)) = false := by simp; omega
              clear h17 h1t
              go_enter Tryz.func170, Tryz.ntmps170
              go_wp2
              go_ret2
              exact ⟨ret_num_no HF.out, rfl⟩
            · have q5 : decide ((1 : Int) < (t.size : Int)) = true := by simp; omega
              clear h17 h1t
              go_enter Tryz.func170, Tryz.ntmps170
              go_wp2
              go_ret2
              exact ⟨ret_num_no HF.out, rfl⟩
          · have q4 : ((t[0].toNat : Int) == 48) = false := u8_ne (n := 48) h48 (by decide)
            have HBAD := Lib.hid (show (L t).all isDig = false → numV (L s) = none by
              intro hb
              rw [HN.out, if_neg]
              rintro ⟨_, h3, _⟩
              rw [hb] at h3; cases h3)
            have HGOOD := Lib.hid (show (L t).all isDig = true → numV (L s) = some (-(decV 0 (L t) : Int)) by
              intro hg
              rw [HN.out, if_pos]
              exact ⟨by have := HST.out; omega, hg, L_ne htp, by rw [HTH.out]; intro e; injection e with e; exact h48 e⟩)
            clear h48
            go_enter Tryz.func170, Tryz.ntmps170
            go_wp2
            go_loop [5, 6] (fun d i => ∃ k m : Nat, k ≤ t.size ∧ i = .int .i64 k ∧ d = .int .i64 (m : Int) ∧ m < 10 ^ k ∧ Hid (((L t).take k).all isDig = true) ∧ Hid (m = decV 0 ((L t).take k))) (fun _ i => t.size - (intOf i).toNat)
            case atStart => exact ⟨0, 0, Nat.zero_le _, rfl, rfl, by omega, rfl, rfl⟩
            case round =>
              obtain ⟨k, m, hk, rfl, rfl, hm, HP, HV⟩ := hrel
              have hmb : m ≤ 100000000000000000 := Nat.le_of_lt (Nat.lt_of_lt_of_le hm (Nat.pow_le_pow_right (n := 10) (by decide) (by omega : k ≤ 17)))
              have HMB := Lib.hid hm
              clear hm
              by_cases hlt : k < t.size
              · have hx : (k : Int) < (t.size : Int) := by omega
                cases hl : isDig t[k]
                · have HF := Lib.hid (HBAD.out (all_take_bad t k hlt hl))
                  by_cases h48 : t[k].toNat < 48
                  · have p1 : decide ((t[k].toNat : Int) < 48) = true := by simp; omega
                    clear hl h48
                    go_wp2
                    go_ret2
                    exact ⟨ret_num_no HF.out, rfl⟩
                  · have p1 : decide ((t[k].toNat : Int) < 48) = false := by simp; omega
                    have p2 : decide ((57 : Int) < (t[k].toNat : Int)) = true := by
                      rw [decide_eq_true_eq]
                      have : ¬ (48 ≤ t[k].toNat ∧ t[k].toNat ≤ 57) := fun h => by rw [(isDig_iff _).2 h] at hl; cases hl
                      omega
                    clear hl h48
                    go_wp2
                    go_ret2
                    exact ⟨ret_num_no HF.out, rfl⟩
                · have hb := (isDig_iff _).1 hl
                  have p1 : decide ((t[k].toNat : Int) < 48) = false := by simp; omega
                  have p2 : decide ((57 : Int) < (t[k].toNat : Int)) = false := by simp; omega
                  have HP2 := Lib.hid (show ((L t).take (k + 1)).all isDig = true by rw [L_take t k hlt, List.all_append, HP.out, List.all_cons, hl]; rfl)
                  have HV2 := Lib.hid (show m * 10 + (t[k].toNat - 48) = decV 0 ((L t).take (k + 1)) by rw [L_take t k hlt, decV_append, ← HV.out])
                  have hb1 : 48 ≤ t[k].toNat := hb.1
                  have hb2 : t[k].toNat ≤ 57 := hb.2
                  have HM2 := Lib.hid (show m * 10 + (t[k].toNat - 48) < 10 ^ (k + 1) by have := HMB.out; rw [Nat.pow_succ]; omega)
                  clear hl hb
                  go_wp2
                  go_round
                  case rel => exact ⟨k + 1, m * 10 + (t[k].toNat - 48), by omega, by go_num, by go_num, HM2.out, HP2, HV2⟩
                  case measure => simp [intOf]; omega
              · obtain rfl : t.size = k := by omega
                have HG := Lib.hid (HGOOD.out (by have := HP.out; rwa [L_take_all] at this))
                have HV2 := Lib.hid (show m = decV 0 (L t) by have := HV.out; rwa [L_take_all] at this)
                go_wp2
                go_ret2
                exact ⟨ret_num_yes (by rw [HG.out, ← HV2.out]), rfl⟩
    · have q1 : ((s[0].toNat : Int) == 45) = false := u8_ne (n := 45) h45 (by decide)
      have HN := Lib.hid (numV_plain (l := L s) (by rw [HH.out]; intro e; injection e with e; exact h45 e))
      clear h45
      rw [HLL.out] at HN
      by_cases h17 : 17 < s.size
      · have q3 : decide ((17 : Int) < (s.size : Int)) = true := by simp; omega
        have HF := Lib.hid (show numV (L s) = none by
          rw [HN.out, if_neg]
          rintro ⟨h3, _⟩
          omega)
        clear h17
        go_enter Tryz.func170, Tryz.ntmps170
        go_wp2
        go_ret2
        exact ⟨ret_num_no HF.out, rfl⟩
      · have q3 : decide ((17 : Int) < (s.size : Int)) = false := by simp; omega
        have HBAD := Lib.hid (show (L s).all isDig = false → numV (L s) = none by
          intro hb
          rw [HN.out, if_neg]
          rintro ⟨_, h3, _⟩
          rw [hb] at h3; cases h3)
        have HNL := Lib.hid (show noLead (L s) = true ↔ (s.size = 1 ∨ s[0] ≠ 48) by
          rw [HC.out]
          cases hd : (L s).drop 1 with
          | nil =>
            have : s.size = 1 := by have := congrArg List.length hd; rw [List.length_drop, HLL.out] at this; simp at this; omega
            simp [noLead, this]
          | cons d r =>
            have : ¬ s.size = 1 := by intro e; have := congrArg List.length hd; rw [List.length_drop, HLL.out, e] at this; simp at this
            simp [noLead, this])
        by_cases h48 : s[0] = 48
        · have q4 : ((s[0].toNat : Int) == 48) = true := by rw [h48]; rfl
          by_cases h1t : s.size = 1
          · have q5 : decide ((1 : Int) < (s.size : Int)) = false := by simp; omega
            have HGOOD := Lib.hid (show (L s).all isDig = true → numV (L s) = some (decV 0 (L s) : Int) by
              intro hg
              rw [HN.out, if_pos ⟨by omega, hg, HNL.out.2 (.inl h1t)⟩])
            clear h48
            go_enter Tryz.func170, Tryz.ntmps170
            go_wp2
            go_loop [5, 6] (fun d i => ∃ k m : Nat, k ≤ s.size ∧ i = .int .i64 k ∧ d = .int .i64 (m : Int) ∧ m < 10 ^ k ∧ Hid (((L s).take k).all isDig = true) ∧ Hid (m = decV 0 ((L s).take k))) (fun _ i => s.size - (intOf i).toNat)
            case atStart => exact ⟨0, 0, Nat.zero_le _, rfl, rfl, by omega, rfl, rfl⟩
            case round =>
              obtain ⟨k, m, hk, rfl, rfl, hm, HP, HV⟩ := hrel
              have hmb : m ≤ 100000000000000000 := Nat.le_of_lt (Nat.lt_of_lt_of_le hm (Nat.pow_le_pow_right (n := 10) (by decide) (by omega : k ≤ 17)))
              have HMB := Lib.hid hm
              clear hm
              by_cases hlt : k < s.size
              · have hx : (k : Int) < (s.size : Int) := by omega
                cases hl : isDig s[k]
                · have HF := Lib.hid (HBAD.out (all_take_bad s k hlt hl))
                  by_cases h48 : s[k].toNat < 48
                  · have p1 : decide ((s[k].toNat : Int) < 48) = true := by simp; omega
                    clear hl h48
                    go_wp2
                    go_ret2
                    exact ⟨ret_num_no HF.out, rfl⟩
                  · have p1 : decide ((s[k].toNat : Int) < 48) = false := by simp; omega
                    have p2 : decide ((57 : Int) < (s[k].toNat : Int)) = true := by
                      rw [decide_eq_true_eq]
                      have : ¬ (48 ≤ s[k].toNat ∧ s[k].toNat ≤ 57) := fun h => by rw [(isDig_iff _).2 h] at hl; cases hl
                      omega
                    clear hl h48
                    go_wp2
                    go_ret2
                    exact ⟨ret_num_no HF.out, rfl⟩
                · have hb := (isDig_iff _).1 hl
                  have p1 : decide ((s[k].toNat : Int) < 48) = false := by simp; omega
                  have p2 : decide ((57 : Int) < (s[k].toNat : Int)) = false := by simp; omega
                  have HP2 := Lib.hid (show ((L s).take (k + 1)).all isDig = true by rw [L_take s k hlt, List.all_append, HP.out, List.all_cons, hl]; rfl)
                  have HV2 := Lib.hid (show m * 10 + (s[k].toNat - 48) = decV 0 ((L s).take (k + 1)) by rw [L_take s k hlt, decV_append, ← HV.out])
                  have hb1 : 48 ≤ s[k].toNat := hb.1
                  have hb2 : s[k].toNat ≤ 57 := hb.2
                  have HM2 := Lib.hid (show m * 10 + (s[k].toNat - 48) < 10 ^ (k + 1) by have := HMB.out; rw [Nat.pow_succ]; omega)
                  clear hl hb
                  go_wp2
                  go_round
                  case rel => exact ⟨k + 1, m * 10 + (s[k].toNat - 48), by omega, by go_num, by go_num, HM2.out, HP2, HV2⟩
                  case measure => simp [intOf]; omega
              · obtain rfl : s.size = k := by omega
                have HG := Lib.hid (HGOOD.out (by have := HP.out; rwa [L_take_all] at this))
                have HV2 := Lib.hid (show m = decV 0 (L s) by have := HV.out; rwa [L_take_all] at this)
                go_wp2
                go_ret2
                exact ⟨ret_num_yes (by rw [HG.out, ← HV2.out]), rfl⟩
          · have q5 : decide ((1 : Int) < (s.size : Int)) = true := by simp; omega
            have HF := Lib.hid (show numV (L s) = none by
              rw [HN.out, if_neg]
              rintro ⟨_, _, h4⟩
              rcases HNL.out.1 h4 with h | h
              · exact h1t h
              · exact h h48)
            clear h48
            go_enter Tryz.func170, Tryz.ntmps170
            go_wp2
            go_ret2
            exact ⟨ret_num_no HF.out, rfl⟩
        · have q4 : ((s[0].toNat : Int) == 48) = false := u8_ne (n := 48) h48 (by decide)
          have HGOOD := Lib.hid (show (L s).all isDig = true → numV (L s) = some (decV 0 (L s) : Int) by
            intro hg
            rw [HN.out, if_pos ⟨by omega, hg, HNL.out.2 (.inr h48)⟩])
          clear h48
          go_enter Tryz.func170, Tryz.ntmps170
          go_wp2
          go_loop [5, 6] (fun d i => ∃ k m : Nat, k ≤ s.size ∧ i = .int .i64 k ∧ d = .int .i64 (m : Int) ∧ m < 10 ^ k ∧ Hid (((L s).take k).all isDig = true) ∧ Hid (m = decV 0 ((L s).take k))) (fun _ i => s.size - (intOf i).toNat)
          case atStart => exact ⟨0, 0, Nat.zero_le _, rfl, rfl, by omega, rfl, rfl⟩
          case round =>
            obtain ⟨k, m, hk, rfl, rfl, hm, HP, HV⟩ := hrel
            have hmb : m ≤ 100000000000000000 := Nat.le_of_lt (Nat.lt_of_lt_of_le hm (Nat.pow_le_pow_right (n := 10) (by decide) (by omega : k ≤ 17)))
            have HMB := Lib.hid hm
            clear hm
            by_cases hlt : k < s.size
            · have hx : (k : Int) < (s.size : Int) := by omega
              cases hl : isDig s[k]
              · have HF := Lib.hid (HBAD.out (all_take_bad s k hlt hl))
                by_cases h48 : s[k].toNat < 48
                · have p1 : decide ((s[k].toNat : Int) < 48) = true := by simp; omega
                  clear hl h48
                  go_wp2
                  go_ret2
                  exact ⟨ret_num_no HF.out, rfl⟩
                · have p1 : decide ((s[k].toNat : Int) < 48) = false := by simp; omega
                  have p2 : decide ((57 : Int) < (s[k].toNat : Int)) = true := by
                    rw [decide_eq_true_eq]
                    have : ¬ (48 ≤ s[k].toNat ∧ s[k].toNat ≤ 57) := fun h => by rw [(isDig_iff _).2 h] at hl; cases hl
                    omega
                  clear hl h48
                  go_wp2
                  go_ret2
                  exact ⟨ret_num_no HF.out, rfl⟩
              · have hb := (isDig_iff _).1 hl
                have p1 : decide ((s[k].toNat : Int) < 48) = false := by simp; omega
                have p2 : decide ((57 : Int) < (s[k].toNat : Int)) = false := by simp; omega
                have HP2 := Lib.hid (show ((L s).take (k + 1)).all isDig = true by rw [L_take s k hlt, List.all_append, HP.out, List.all_cons, hl]; rfl)
                have HV2 := Lib.hid (show m * 10 + (s[k].toNat - 48) = decV 0 ((L s).take (k + 1)) by rw [L_take s k hlt, decV_append, ← HV.out])
                have hb1 : 48 ≤ s[k].toNat := hb.1
                have hb2 : s[k].toNat ≤ 57 := hb.2
                have HM2 := Lib.hid (show m * 10 + (s[k].toNat - 48) < 10 ^ (k + 1) by have := HMB.out; rw [Nat.pow_succ]; omega)
                clear hl hb
                go_wp2
                go_round
                case rel => exact ⟨k + 1, m * 10 + (s[k].toNat - 48), by omega, by go_num, by go_num, HM2.out, HP2, HV2⟩
                case measure => simp [intOf]; omega
            · obtain rfl : s.size = k := by omega
              have HG := Lib.hid (HGOOD.out (by have := HP.out; rwa [L_take_all] at this))
              have HV2 := Lib.hid (show m = decV 0 (L s) by have := HV.out; rwa [L_take_all] at this)
              go_wp2
              go_ret2
              exact ⟨ret_num_yes (by rw [HG.out, ← HV2.out]), rfl⟩

theorem l3Num_any (s : ByteArray) (w : World) (hs : s.size ≤ 2 ^ 40) :
    Calls Tryz.prog 169 #[.string s] w fun e w' => e = .returned (.bool (decL (L s))) ∧ w = w' := by
  have HD := Lib.hid (numV_dec (L s))
  have HN := Lib.hid (l12Num_any s w hs)
  generalize (numV (L s)).isSome = ok at *
  generalize (numV (L s)).getD 0 = n at *
  cases ok
  · have HF := Lib.hid (show decL (L s) = false by rw [← HD.out]; rfl)
    go_enter Tryz.func169, Tryz.ntmps169
    go_wp2_with fail
    refine HN.out.mono ?_
    rintro e w' ⟨rfl, rfl⟩
    go_wp2_with fail
    go_ret
    exact ⟨ret_bool HF.out.symm, rfl⟩
  · by_cases h0 : 0 ≤ n
    · have q1 : decide (0 ≤ n) = true := by simpa using h0
      have HF := Lib.hid (show decL (L s) = decide (n ≤ 1000000) by rw [← HD.out, q1]; simp)
      clear h0
      go_enter Tryz.func169, Tryz.ntmps169
      go_wp2_with fail
      refine HN.out.mono ?_
      rintro e w' ⟨rfl, rfl⟩
      go_wp2_with fail
      go_ret
      exact ⟨ret_bool HF.out.symm, rfl⟩
    · have q1 : decide (0 ≤ n) = false := by simpa using h0
      have HF := Lib.hid (show decL (L s) = false by rw [← HD.out, q1]; simp)
      clear h0
      go_enter Tryz.func169, Tryz.ntmps169
      go_wp2_with fail
      refine HN.out.mono ?_
      rintro e w' ⟨rfl, rfl⟩
      go_wp2_with fail
      go_ret
      exact ⟨ret_bool HF.out.symm, rfl⟩

end Go.Proofs.YtkfnbakhbbcfcaaGreatDoor
