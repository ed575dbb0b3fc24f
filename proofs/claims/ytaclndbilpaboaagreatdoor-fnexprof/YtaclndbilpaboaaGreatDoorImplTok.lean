/-
  The contracts of impl.stateOf and impl.wordOk, for all runes and texts.
-/
import Derived.Test.YtaclndbilpaboaaGreatDoorSpecLine
import Derived.Lib.OthersKept
import Derived.Laws.RangeAny
namespace Go.Proofs.YtaclndbilpaboaaGreatDoor
open Go.RowKit

/-- What a rune is within: 0 spaces, 1 letters, 2 digits, 3 another. -/
def stR (r : Nat) : Nat := if r = 32 then 0 else if 97 ≤ r ∧ r ≤ 122 then 1 else if 48 ≤ r ∧ r ≤ 57 then 2 else 3
theorem stR_high {r : Nat} (h : 128 ≤ r) : stR r = 3 := by unfold stR; rw [if_neg (by omega), if_neg (by omega), if_neg (by omega)]
theorem stR_let {c : UInt8} : stR c.toNat = 1 ↔ isLet c = true := by
  rw [isLet_iff]
  unfold stR
  constructor
  · intro h
    split at h
    · cases h
    · split at h
      · assumption
      · split at h <;> cases h
  · intro h; rw [if_neg (by omega), if_pos h]
theorem stR_dig {c : UInt8} : stR c.toNat = 2 ↔ isDig c = true := by
  rw [isDig_iff]
  unfold stR
  constructor
  · intro h
    split at h
    · cases h
    · split at h
      · cases h
      · split at h
        · assumption
        · cases h
  · intro h; rw [if_neg (by omega), if_neg (by omega), if_pos h]
theorem stR_space {c : UInt8} : stR c.toNat = 0 ↔ c = 32 := by
  unfold stR
  constructor
  · intro h
    split at h
    · exact UInt8.toNat_inj.1 (by assumption)
    · split at h
      · cases h
      · split at h <;> cases h
  · rintro rfl; rfl
theorem stR_le (r : Nat) : stR r ≤ 3 := by
  unfold stR
  split
  · omega
  · split
    · omega
    · split <;> omega

set_option maxHeartbeats 1000000 in
theorem stateOf_any (r : Nat) (w : World) (hr : r ≤ 2147483647) :
    Calls Tryz.prog 65 #[.int .i32 (r : Int)] w fun e w' => e = .returned (.int .i64 (stR r : Int)) ∧ w = w' := by
  by_cases h32 : r = 32
  · subst h32
    go_enter Tryz.func65, Tryz.ntmps65
    go_wp2
    go_ret
    exact ⟨rfl, rfl⟩
  · have q1 : ((r : Int) == 32) = false := by rw [beq_eq_false_iff_ne]; omega
    by_cases hl : 97 ≤ r ∧ r ≤ 122
    · have q2 : decide ((97 : Int) ≤ (r : Int)) = true := by simp; omega
      have q3 : decide ((r : Int) ≤ 122) = true := by simp; omega
      have HS := Lib.hid (show stR r = 1 by unfold stR; rw [if_neg h32, if_pos hl])
      clear hl h32
      go_enter Tryz.func65, Tryz.ntmps65
      go_wp2
      go_ret
      exact ⟨ret_int (by rw [HS.out]; rfl), rfl⟩
    · by_cases hd : 48 ≤ r ∧ r ≤ 57
      · have q2 : decide ((97 : Int) ≤ (r : Int)) = false := by simp; omega
        have q4 : decide ((48 : Int) ≤ (r : Int)) = true := by simp; omega
        have q5 : decide ((r : Int) ≤ 57) = true := by simp; omega
        have HS := Lib.hid (show stR r = 2 by unfold stR; rw [if_neg h32, if_neg hl, if_pos hd])
        clear hl h32 hd
        go_enter Tryz.func65, Tryz.ntmps65
        go_wp2
        go_ret
        exact ⟨ret_int (by rw [HS.out]; rfl), rfl⟩
      · have HS := Lib.hid (show stR r = 3 by unfold stR; rw [if_neg h32, if_neg hl, if_neg hd])
        by_cases h97 : 97 ≤ r
        · have q2 : decide ((97 : Int) ≤ (r : Int)) = true := by simp; omega
          have q3 : decide ((r : Int) ≤ 122) = false := by simp; omega
          have q4 : decide ((48 : Int) ≤ (r : Int)) = true := by simp; omega
          have q5 : decide ((r : Int) ≤ 57) = false := by simp; omega
          clear hl h32 hd h97
          go_enter Tryz.func65, Tryz.ntmps65
          go_wp2
          go_ret
          exact ⟨ret_int (by rw [HS.out]; rfl), rfl⟩
        · have q2 : decide ((97 : Int) ≤ (r : Int)) = false := by simp; omega
          by_cases h48 : 48 ≤ r
          · have q4 : decide ((48 : Int) ≤ (r : Int)) = true := by simp; omega
            have q5 : decide ((r : Int) ≤ 57) = false := by simp; omega
            clear hl h32 hd h97 h48
            go_enter Tryz.func65, Tryz.ntmps65
            go_wp2
            go_ret
            exact ⟨ret_int (by rw [HS.out]; rfl), rfl⟩
          · have q4 : decide ((48 : Int) ≤ (r : Int)) = false := by simp; omega
            clear hl h32 hd h97 h48
            go_enter Tryz.func65, Tryz.ntmps65
            go_wp2
            go_ret
            exact ⟨ret_int (by rw [HS.out]; rfl), rfl⟩

set_option maxRecDepth 100000 in
set_option maxHeartbeats 2000000 in
theorem wordOk_any (s : ByteArray) (w : World) (hs : s.size ≤ 2 ^ 40) :
    Calls Tryz.prog 62 #[.string s] w fun e w' => e = .returned (.bool (wordL (L s))) ∧ Below w.heap.size w w' := by
  have HL := Lib.hid (L_length s)
  by_cases h0 : s.size = 0
  · obtain rfl : s = ByteArray.empty := by
      apply ByteArray.ext; apply Array.toList_inj.1
      exact List.eq_nil_of_length_eq_zero (by rw [Array.length_toList]; exact h0)
    go_enter Tryz.func62, Tryz.ntmps62
    go_wp2
    go_ret
    exact ⟨rfl, Below.refl _ _⟩
  · have q0' : ¬ s.toList = [] := by
      intro e
      rw [ByteArray.toList_eq] at e
      have := congrArg List.length e
      rw [Array.length_toList] at this
      exact h0 this
    have q0 : s.toList.isEmpty = false := by rw [List.isEmpty_eq_false_iff]; exact q0'
    by_cases h8 : 8 < s.size
    · have q1 : decide ((8 : Int) < (s.size : Int)) = true := by simp; omega
      have HF := Lib.hid (show wordL (L s) = false by unfold wordL; rw [HL.out, decide_eq_false (by omega : ¬ s.size ≤ 8)]; simp)
      clear h8
      go_enter Tryz.func62, Tryz.ntmps62
      go_wp2
      go_ret
      exact ⟨ret_bool HF.out.symm, Below.refl _ _⟩
    · have q1 : decide ((8 : Int) < (s.size : Int)) = false := by simp; omega
      go_enter Tryz.func62, Tryz.ntmps62
      go_wp2
      go_loopw [4] (fun _ wr => ∃ pos : Nat, pos ≤ s.size ∧ wr.heap[w.heap.size]? = some (.stringIter s pos) ∧ Below w.heap.size w wr ∧ Hid (((L s).take pos).all isLet = true)) (fun _ wr => s.size - wr.iterPos w.heap.size)
      case atStart =>
        refine ⟨0, Nat.zero_le _, ?_, (Below.refl _ w).alloc (Nat.le_refl _) _, rfl⟩
        exact World.iter_heap w s 0
      case round =>
        clear q0 q0' q1
        obtain ⟨pos, hps, hit, hbw, HP⟩ := hrel
        have hsz : w.heap.size < wr.heap.size := (Array.getElem?_eq_some_iff.1 hit).1
        by_cases hp : pos < s.size
        · by_cases ha : s[pos].toNat < 128
          · have hnx : ∀ ty, (Instr.next (.pointer (some ⟨w.heap.size, 0, none⟩)) true ty).run Tryz.prog wr = _ := fun ty => Lib.run_next_ascii_at wr w.heap.size s pos ty hit hp ha
            have hit2 := Lib.iterAt_heap wr w.heap.size s pos (pos + 1) hit
            have hbw2 := Lib.below_iterAt hbw (k := w.heap.size) (Nat.le_refl _) s (pos + 1)
            have HST := Lib.hid (fun W => stateOf_any s[pos].toNat W (by omega))
            cases hl : isLet s[pos]
            · have HF := Lib.hid (show wordL (L s) = false by unfold wordL; rw [all_take_bad s pos hp hl, Bool.and_false, Bool.and_false])
              have hne : stR s[pos].toNat ≠ 1 := fun h => by rw [stR_let.1 h] at hl; cases hl
              generalize stR s[pos].toNat = st at *
              have q2 : ((st : Int) != 1) = true := by rw [bne_iff_ne]; omega
              clear hne hl
              go_wp2_with fail
              refine (HST.out _).mono ?_
              rintro e w' ⟨rfl, rfl⟩
              go_wp2_with fail
              go_ret
              exact ⟨ret_bool HF.out.symm, hbw2⟩
            · have he : stR s[pos].toNat = 1 := stR_let.2 hl
              rw [he] at HST
              have HP2 := Lib.hid (show ((L s).take (pos + 1)).all isLet = true by rw [L_take s pos hp, List.all_append, HP.out, List.all_cons, hl]; rfl)
              have HIT := Lib.hid hit2
              have HIT0 := Lib.hid hit
              clear he hl
              go_wp2_with fail
              refine (HST.out _).mono ?_
              rintro e w' ⟨rfl, rfl⟩
              go_wp2_with fail
              go_roundw
              case rel => exact ⟨pos + 1, by omega, HIT.out, hbw2, HP2⟩
              case measure =>
                simp only [World.iterPos, HIT.out, HIT0.out]
                omega
          · have hdh := decode_high s pos hp (by omega)
            have hdl := decode_le s pos
            have hnx : ∀ ty, (Instr.next (.pointer (some ⟨w.heap.size, 0, none⟩)) true ty).run Tryz.prog wr = _ := fun ty => Lib.run_next_any_at wr w.heap.size s pos ty hit hp
            have hbw2 := Lib.below_iterAt hbw (k := w.heap.size) (Nat.le_refl _) s (pos + (Utf8.decode s pos).2)
            have HF := Lib.hid (show wordL (L s) = false by
              have : isLet s[pos] = false := by cases h : isLet s[pos]; rfl; rw [isLet_iff] at h; omega
              unfold wordL; rw [all_take_bad s pos hp this, Bool.and_false, Bool.and_false])
            generalize (Utf8.decode s pos).1 = r at *
            generalize (Utf8.decode s pos).2 = wd at *
            have HST := Lib.hid (fun W => stateOf_any r W hdl)
            rw [stR_high hdh.1] at HST
            clear hdh
            go_wp2_with fail
            refine (HST.out _).mono ?_
            rintro e w' ⟨rfl, rfl⟩
            go_wp2_with fail
            go_ret
            exact ⟨ret_bool HF.out.symm, hbw2⟩
        · obtain rfl : s.size = pos := by omega
          have hnx : ∀ ty, (Instr.next (.pointer (some ⟨w.heap.size, 0, none⟩)) true ty).run Tryz.prog wr = _ := fun ty => Lib.run_next_end_at wr w.heap.size s s.size ty hit hp
          have HF := Lib.hid (show wordL (L s) = true by
            have := HP.out
            rw [L_take_all] at this
            unfold wordL
            rw [this, HL.out, decide_eq_true (by omega : 1 ≤ s.size), decide_eq_true (by omega : s.size ≤ 8)]
            rfl)
          go_wp2_with fail
          go_ret
          exact ⟨ret_bool HF.out.symm, hbw⟩
end Go.Proofs.YtaclndbilpaboaaGreatDoor
