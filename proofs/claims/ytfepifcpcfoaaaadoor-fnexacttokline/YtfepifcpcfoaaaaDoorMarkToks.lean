/-
  The contracts of laws.markTokS and laws.heldTokS.
-/
import Derived.Test.YtfepifcpcfoaaaaDoorToks
import Derived.Test.YtfepifcpcfoaaaaDoorMarkText
namespace Go.Proofs.YtfepifcpcfoaaaaDoor
open Go.RowKit

def markT (k j : Nat) : Tv := (((k + 3 * j : Nat) : Int), markS (k + 3 * j + 1), ((k + 3 * j + 2 : Nat) : Int))
def marksT (k n : Nat) : List Tv := (List.range n).map (markT k)
theorem marksT_length (k n : Nat) : (marksT k n).length = n := by simp [marksT]
theorem marksT_get (k n j : Nat) (h : j < n) : (marksT k n)[j]'(by rw [marksT_length]; exact h) = markT k j := by simp [marksT]
theorem marksT_succ (k n : Nat) : marksT k (n + 1) = marksT k n ++ [markT k n] := by simp [marksT, List.range_succ]

set_option maxRecDepth 100000 in
set_option maxHeartbeats 2000000 in
/-- A slice that holds the marks is told to hold them. -/
theorem heldTokS_ok (A : Option Addr) (c k n : Nat) (w : World) (h0 : 0 < k) (hl : k + 3 * n ≤ 2 ^ 39) (hA : SlIs w A (rowT (marksT k n))) :
    Calls Tryd.prog 28 #[.slice A n c, .int .i64 (k : Int)] w fun e w' => e = .returned (.int .i64 ((k + 3 * n : Nat) : Int)) ∧ Below w.heap.size w w' := by
  go_enter Tryd.func28, Tryd.ntmps28
  go_wp2
  go_loopw [1, 5] (fun d i wr => ∃ j m : Nat, j ≤ n ∧ i = .int .i64 j ∧ d = .int .i64 (m : Int) ∧ Hid (m = k + 3 * j) ∧ Below w.heap.size w wr)
    (fun _ i _ => n - (intOf i).toNat)
  case atStart => exact ⟨0, k, Nat.zero_le _, rfl, rfl, rfl, Below.refl _ _⟩
  case round =>
    obtain ⟨j, m, hj, rfl, rfl, HM, hnx⟩ := hrel
    have hmb : m ≤ 2 ^ 39 := by have := HM.out; omega
    have hm0 : 0 < m := by have := HM.out; omega
    by_cases hlt : j < n
    · obtain ⟨g, off, rfl, hg, c0, c1, c2⟩ := (hA.below hnx).tok (k := j) (by rw [marksT_length]; exact hlt)
      rw [marksT_get k n j hlt] at c0 c1 c2
      unfold markT at c0 c1 c2
      simp only at c0 c1 c2
      have e := HM.out
      rw [← e] at c0 c1 c2
      clear e
      have hx : (j : Int) < (n : Int) := by omega
      have q1 : ((m : Int) != (m : Int)) = false := by simp
      have q2 : (((m + 2 : Nat) : Int) != ((m : Int) + 2)) = false := by simp
      have HMT := Lib.hid (fun W => markText_any (m + 1) W (by omega) (by omega))
      rw [show ((m + 1 : Nat) : Int) = (m : Int) + 1 by omega] at HMT
      rw [show ((m + 2 : Nat) : Int) = (m : Int) + 2 by omega] at c2
      generalize markS (m + 1) = t at *
      have q3 : (!t.toList == t.toList) = false := by simp
      clear hA
      have hq4 : (((m : Int) + 2) != ((m : Int) + 1 + 1)) = false := by rw [bne_eq_false_iff_eq]; omega
      go_wp2
      go_region_held3 (fun w' => w'.cell? ⟨g, off + j * 3 + 1, none⟩ = some (.string t) ∧ Below wr.heap.size wr w')
        (first | exact ⟨c1, (Below.refl _ wr).drew⟩ | exact ⟨(hb.cell (p := ⟨g, off + j * 3 + 1, none⟩) hg).trans (by exact c1), (Below.refl _ wr).drew.trans hb⟩)
        (first | (go_at_call 47; refine (HMT.out _).mono ?_; rintro e w' ⟨rfl, hb⟩))
      rename_i hh
      have d2 := (hh.2.cell (p := ⟨g, off + j * 3 + 2, none⟩) hg).trans c2
      clear c0 c1 c2
      go_wp2
      go_roundw
      case rel => exact ⟨j + 1, m + 3, by omega, by go_num, by go_num, by have := HM.out; show m + 3 = _; omega, hnx.trans (hh.2.mono hnx.size)⟩
      case measure => simp [intOf]; omega
    · obtain rfl : n = j := by omega
      go_wp2
      go_ret
      exact ⟨ret_int (by rw [HM.out]), hnx⟩

set_option maxRecDepth 100000 in
set_option maxHeartbeats 2000000 in
/-- The marks are put into a slice of one's own. -/
theorem markTokS_any (base : Nat) (A : Option Addr) (c k n : Nat) (xs : List Tv) (w : World) (h0 : 0 < k) (hl : k + 3 * n ≤ 2 ^ 39) (hn : xs.length = n) (hown : w.ownsRow base 31 3 (.slice A n c) n (rowT xs)) :
    Calls Tryd.prog 27 #[.slice A n c, .int .i64 (k : Int)] w fun e w' => e = .returned (.int .i64 ((k + 3 * n : Nat) : Int)) ∧ w'.ownsRow base 31 3 (.slice A n c) n (rowT (marksT k n)) ∧ Below base w w' := by
  go_enter Tryd.func27, Tryd.ntmps27
  go_wp2
  go_loopw [1, 5] (fun d i wr => ∃ j m : Nat, j ≤ n ∧ i = .int .i64 j ∧ d = .int .i64 (m : Int) ∧ Hid (m = k + 3 * j) ∧ wr.ownsRow base 31 3 (.slice A n c) n (rowT (marksT k j ++ xs.drop j)) ∧ Below base w wr)
    (fun _ i _ => n - (intOf i).toNat)
  case atStart => exact ⟨0, k, Nat.zero_le _, rfl, rfl, rfl, by simpa [marksT] using hown, Below.refl _ _⟩
  case round =>
    obtain ⟨j, m, hj, rfl, rfl, HM, hrow, hnx⟩ := hrel
    have hmb : m ≤ 2 ^ 39 := by have := HM.out; omega
    have hm0 : 0 < m := by have := HM.out; omega
    by_cases hlt : j < n
    · have hyl : (marksT k j ++ xs.drop j).length = n := by rw [List.length_append, marksT_length, List.length_drop]; omega
      obtain ⟨g, off, rfl, hg, c0, c1, c2⟩ := (SlIs.ownK hrow).tok (k := j) (by rw [hyl]; exact hlt)
      obtain ⟨g', cap', e', hbg, hgl⟩ := hrow.form (by omega)
      injection e' with e1 e2 e3
      injection e1 with e1
      injection e1 with e1 e4
      subst e1 e4 e3
      rw [Nat.zero_add] at c0 c1 c2
      have f0 := hrow.frozenAt (j * 3)
      have f1 := hrow.frozenAt (j * 3 + 1)
      have f2 := hrow.frozenAt (j * 3 + 2)
      have HX := Lib.hid (show (marksT k j ++ xs.drop j).set j (markT k j) = marksT k (j + 1) ++ xs.drop (j + 1) by
        rw [List.set_append_right _ _ (by rw [marksT_length]; exact Nat.le_refl _), marksT_length, Nat.sub_self, marksT_succ, List.drop_eq_getElem_cons (by omega), List.set_cons_zero, List.append_assoc]
        rfl)
      have HMK := Lib.hid (show markT k j = ((m : Int), markS (m + 1), (m : Int) + 2) by unfold markT; rw [← HM.out]; rfl)
      have HMT := Lib.hid (fun W => markText_any (m + 1) W (by omega) (by omega))
      rw [show ((m + 1 : Nat) : Int) = (m : Int) + 1 by omega] at HMT
      have r1 := rowT_get (marksT k j ++ xs.drop j) j (by rw [hyl]; exact hlt) 1 (by omega)
      have r2 := rowT_get (marksT k j ++ xs.drop j) j (by rw [hyl]; exact hlt) 2 (by omega)
      generalize markS (m + 1) = t at *
      generalize (marksT k j ++ xs.drop j)[j]'(by rw [hyl]; exact hlt) = z at *
      have R1 := Lib.hid r1
      have R2 := Lib.hid r2
      clear r1 r2
      have HR := Lib.hid hrow
      have HYL := Lib.hid hyl
      have hx : (j : Int) < (n : Int) := by omega
      clear hrow hyl hown
      go_wp2_with fail
      refine (HMT.out _).mono ?_
      rintro e w2 ⟨rfl, hb2⟩
      have HO1 := Lib.hid (own_below (HR.out.stored (j * 3) (.int .i64 (m : Int))).1 hb2)
      have hb2' : Below base wr w2 := ((Below.refl base wr).setCell (p := ⟨g, j * 3, none⟩) hbg _).trans (hb2.mono (by simp; omega))
      have hg2 : g < w2.heap.size := Nat.lt_of_lt_of_le (by simpa using hgl) hb2.size
      have d1 : w2.cell? ⟨g, j * 3 + 1, none⟩ = some (.string z.2.1) := by
        rw [HO1.out.cellAt (j * 3 + 1) (by omega), List.getElem?_set_ne (by omega), R1.out]; rfl
      have d2 : w2.cell? ⟨g, j * 3 + 2, none⟩ = some (.int .i64 z.2.2) := by
        rw [HO1.out.cellAt (j * 3 + 2) (by omega), List.getElem?_set_ne (by omega), R2.out]; rfl
      have e1 := HO1.out.frozenAt (j * 3 + 1)
      have e2 := HO1.out.frozenAt (j * 3 + 2)
      clear c0 c1 c2 f0 f1 f2 HMT
      go_wp2
      go_roundw
      case rel =>
        refine ⟨j + 1, m + 3, by omega, by go_num, by go_num, by have := HM.out; show m + 3 = _; omega, ?_, ?_⟩
        · have s1 := (HO1.out.stored (j * 3 + 1) (.string t)).1
          have s2 := (s1.stored (j * 3 + 2) (.int .i64 ((m : Int) + 2))).1
          rw [rowT_set _ j ((m : Int), t, (m : Int) + 2) (by rw [HYL.out]; exact hlt), ← HMK.out, HX.out] at s2
          rw [show (m : Int) + 1 + 1 = (m : Int) + 2 by omega]
          exact s2
        · exact ((hnx.trans hb2').setCell (p := ⟨g, j * 3 + 1, none⟩) hbg _).setCell (p := ⟨g, j * 3 + 2, none⟩) hbg _
      case measure => simp [intOf]; omega
    · obtain rfl : n = j := by omega
      have HR := Lib.hid hrow
      clear hrow hown
      go_wp2
      go_ret
      exact ⟨ret_int (by rw [HM.out]), by have := HR.out; rw [List.drop_eq_nil_of_le (by omega), List.append_nil] at this; exact this, hnx⟩
end Go.Proofs.YtfepifcpcfoaaaaDoor
