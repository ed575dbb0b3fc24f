/-
  The contracts of laws.markStringS and laws.heldStringS.
-/
import Derived.Test.YtaclndbilpaboaaDoorStrs
import Derived.Test.YtaclndbilpaboaaDoorMarkText
namespace Go.Proofs.YtaclndbilpaboaaDoor
open Go.RowKit

def marksV (k n : Nat) : List Value := (List.range n).map (fun j => strV (markS (k + j)))
theorem marksV_length (k n : Nat) : (marksV k n).length = n := by simp [marksV]
theorem marksV_get (k n j : Nat) (h : j < n) : (marksV k n)[j]'(by rw [marksV_length]; exact h) = .string (markS (k + j)) := by simp [marksV, strV]
theorem marksV_succ (k n : Nat) : marksV k (n + 1) = marksV k n ++ [.string (markS (k + n))] := by simp [marksV, List.range_succ, strV]

set_option maxHeartbeats 1000000 in
/-- A slice that holds the marks is told to hold them. -/
theorem heldStringS_ok (A : Option Addr) (c k n : Nat) (w : World) (h0 : 0 < k) (hl : k + n ≤ 2 ^ 40) (hA : SlIs w A (marksV k n)) :
    Calls Tryd.prog 17 #[.slice A n c, .int .i64 (k : Int)] w fun e w' => e = .returned (.int .i64 ((k + n : Nat) : Int)) ∧ Below w.heap.size w w' := by
  go_enter Tryd.func17, Tryd.ntmps17
  go_wp2
  go_loopw [1, 5] (fun d i wr => ∃ j : Nat, j ≤ n ∧ i = .int .i64 j ∧ d = .int .i64 ((k + j : Nat) : Int) ∧ Below w.heap.size w wr)
    (fun _ i _ => n - (intOf i).toNat)
  case atStart => exact ⟨0, Nat.zero_le _, rfl, by simp, Below.refl _ _⟩
  case round =>
    obtain ⟨j, hj, rfl, rfl, hnx⟩ := hrel
    by_cases hlt : j < n
    · obtain ⟨g, off, rfl, hg, hc⟩ := hA.at_ (k := j) (by rw [marksV_length]; exact hlt)
      rw [marksV_get k n j hlt] at hc
      have hcr := (hnx.cell (p := ⟨g, off + j, none⟩) hg).trans hc
      clear hc
      have hx : (j : Int) < (n : Int) := by omega
      have hgr : g < wr.heap.size := Nat.lt_of_lt_of_le hg hnx.size
      have HM := Lib.hid (fun W => markText_any (k + j) W (by omega) (by omega))
      generalize markS (k + j) = t at *
      go_wp2
      go_region_held3 (fun w' => w'.cell? ⟨g, off + j, none⟩ = some (.string t) ∧ Below wr.heap.size wr w')
        (first | exact ⟨hcr, (Below.refl _ wr).drew⟩ | exact ⟨(hb.cell (p := ⟨g, off + j, none⟩) hgr).trans (by exact hcr), (Below.refl _ wr).drew.trans hb⟩)
        (first | (go_at_call 31; refine (HM.out _).mono ?_; rintro e w' ⟨rfl, hb⟩))
      rename_i hh
      go_wp2
      go_roundw
      case rel => exact ⟨j + 1, by omega, by go_num, by go_num, hnx.trans (hh.2.mono hnx.size)⟩
      case measure => simp [intOf]; omega
    · obtain rfl : n = j := by omega
      go_wp2
      go_ret
      exact ⟨rfl, hnx⟩

set_option maxHeartbeats 1000000 in
/-- The marks are put into a slice of one's own. -/
theorem markStringS_any (base : Nat) (A : Option Addr) (c k n : Nat) (xs : List Value) (w : World) (h0 : 0 < k) (hl : k + n ≤ 2 ^ 40) (hown : w.ownsRow base 9 1 (.slice A n c) n xs) (hbase : base ≤ w.heap.size) (hstr : ∀ u ∈ xs, ∃ s, u = Value.string s) :
    Calls Tryd.prog 16 #[.slice A n c, .int .i64 (k : Int)] w fun e w' => e = .returned (.int .i64 ((k + n : Nat) : Int)) ∧ w'.ownsRow base 9 1 (.slice A n c) n (marksV k n) ∧ Below base w w' := by
  go_enter Tryd.func16, Tryd.ntmps16
  go_wp2
  go_loopw [1, 5] (fun d i wr => ∃ j : Nat, j ≤ n ∧ i = .int .i64 j ∧ d = .int .i64 ((k + j : Nat) : Int) ∧ wr.ownsRow base 9 1 (.slice A n c) n (marksV k j ++ xs.drop j) ∧ Below base w wr)
    (fun _ i _ => n - (intOf i).toNat)
  case atStart => exact ⟨0, Nat.zero_le _, rfl, by simp, by simpa [marksV] using hown, Below.refl _ _⟩
  case round =>
    obtain ⟨j, hj, rfl, rfl, hrow, hnx⟩ := hrel
    have hxl : xs.length = n := by have := hown.1; omega
    by_cases hlt : j < n
    · obtain ⟨g, cap, hv, hbg, hgl⟩ := hrow.form (by omega)
      have hA : A = some ⟨g, 0, none⟩ := by injection hv
      subst hA
      have hcell : ∃ s, wr.cell? ⟨g, j, none⟩ = some (Value.string s) := by
        rw [hrow.cellAt j (by omega), List.getElem?_append_right (by rw [marksV_length]; exact Nat.le_refl _), marksV_length, Nat.sub_self, List.getElem?_drop, Nat.add_zero, List.getElem?_eq_getElem (by omega)]
        obtain ⟨s, hs⟩ := hstr xs[j] (List.getElem_mem _)
        exact ⟨s, by rw [hs]⟩
      obtain ⟨s0, hc0⟩ := hcell
      have hf0 := hrow.frozenAt j
      have hx : (j : Int) < (n : Int) := by omega
      have HR := Lib.hid hrow
      have HX := Lib.hid hxl
      have HG := Lib.hid hv
      clear hrow hxl hv hown
      have HM := Lib.hid (fun W => markText_any (k + j) W (by omega) (by omega))
      have HS := Lib.hid (marksV_succ k j)
      generalize markS (k + j) = t at *
      go_wp2_with fail
      refine (HM.out _).mono ?_
      rintro e w1 ⟨rfl, hb1⟩
      have hc1 := (hb1.cell (p := ⟨g, j, none⟩) hgl).trans hc0
      have hf1 := (hb1.frozen (p := ⟨g, j, none⟩) hgl).trans hf0
      clear hc0 hf0
      go_wp2
      go_roundw
      case rel =>
        refine ⟨j + 1, by omega, by go_num, by go_num, ?_, ?_⟩
        · have h2 := ((own_below HR.out hb1).stored j (.string t)).1
          rw [show (marksV k j ++ xs.drop j).set j (.string t) = marksV k (j + 1) ++ xs.drop (j + 1) from ?_] at h2
          · exact h2
          · rw [List.set_append_right _ _ (by rw [marksV_length]; exact Nat.le_refl _), marksV_length, Nat.sub_self, HS.out, List.drop_eq_getElem_cons (by rw [HX.out]; exact hlt), List.set_cons_zero, List.append_assoc]
            rfl
        · exact (hnx.trans (hb1.mono (Nat.le_trans hbase hnx.size))).setCell (p := ⟨g, j, none⟩) hbg _
      case measure => simp [intOf]; omega
    · obtain rfl : n = j := by omega
      have HR := Lib.hid hrow
      clear hrow hown
      have HX := Lib.hid hxl
      clear hxl
      go_wp2
      go_ret
      exact ⟨rfl, by have := HR.out; rw [List.drop_eq_nil_of_le (by rw [HX.out]; exact Nat.le_refl _), List.append_nil] at this; exact this, hnx⟩

theorem grown_step {w wr w1 : World} {g j : Nat} {v : Value} (h : w.grownBy wr (some g)) (hb : Below wr.heap.size wr w1) : w.grownBy (w1.setCell ⟨g, j, none⟩ v) (some g) :=
  ⟨hb.os.trans h.os, hb.tape.trans h.tape, hb.output.trans h.output, Nat.le_trans h.size (Nat.le_trans hb.size (by simp [World.setCell])), fun i hi hne => (Below.heap_setCell w1 ⟨g, j, none⟩ v i (fun e => hne (by rw [e]))).trans ((hb.block i (Nat.lt_of_lt_of_le hi h.size)).trans (h.block i hi hne))⟩
set_option maxHeartbeats 1000000 in
/-- The same, and nothing beside that slice is turned. -/
theorem markStringS_own (base : Nat) (A : Option Addr) (c k n : Nat) (xs : List Value) (w : World) (h0 : 0 < k) (hl : k + n ≤ 2 ^ 40) (hown : w.ownsRow base 9 1 (.slice A n c) n xs) (hbase : base ≤ w.heap.size) (hstr : ∀ u ∈ xs, ∃ s, u = Value.string s) :
    Calls Tryd.prog 16 #[.slice A n c, .int .i64 (k : Int)] w fun e w' => e = .returned (.int .i64 ((k + n : Nat) : Int)) ∧ w'.ownsRow base 9 1 (.slice A n c) n (marksV k n) ∧ Below base w w' ∧ w.grownBy w' (Value.slice A n c).ownBlock := by
  go_enter Tryd.func16, Tryd.ntmps16
  go_wp2
  go_loopw [1, 5] (fun d i wr => ∃ j : Nat, j ≤ n ∧ i = .int .i64 j ∧ d = .int .i64 ((k + j : Nat) : Int) ∧ wr.ownsRow base 9 1 (.slice A n c) n (marksV k j ++ xs.drop j) ∧ Below base w wr ∧ w.grownBy wr (Value.slice A n c).ownBlock)
    (fun _ i _ => n - (intOf i).toNat)
  case atStart => exact ⟨0, Nat.zero_le _, rfl, by simp, by simpa [marksV] using hown, Below.refl _ _, ⟨rfl, rfl, rfl, Nat.le_refl _, fun _ _ _ => rfl⟩⟩
  case round =>
    obtain ⟨j, hj, rfl, rfl, hrow, hnx, hgr⟩ := hrel
    have hxl : xs.length = n := by have := hown.1; omega
    by_cases hlt : j < n
    · obtain ⟨g, cap, hv, hbg, hgl⟩ := hrow.form (by omega)
      have hA : A = some ⟨g, 0, none⟩ := by injection hv
      subst hA
      have hcell : ∃ s, wr.cell? ⟨g, j, none⟩ = some (Value.string s) := by
        rw [hrow.cellAt j (by omega), List.getElem?_append_right (by rw [marksV_length]; exact Nat.le_refl _), marksV_length, Nat.sub_self, List.getElem?_drop, Nat.add_zero, List.getElem?_eq_getElem (by omega)]
        obtain ⟨s, hs⟩ := hstr xs[j] (List.getElem_mem _)
        exact ⟨s, by rw [hs]⟩
      obtain ⟨s0, hc0⟩ := hcell
      have hf0 := hrow.frozenAt j
      have hx : (j : Int) < (n : Int) := by omega
      have HR := Lib.hid hrow
      have HX := Lib.hid hxl
      have HG := Lib.hid hv
      clear hrow hxl hv hown
      have HM := Lib.hid (fun W => markText_any (k + j) W (by omega) (by omega))
      have HS := Lib.hid (marksV_succ k j)
      generalize markS (k + j) = t at *
      go_wp2_with fail
      refine (HM.out _).mono ?_
      rintro e w1 ⟨rfl, hb1⟩
      have hc1 := (hb1.cell (p := ⟨g, j, none⟩) hgl).trans hc0
      have hf1 := (hb1.frozen (p := ⟨g, j, none⟩) hgl).trans hf0
      clear hc0 hf0
      go_wp2
      go_roundw
      case rel =>
        refine ⟨j + 1, by omega, by go_num, by go_num, ?_, ?_, grown_step hgr hb1⟩
        · have h2 := ((own_below HR.out hb1).stored j (.string t)).1
          rw [show (marksV k j ++ xs.drop j).set j (.string t) = marksV k (j + 1) ++ xs.drop (j + 1) from ?_] at h2
          · exact h2
          · rw [List.set_append_right _ _ (by rw [marksV_length]; exact Nat.le_refl _), marksV_length, Nat.sub_self, HS.out, List.drop_eq_getElem_cons (by rw [HX.out]; exact hlt), List.set_cons_zero, List.append_assoc]
            rfl
        · exact (hnx.trans (hb1.mono (Nat.le_trans hbase hnx.size))).setCell (p := ⟨g, j, none⟩) hbg _
      case measure => simp [intOf]; omega
    · obtain rfl : n = j := by omega
      have HR := Lib.hid hrow
      clear hrow hown
      have HX := Lib.hid hxl
      clear hxl
      go_wp2
      go_ret
      exact ⟨rfl, by have := HR.out; rw [List.drop_eq_nil_of_le (by rw [HX.out]; exact Nat.le_refl _), List.append_nil] at this; exact this, hnx, hgr⟩

end Go.Proofs.YtaclndbilpaboaaDoor
