/-
  The contract of the program's ProgText.
-/
import Derived.Test.YtkllhnhinealfaaGreatDoorImplProg
import Derived.Test.YtkllhnhinealfaaGreatDoorPTextMath
namespace Go.Proofs.YtkllhnhinealfaaGreatDoor
open Go.RowKit

set_option linter.unusedVariables false in
set_option linter.unusedSimpArgs false in
set_option maxRecDepth 100000 in
set_option maxHeartbeats 8000000 in
theorem progText_any (xs : List St) (A : Option Addr) (c B : Nat) (a : Addr) (w : World) (hA : LinesU w B A xs) (hB : B ≤ w.heap.size) (hwt : stWts xs ≤ 2 ^ 29) (hL : LaidW w) (hN : LaidN w a) :
    Calls Tryz.prog 29 #[.slice A xs.length c] w fun r w' => r = .returned (.string (textP xs)) ∧ Below w.heap.size w w' := by
  have HD := Lib.hid (deedsOf_any xs A c B a w hA hB hwt hL hN)
  have HL := Lib.hid hL
  clear hA hL hN hwt
  go_enter Tryz.func29, Tryz.ntmps29
  go_wp2_with fail
  refine HD.out.mono ?_
  rintro r w1 ⟨hb1, (⟨ds, g, hd, rfl, hg, hce⟩ | ⟨hd, rfl⟩)⟩
  · obtain ⟨htot, _, hl16⟩ := texts_tot hd
    have HT := Lib.hid (textP_some hd)
    have HF := Lib.hid (fun (d : De) (h : d ∈ ds) => (((doP_fine hd).2 d h).1))
    have HCE := Lib.hid hce
    have hmk := fun W => run_make_row' (P := Tryz.prog) 73 9 (.string ByteArray.empty) 16 Tryz.underlying73 infoStr rfl .i64 .i64 ds.length (by omega) (by omega) W
    clear hd hce HD
    go_wp2_with fail
    go_loopw [6, 7, 20] (fun s6 s7 i wr => ∃ j : Nat, j ≤ ds.length ∧ i = .int .i64 j ∧ Hid (wr.ownsRow w1.heap.size 9 1 (.slice (some ⟨w1.heap.size, 0, none⟩) ds.length ds.length) ds.length (((ds.take j).map De.text).map strV ++ List.replicate (ds.length - j) (.string ByteArray.empty))) ∧ Below w1.heap.size w1 wr)
      (fun _ _ i _ => ds.length - (intOf i).toNat)
    case atStart => exact ⟨0, Nat.zero_le _, rfl, Lib.hid (by simpa using own_made w1 (.string ByteArray.empty) ds.length (by unfold maxLen; omega) 9), (Below.refl _ w1).alloc (Nat.le_refl _) _⟩
    case round =>
      obtain ⟨j, hj, rfl, HR, hBw⟩ := hrel
      clear hmk
      by_cases hlt : j < ds.length
      · have hcd : wr.cell? ⟨g, j, none⟩ = some (deV ds[j]) := (hBw.cell (p := ⟨g, j, none⟩) hg).trans (HCE.out j hlt)
        have HDT := Lib.hid (deedText_any ds[j] (HF.out _ (List.getElem_mem hlt)) wr (HL.out.below (hb1.trans (hBw.mono hb1.size))))
        have HTK := Lib.hid (List.take_succ_eq_append_getElem hlt)
        have hx : (j : Int) < (ds.length : Int) := by omega
        unfold deV at hcd HDT
        generalize ds[j] = d at *
        have HTX := Lib.hid (show d.text = d.text from rfl)
        obtain ⟨tx, htx⟩ : ∃ tx, tx = d.text := ⟨_, rfl⟩
        rw [← htx] at HDT
        have HTE := Lib.hid htx
        generalize deT d = t1 at *
        generalize deU d = u1 at *
        clear htx HTX
        go_wp2_with fail
        refine HDT.out.mono ?_
        rintro r w2 ⟨rfl, hb2⟩
        have HRK := Lib.hid (own_below HR.out hb2)
        have hdk : w2.cell? ⟨w1.heap.size, j, none⟩ = some (.string ByteArray.empty) := by
          rw [HRK.out.cellAt j (by omega), List.getElem?_append_right (by simp; omega), List.getElem?_replicate]
          simp
          omega
        have hdf := HRK.out.frozenAt j
        have hbw := hBw.trans (hb2.mono hBw.size)
        clear HR hb2 HDT
        go_wp2_with fail
        go_roundw
        case rel =>
          refine ⟨j + 1, by omega, by go_num, Lib.hid ?_, hbw.setCell (p := ⟨w1.heap.size, j, none⟩) (Nat.le_refl _) _⟩
          have h2 := (HRK.out.stored j (.string tx)).1
          rw [show (((ds.take j).map De.text).map strV ++ List.replicate (ds.length - j) (Value.string ByteArray.empty)).set j (.string tx) = ((ds.take (j + 1)).map De.text).map strV ++ List.replicate (ds.length - (j + 1)) (.string ByteArray.empty) from ?_] at h2
          · exact h2
          · have hl2 : (((ds.take j).map De.text).map strV).length = j := by simp; omega
            obtain ⟨m, hm⟩ : ∃ m, ds.length - j = m + 1 := ⟨ds.length - j - 1, by omega⟩
            rw [List.set_append_right _ _ (by omega), hl2, Nat.sub_self, hm, List.replicate_succ, List.set_cons_zero, HTK.out, List.map_append, List.map_append, List.append_assoc, show ds.length - (j + 1) = m from by omega, HTE.out]
            rfl
        case measure => simp [intOf]; omega
      · obtain rfl : j = ds.length := by omega
        have h2 := HR.out
        rw [List.take_length, Nat.sub_self, List.replicate_zero, List.append_nil] at h2
        have hll : (ds.map De.text).length = ds.length := by simp
        have HJ := Lib.hid (textJoin_any (some ⟨w1.heap.size, 0, none⟩) ds.length (ds.map De.text) wr htot (by rw [hll]; exact Nat.le_refl _) (SlIs.own h2))
        rw [hll] at HJ HT
        clear h2 HR hll
        go_wp2_with fail
        refine HJ.out.mono ?_
        rintro r w3 ⟨rfl, hb3⟩
        go_wp2_with fail
        go_ret
        exact ⟨ret_str HT.out.symm, hb1.trans ((hBw.trans (hb3.mono hBw.size)).mono hb1.size)⟩
  · have HT := Lib.hid (textP_none hd)
    clear hd HD
    go_wp2_with fail
    go_ret
    exact ⟨ret_str HT.out.symm, hb1⟩
end Go.Proofs.YtkllhnhinealfaaGreatDoor
