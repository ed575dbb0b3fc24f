/-
  The contract of the model's ProgText.
-/
import Derived.Test.YtkllhnhinealfaaGreatDoorSpecProg
import Derived.Test.YtkllhnhinealfaaGreatDoorSpecText
import Derived.Test.YtkllhnhinealfaaGreatDoorPTextMath
namespace Go.Proofs.YtkllhnhinealfaaGreatDoor
open Go.RowKit

set_option linter.unusedVariables false in
set_option linter.unusedSimpArgs false in
set_option maxRecDepth 100000 in
set_option maxHeartbeats 8000000 in
theorem specProgText_any (xs : List St) (A : Option Addr) (c B : Nat) (w : World) (hA : LinesAt w B A xs) (hB : B ≤ w.heap.size) (hwt : stWts xs ≤ 2 ^ 29) :
    Calls Tryz.prog 28 #[.slice A xs.length c] w fun r w' => r = .returned (.string (textP xs)) ∧ Below w.heap.size w w' := by
  have hl : xs.length ≤ 2 ^ 29 := Nat.le_trans (stWts_length xs) hwt
  have HO := Lib.hid (specProgOk_any xs A c B w hA hB hwt)
  have HA := Lib.hid hA
  have HW := Lib.hid (fun (s : St) (h : s ∈ xs) => Nat.le_trans (stWts_mem h) hwt)
  clear hA hwt
  cases hd : doP xs with
  | none =>
    have HT := Lib.hid (textP_none hd)
    rw [hd] at HO
    clear hd
    go_enter Tryz.func28, Tryz.ntmps28
    go_wp2_with fail
    refine HO.out.mono ?_
    rintro r w1 ⟨rfl, hb1⟩
    go_wp2_with fail
    go_ret
    exact ⟨ret_str HT.out.symm, hb1⟩
  | some ds =>
    have htot := (texts_tot hd).2.1
    have hl16 : xs.length ≤ 16 := (doP_some hd).2.2
    have HT := Lib.hid (show textP xs = joinN (xs.map textS) (xs.map textS).length by unfold textP; rw [hd]; simp)
    rw [hd] at HO
    clear hd
    go_enter Tryz.func28, Tryz.ntmps28
    go_wp2_with fail
    refine HO.out.mono ?_
    rintro r w1 ⟨rfl, hb1⟩
    go_wp2_with fail
    go_loopw [3, 4] (fun l i wr => ∃ j : Nat, j ≤ xs.length ∧ i = .int .i64 j ∧ Hid (wr.ownsRow w1.heap.size 9 1 l ((xs.take j).map textS).length (((xs.take j).map textS).map strV)) ∧ Below w1.heap.size w1 wr)
      (fun _ i _ => xs.length - (intOf i).toNat)
    case atStart => exact ⟨0, Nat.zero_le _, rfl, Lib.hid (ownsRow_empty w1 9), (Below.refl _ w1).alloc (Nat.le_refl _) _⟩
    case round =>
      obtain ⟨j, hj, rfl, HR, hBw⟩ := hrel
      have hbb := hb1.trans (hBw.mono hb1.size)
      by_cases hlt : j < xs.length
      · obtain ⟨g, off, D1, m1, D2, m2, eA, hg, hC, hk1, hk2⟩ := LinesK.at_ (HA.out.keep (hbb.mono hB)) hlt
        subst eA
        obtain ⟨⟨c0, c1, c2, c3, c4, c5, c6, c7, c8, c9, c10⟩, hm1, hm2⟩ := hC
        have HC := Lib.hid (specStmtText_any xs[j] D1 D2 m1 m2 B wr hk1 hk2 hm1 hm2 (Nat.le_trans hB hbb.size) (by have := HW.out _ (List.getElem_mem hlt); omega))
        unfold stV at HC
        have hx : (j : Int) < (xs.length : Int) := by omega
        have HTK := Lib.hid (show (xs.take (j + 1)).map textS = (xs.take j).map textS ++ [textS xs[j]] by rw [List.take_succ_eq_append_getElem hlt, List.map_append]; rfl)
        have hlj : ((xs.take j).map textS).length = j := by simp; omega
        generalize textS xs[j] = tx at *
        generalize xs[j] = x at *
        generalize (xs.take j).map textS = ss at *
        clear hk1 hk2 hm1 hm2
        go_wp2_with fail
        refine HC.out.mono ?_
        rintro e w2 ⟨rfl, hb2⟩
        obtain ⟨W3, hW3⟩ : ∃ W3, W3 = w2.alloc (.cells #[.string tx] 9) := ⟨_, rfl⟩
        have hb3 : Below w2.heap.size w2 W3 := by rw [hW3]; exact (Below.refl _ w2).alloc (Nat.le_refl _) _
        have hbr := hb2.trans (hb3.mono hb2.size)
        have HR3 := Lib.hid (own_below HR.out hbr)
        have HSRC := Lib.hid (show ∀ j u, ([tx].map strV)[j]? = some u → W3.cell? ⟨w2.heap.size, 0 + j, none⟩ = some u by rw [hW3]; exact src_oneS w2 tx)
        have hbase : w1.heap.size ≤ W3.heap.size := Nat.le_trans hBw.size hbr.size
        have HB3 := Lib.hid (hBw.trans (hbr.mono hBw.size))
        clear HR HC hb2 hb3 hbr c0 c1 c2 c3 c4 c5 c6 c7 c8 c9 c10
        have hls : ss.length ≤ 16 := by omega
        have HLJ := Lib.hid hlj
        clear hlj
        go_wp2_with (at_builtin; rw [← hW3]; refine wpList_appS rfl _ _ rfl w1.heap.size _ ss (by rfl) HR3.out w2.heap.size 0 1 1 [tx] (by rfl) rfl HSRC.out (by omega) hbase ?_; intro v1 Y hO hG)
        have hY : Below w1.heap.size w1 Y := below_appS HB3.out hbase HR3.out hG
        have HOY := Lib.hid hO
        clear hO hG
        try go_wp2_with fail
        go_roundw
        case rel => exact ⟨j + 1, by omega, by go_num, Lib.hid (by rw [HTK.out]; exact HOY.out), hY⟩
        case measure => simp [intOf]; omega
      · obtain rfl : j = xs.length := by omega
        have h2 := HR.out
        have hll : (xs.map textS).length = xs.length := by simp
        rw [List.take_length, hll] at h2
        obtain ⟨A5, c5, rfl, hc5⟩ := own_slice h2
        have HJ := Lib.hid (specTextJoin_any A5 c5 (xs.map textS) wr htot (SlIs.own h2))
        rw [hll] at HJ HT
        clear h2 HR hll
        go_wp2_with fail
        refine HJ.out.mono ?_
        rintro r w3 ⟨rfl, rfl⟩
        go_wp2_with fail
        go_ret
        exact ⟨ret_str HT.out.symm, hbb⟩
end Go.Proofs.YtkllhnhinealfaaGreatDoor
