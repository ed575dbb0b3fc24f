/-
  The model's MapText, for all lists of Seg.
-/
import Derived.Test.YtdkliboehdohdaaMapTMath
namespace Go.Proofs.Ytdkliboehdohdaa
open Go.RowKit

theorem prevG_succ (xs : List Sg) (k : Nat) : prevG xs (k + 1) = getG xs k := by simp [prevG]
theorem slIs_three (w : World) (a b c : Int) (t : TypeId) : SlIs (w.alloc (.cells #[.int .i64 a, .int .i64 b, .int .i64 c] t)) (some ⟨w.heap.size, 0, none⟩) ([a, b, c].map intV) := by
  refine .inr ⟨w.heap.size, 0, rfl, by simp, fun j u hj => ?_⟩
  rw [Nat.zero_add]
  match j, hj with
  | 0, hj => simp [intV] at hj; subst hj; exact cell_new1 w _ _ 0 _ rfl
  | 1, hj => simp [intV] at hj; subst hj; exact cell_new1 w _ _ 1 _ rfl
  | 2, hj => simp [intV] at hj; subst hj; exact cell_new1 w _ _ 2 _ rfl
  | j + 3, hj => simp at hj

set_option maxRecDepth 100000 in
set_option maxHeartbeats 2000000 in
theorem l9One_any (x1 x2 x3 x4 col f1 f2 : Int) (w : World) (h2 : 0 ≤ x2 ∧ x2 < 120) (h3 : 0 ≤ x3 ∧ x3 < 16) (h4 : 0 ≤ x4 ∧ x4 < 120) (hc : 0 ≤ col ∧ col < 120) (hf1 : 0 ≤ f1 ∧ f1 < 16) (hf2 : 0 ≤ f2 ∧ f2 < 120) :
    Calls Try.prog 26 #[.agg #[.int .i64 x1, .int .i64 x2, .int .i64 x3, .int .i64 x4], .int .i64 col, .agg #[.int .i64 f1, .int .i64 f2]] w fun e w' => e = .returned (.string (numsT [x2 - col, x3 - f1, x4 - f2])) ∧ Below w.heap.size w w' := by
  have e1 : IntKind.i64.wrap (x2 - col) = x2 - col := IntWalk.i64_in _ (by omega)
  have e2 : IntKind.i64.wrap (x3 - f1) = x3 - f1 := IntWalk.i64_in _ (by omega)
  have e3 : IntKind.i64.wrap (x4 - f2) = x4 - f2 := IntWalk.i64_in _ (by omega)
  obtain ⟨W0, hW0⟩ : ∃ W0, W0 = (w.alloc (.cells #[.int .i64 x1, .int .i64 x2, .int .i64 x3, .int .i64 x4] 46)).alloc (.cells #[.int .i64 f1, .int .i64 f2] 31) := ⟨_, rfl⟩
  have hb0 : Below w.heap.size w W0 := by rw [hW0]; exact ((Below.refl _ w).alloc (Nat.le_refl _) _).alloc (by simp) _
  have hz0 : W0.heap.size = w.heap.size + 1 + 1 := by rw [hW0]; simp
  have HN := Lib.hid (specNumsText_any (some ⟨W0.heap.size, 0, none⟩) 3 [x2 - col, x3 - f1, x4 - f2] (W0.alloc (.cells #[.int .i64 (x2 - col), .int .i64 (x3 - f1), .int .i64 (x4 - f2)] 3)) (by simp) (slIs_three W0 _ _ _ _))
  rw [hz0] at HN
  clear h2 h3 h4 hc hf1 hf2
  go_enter Try.func26, Try.ntmps26
  go_wp2_with fail
  rw [← hW0]
  refine HN.out.mono ?_
  rintro e w1 ⟨rfl, rfl⟩
  go_wp2_with fail
  go_ret
  exact ⟨rfl, by rw [← hW0]; exact hb0.alloc hb0.size _⟩
set_option maxRecDepth 100000 in
set_option maxHeartbeats 4000000 in
theorem specMapText_any (A : Option Addr) (c : Nat) (xs : List Sg) (w : World) (hl : xs.length ≤ 2 ^ 40) (hA : SlIs w A (rowG xs)) :
    Calls Try.prog 8 #[.slice A xs.length c] w fun e w' => e = .returned (.string (mapT xs)) ∧ Below w.heap.size w w' := by
  obtain ⟨W0, hW0⟩ : ∃ W0, W0 = w.alloc (.cells #[.int .i64 0, .int .i64 0] 31) := ⟨_, rfl⟩
  have hb0 : Below w.heap.size w W0 := by rw [hW0]; exact (Below.refl _ w).alloc (Nat.le_refl _) _
  have HP := Lib.hid (show BlkG W0 w.heap.size #[.int .i64 0, .int .i64 0] 31 by rw [hW0]; exact blkG_new w _ _)
  have HA := Lib.hid hA
  clear hA
  go_enter Try.func8, Try.ntmps8
  go_wp2_with fail
  rw [← hW0]
  clear hW0
  go_loopw [3, 4, 5, 7, 8] (fun out line col i _ wr => ∃ (k : Nat) (text : ByteArray) (p1 p2 p3 p4 : Int), k ≤ xs.length ∧ i = .int .i64 k ∧ out = .string text ∧ line = .int .i64 p1 ∧ col = .int .i64 p2 ∧ Hid (prevG xs k = (p1, p2, p3, p4) ∧ L text = mapN xs k ∧ (0 < k → segsOk xs = true)) ∧ Hid (BlkG wr w.heap.size #[.int .i64 p3, .int .i64 p4] 31) ∧ Below w.heap.size w wr) (fun _ _ _ i _ _ => xs.length - (intOf i).toNat)
  case atStart => exact ⟨0, _, 0, 0, 0, 0, Nat.zero_le _, rfl, rfl, rfl, rfl, Lib.hid ⟨rfl, rfl, fun h => absurd h (by decide)⟩, Lib.hid HP.out, hb0⟩
  case round =>
    obtain ⟨k, text, p1, p2, p3, p4, hk, rfl, rfl, rfl, rfl, HI, HF, hbw⟩ := hrel
    by_cases hlt : k < xs.length
    · have HS := Lib.hid (specSegsOk_any A c xs wr hl (HA.out.below hbw))
      have hx : (k : Int) < (xs.length : Int) := by omega
      cases hok : segsOk xs
      · have HE := Lib.hid (mapT_no hok)
        have hk0 : k = 0 := by
          rcases Nat.eq_zero_or_pos k with h | h
          · exact h
          · have := HI.out.2.2 h; rw [hok] at this; cases this
        subst hk0
        rw [hok] at HS
        have HT := Lib.hid (show text = ByteArray.empty from L_injM (by rw [HI.out.2.1]; rfl))
        clear hok
        go_wp2_with fail
        refine HS.out.mono ?_
        rintro e w1 ⟨rfl, hb1'⟩
        go_wp2_with fail
        go_ret
        exact ⟨ret_str (by rw [HE.out, HT.out]), hbw.trans (hb1'.mono hbw.size)⟩
      · rw [hok] at HS
        have hpp := prev_place hok hlt
        have hxp := segsOk_place hok hlt
        have hlen := segsOk_len hok
        have hml := mapN_len hok k hk
        have HK := Lib.hid hok
        clear hok
        obtain ⟨hpr, hte, _⟩ := HI.out
        rw [hpr] at hpp
        obtain ⟨g, off, rfl, hgw, h0, h1, h2, h3⟩ := getG_pos hlt HA.out
        have hMN : mapN xs (k + 1) = mapN xs k ++ pieceG (k == 0) (p1, p2, p3, p4) (getG xs k) := by rw [← hpr]; rfl
        have hPS := prevG_succ xs k
        generalize getG xs k = x at *
        obtain ⟨x1, x2, x3, x4⟩ := x
        simp only at h0 h1 h2 h3 hpp hxp
        have hsz : text.size ≤ 2 ^ 30 := by rw [← hte, L_length] at hml; omega
        have HTE := Lib.hid hte
        have HMN := Lib.hid hMN
        have HPS := Lib.hid hPS
        clear hte hMN hPS hml
        go_wp2_with fail
        refine HS.out.mono ?_
        rintro e w1 ⟨rfl, hb1'⟩
        have hb1 := hbw.trans (hb1'.mono hbw.size)
        have hg := Nat.lt_of_lt_of_le hgw hb1.size
        have d0 := (hb1.cell (p := ⟨g, off + k * 4, none⟩) hgw).trans h0
        have d1 := (hb1.cell (p := ⟨g, off + k * 4 + 1, none⟩) hgw).trans h1
        have d2 := (hb1.cell (p := ⟨g, off + k * 4 + 2, none⟩) hgw).trans h2
        have d3 := (hb1.cell (p := ⟨g, off + k * 4 + 3, none⟩) hgw).trans h3
        have HF1 := Lib.hid (HF.out.stay (hb1'.block _ HF.out.lt))
        clear h0 h1 h2 h3 HS
        obtain ⟨W1, hW1⟩ : ∃ W1, W1 = w1.alloc (.cells #[.int .i64 x1, .int .i64 x2, .int .i64 x3, .int .i64 x4] 46) := ⟨_, rfl⟩
        have hb2' : Below w1.heap.size w1 W1 := by rw [hW1]; exact (Below.refl _ w1).alloc (Nat.le_refl _) _
        have hb2 := hb1.trans (hb2'.mono hb1.size)
        have HFZ := Lib.hid HF.out.lt
        have HX := Lib.hid (show BlkG W1 w1.heap.size #[.int .i64 x1, .int .i64 x2, .int .i64 x3, .int .i64 x4] 46 by rw [hW1]; exact blkG_new w1 _ _)
        have HF2 := Lib.hid (HF1.out.stay (hb2'.block _ HF1.out.lt))
        have HD := Lib.hid (hb2'.cell (p := ⟨g, off + k * 4, none⟩) hg |>.trans d0)
        go_wp2_with fail
        rw [← hW1]
        clear hW1 d0 d1 d2 d3 HF1 HF
        go_loopw [3, 4, 5] (fun out line col wr' => ∃ (j : Nat) (text' : ByteArray) (cl : Int), p1 + j ≤ x1 ∧ out = .string text' ∧ line = .int .i64 (p1 + j) ∧ col = .int .i64 cl ∧ Hid (L text' = mapN xs k ++ List.replicate j 61 ∧ cl = if j = 0 then p2 else 0) ∧ text'.size = text.size + j ∧ W1 = wr') (fun _ line _ _ => (x1 - intOf line).toNat)
        case atStart => exact ⟨0, text, p2, by omega, rfl, by simp, rfl, Lib.hid ⟨by rw [HTE.out]; simp, rfl⟩, rfl, rfl⟩
        case round =>
          obtain ⟨j, text', cl, hj, rfl, rfl, rfl, HJ, hts, rfl⟩ := hrel
          have c0 := HX.out.cell 0
          simp only [List.getElem?_toArray, List.getElem?_cons_zero] at c0
          by_cases hjx : p1 + j < x1
          · have hsz2 : (text' ++ (⟨#[61]⟩ : ByteArray)).size = text'.size + 1 := by rw [ByteArray.size_append]; rfl
            go_wp2_with fail
            go_roundw
            case rel =>
              refine ⟨j + 1, text' ++ ⟨#[61]⟩, 0, by omega, rfl, by go_num, rfl, Lib.hid ⟨?_, rfl⟩, by omega, by simp⟩
              rw [show L (text' ++ ⟨#[61]⟩) = L text' ++ [61] by simp [L], HJ.out.1, List.append_assoc, List.replicate_succ']
            case measure => simp [intOf]; omega
          · obtain ⟨hLT, hcl⟩ := HJ.out
            have hjn : j = (x1 - p1).toNat := by omega
            have hpj : p1 + (j : Int) = x1 := by omega
            rw [hpj]
            have HF1Z := Lib.hid HFZ.out
            have b8 := HX.out.cell 1
            have b2 := HX.out.cell 2
            have b3 := HX.out.cell 3
            have z0 := HF2.out.cell 0
            have z1 := HF2.out.cell 1
            simp only [List.getElem?_toArray, List.getElem?_cons_zero, List.getElem?_cons_succ] at b8 b2 b3 z0 z1
            have HLT := Lib.hid hLT
            have hcl2 : 0 ≤ cl ∧ cl < 120 := by rw [hcl]; split <;> omega
            have HCL := Lib.hid (show (if p1 < x1 then 0 else p2) = cl by
              rw [hcl]
              by_cases h : p1 < x1
              · rw [if_pos h, if_neg (by omega)]
              · rw [if_neg h, if_pos (by omega)])
            clear hLT hcl HJ
            rcases Nat.eq_zero_or_pos k with hk0 | hk0
            · subst hk0
              have g0 : decide (((0 : Nat) : Int) > 0) = false := by decide
              go_wp2_with fail
              refine (l9One_any x1 x2 x3 x4 cl p3 p4 _ (by omega) (by omega) (by omega) (by omega) (by omega) (by omega)).mono ?_
              rintro e w2 ⟨rfl, hb3'⟩
              have hb3 := hb2.trans (hb3'.mono hb2.size)
              have y1 := (hb3'.cell (p := ⟨w1.heap.size, 1, none⟩) HX.out.lt).trans (HX.out.cell 1)
              have y2 := (hb3'.cell (p := ⟨w1.heap.size, 2, none⟩) HX.out.lt).trans (HX.out.cell 2)
              have y3 := (hb3'.cell (p := ⟨w1.heap.size, 3, none⟩) HX.out.lt).trans (HX.out.cell 3)
              have hF := HF2.out.stay (hb3'.block _ HF2.out.lt)
              have t0 := hF.cell 0
              have t1 := hF.cell 1
              have u0 := hF.frozen 0
              have u1 := hF.frozen 1
              simp only [List.getElem?_toArray, List.getElem?_cons_zero, List.getElem?_cons_succ] at y1 y2 y3 t0 t1
              have HFN := Lib.hid ((hF.set 0 (.int .i64 x3)).set 1 (.int .i64 x4))
              have hns := numsT_size [x2 - cl, x3 - p3, x4 - p4]
              have HNS := Lib.hid (show (numsT [x2 - cl, x3 - p3, x4 - p4]).size ≤ 18 from hns)
              have hns2 := HNS.out
              have hne : w.heap.size ≠ w1.heap.size := by have := hb1'.size; have := HF1Z.out; omega
              have HBN := Lib.hid ((hb3.setCell (p := ⟨w.heap.size, 0, none⟩) (Nat.le_refl _) (.int .i64 x3)).setCell (p := ⟨w.heap.size, 1, none⟩) (Nat.le_refl _) (.int .i64 x4))
              generalize hNT : numsT [x2 - cl, x3 - p3, x4 - p4] = nt at *
              have HNT := Lib.hid hNT
              clear c0 b8 z0 z1 hF hNT hns
              go_wp2_with fail
              go_roundw
              case rel =>
                refine ⟨0 + 1, text' ++ nt, x1, x2, x3, x4, by omega, by go_num, rfl, rfl, rfl, Lib.hid ⟨HPS.out, ?_, fun _ => trivial⟩, Lib.hid HFN.out, HBN.out⟩
                rw [HMN.out]
                show (text' ++ nt).data.toList = _
                have hp : pieceG (0 == 0) (p1, p2, p3, p4) (x1, x2, x3, x4) = List.replicate j 61 ++ [] ++ L nt := by
                  unfold pieceG markG turnG colG
                  simp only
                  rw [← HNT.out, ← hjn, HCL.out]
                  split <;> simp
                rw [hp]
                simp only [ByteArray.data_append, Array.toList_append]
                rw [show text'.data.toList = _ from HLT.out]
                simp [L]
              case measure => simp [intOf]; omega
            · obtain ⟨m, rfl⟩ : ∃ m, k = m + 1 := ⟨k - 1, by omega⟩
              obtain ⟨g', off', e', hgw', h0', _, _, _⟩ := getG_pos (show m < xs.length by omega) HA.out
              injection e' with e'
              injection e' with e1 e2
              subst e1 e2
              have hgm : getG xs m = (p1, p2, p3, p4) := by rw [← hpr]; exact (prevG_succ xs m).symm
              rw [hgm] at h0'
              have m0 := (hb2.cell (p := ⟨g, off + m * 4, none⟩) hgw').trans h0'
              have g0 : decide ((m : Int) + 1 > 0) = true := decide_eq_true (by omega)
              have g1 : IntKind.i64.wrap (m : Int) = (m : Int) := IntWalk.i64_in _ (by omega)
              have g2 : (m : Int) < (xs.length : Int) := by omega
              have g3 : (m : Int) + 1 - 1 = (m : Int) := by omega
              clear h0' hgm
              by_cases hpx : p1 = x1
              · have g4 : (p1 == x1) = true := by simpa using hpx
                have hs44 : (text' ++ (⟨#[44]⟩ : ByteArray)).size = text'.size + 1 := by rw [ByteArray.size_append]; rfl
                go_wp2_with fail
                refine (l9One_any x1 x2 x3 x4 cl p3 p4 _ (by omega) (by omega) (by omega) (by omega) (by omega) (by omega)).mono ?_
                rintro e w2 ⟨rfl, hb3'⟩
                have hb3 := hb2.trans (hb3'.mono hb2.size)
                have y1 := (hb3'.cell (p := ⟨w1.heap.size, 1, none⟩) HX.out.lt).trans (HX.out.cell 1)
                have y2 := (hb3'.cell (p := ⟨w1.heap.size, 2, none⟩) HX.out.lt).trans (HX.out.cell 2)
                have y3 := (hb3'.cell (p := ⟨w1.heap.size, 3, none⟩) HX.out.lt).trans (HX.out.cell 3)
                have hF := HF2.out.stay (hb3'.block _ HF2.out.lt)
                have t0 := hF.cell 0
                have t1 := hF.cell 1
                have u0 := hF.frozen 0
                have u1 := hF.frozen 1
                simp only [List.getElem?_toArray, List.getElem?_cons_zero, List.getElem?_cons_succ] at y1 y2 y3 t0 t1
                have HFN := Lib.hid ((hF.set 0 (.int .i64 x3)).set 1 (.int .i64 x4))
                have hns := numsT_size [x2 - cl, x3 - p3, x4 - p4]
                have HNS := Lib.hid (show (numsT [x2 - cl, x3 - p3, x4 - p4]).size ≤ 18 from hns)
                have hns2 := HNS.out
                have hne : w.heap.size ≠ w1.heap.size := by have := hb1'.size; have := HF1Z.out; omega
                have HBN := Lib.hid ((hb3.setCell (p := ⟨w.heap.size, 0, none⟩) (Nat.le_refl _) (.int .i64 x3)).setCell (p := ⟨w.heap.size, 1, none⟩) (Nat.le_refl _) (.int .i64 x4))
                generalize hNT : numsT [x2 - cl, x3 - p3, x4 - p4] = nt at *
                have HNT := Lib.hid hNT
                clear c0 b8 z0 z1 hF hNT hns
                go_wp2_with fail
                go_roundw
                case rel =>
                  refine ⟨m + 1 + 1, (text' ++ ⟨#[44]⟩) ++ nt, x1, x2, x3, x4, by omega, by go_num, rfl, rfl, rfl, Lib.hid ⟨HPS.out, ?_, fun _ => trivial⟩, Lib.hid HFN.out, HBN.out⟩
                  rw [HMN.out]
                  show ((text' ++ ⟨#[44]⟩) ++ nt).data.toList = _
                  have hp : pieceG (m + 1 == 0) (p1, p2, p3, p4) (x1, x2, x3, x4) = List.replicate j 61 ++ [44] ++ L nt := by
                    unfold pieceG markG turnG colG
                    simp only
                    rw [← HNT.out, ← hjn, HCL.out]
                    rw [if_neg (show ¬ p1 < x1 by omega), if_neg (by simp)]
                  rw [hp]
                  simp only [ByteArray.data_append, Array.toList_append]
                  rw [show text'.data.toList = _ from HLT.out]
                  simp [L]
                case measure => simp [intOf]; omega
              · have g4 : (p1 == x1) = false := by simpa using hpx
                go_wp2_with fail
                refine (l9One_any x1 x2 x3 x4 cl p3 p4 _ (by omega) (by omega) (by omega) (by omega) (by omega) (by omega)).mono ?_
                rintro e w2 ⟨rfl, hb3'⟩
                have hb3 := hb2.trans (hb3'.mono hb2.size)
                have y1 := (hb3'.cell (p := ⟨w1.heap.size, 1, none⟩) HX.out.lt).trans (HX.out.cell 1)
                have y2 := (hb3'.cell (p := ⟨w1.heap.size, 2, none⟩) HX.out.lt).trans (HX.out.cell 2)
                have y3 := (hb3'.cell (p := ⟨w1.heap.size, 3, none⟩) HX.out.lt).trans (HX.out.cell 3)
                have hF := HF2.out.stay (hb3'.block _ HF2.out.lt)
                have t0 := hF.cell 0
                have t1 := hF.cell 1
                have u0 := hF.frozen 0
                have u1 := hF.frozen 1
                simp only [List.getElem?_toArray, List.getElem?_cons_zero, List.getElem?_cons_succ] at y1 y2 y3 t0 t1
                have HFN := Lib.hid ((hF.set 0 (.int .i64 x3)).set 1 (.int .i64 x4))
                have hns := numsT_size [x2 - cl, x3 - p3, x4 - p4]
                have HNS := Lib.hid (show (numsT [x2 - cl, x3 - p3, x4 - p4]).size ≤ 18 from hns)
                have hns2 := HNS.out
                have hne : w.heap.size ≠ w1.heap.size := by have := hb1'.size; have := HF1Z.out; omega
                have HBN := Lib.hid ((hb3.setCell (p := ⟨w.heap.size, 0, none⟩) (Nat.le_refl _) (.int .i64 x3)).setCell (p := ⟨w.heap.size, 1, none⟩) (Nat.le_refl _) (.int .i64 x4))
                generalize hNT : numsT [x2 - cl, x3 - p3, x4 - p4] = nt at *
                have HNT := Lib.hid hNT
                clear c0 b8 z0 z1 hF hNT hns
                go_wp2_with fail
                go_roundw
                case rel =>
                  refine ⟨m + 1 + 1, text' ++ nt, x1, x2, x3, x4, by omega, by go_num, rfl, rfl, rfl, Lib.hid ⟨HPS.out, ?_, fun _ => trivial⟩, Lib.hid HFN.out, HBN.out⟩
                  rw [HMN.out]
                  show (text' ++ nt).data.toList = _
                  have hp : pieceG (m + 1 == 0) (p1, p2, p3, p4) (x1, x2, x3, x4) = List.replicate j 61 ++ [] ++ L nt := by
                    unfold pieceG markG turnG colG
                    simp only
                    rw [← HNT.out, ← hjn, HCL.out]
                    rw [if_pos (show p1 < x1 by omega)]
                  rw [hp]
                  simp only [ByteArray.data_append, Array.toList_append]
                  rw [show text'.data.toList = _ from HLT.out]
                  simp [L]
                case measure => simp [intOf]; omega
    · obtain rfl : xs.length = k := by omega
      have HE := Lib.hid (show mapT xs = text from by
        obtain ⟨_, h2, h3⟩ := HI.out
        by_cases h0 : 0 < xs.length
        · rw [mapT_ok (h3 h0)]
          exact L_injM (by rw [h2]; simp [L])
        · obtain rfl : xs = [] := List.eq_nil_of_length_eq_zero (by omega)
          refine L_injM ?_
          rw [h2]
          have : mapT [] = ByteArray.empty := by unfold mapT; split <;> rfl
          rw [this]; rfl)
      go_wp2_with fail
      go_ret
      exact ⟨ret_str HE.out.symm, hbw⟩
end Go.Proofs.Ytdkliboehdohdaa
