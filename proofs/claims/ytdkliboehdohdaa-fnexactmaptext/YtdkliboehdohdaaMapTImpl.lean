/-
  The program's MapText, for all lists of Seg.
-/
import Derived.Test.YtdkliboehdohdaaMapTSpec
import Derived.Test.YtdkliboehdohdaaBuilderF
namespace Go.Proofs.Ytdkliboehdohdaa
open Go.RowKit

theorem notU8_seg {w : World} {g : Nat} {cur : Array Value} (h : BlkG w g cur 46) : NotU8 w g := by
  intro c z e
  have h1 : w.heap[g]? = some (.cells cur 46 (0, 0)) := h
  rw [h1] at e
  injection e with e
  injection e with _ e
  exact absurd e (by decide)
/-- Cells of another box are turned. -/
theorem BdF.putF {b B2 g : Nat} {l : List UInt8} {w : World} (h : BdF b B2 l w) (_ : g < B2) (hgb : g ≠ b) (u0 u1 u2 u3 : Value) (hu : NotU8 w g) :
    BdF b B2 l ((((w.setCell ⟨g, 0, none⟩ u0).setCell ⟨g, 1, none⟩ u1).setCell ⟨g, 2, none⟩ u2).setCell ⟨g, 3, none⟩ u3) := by
  obtain ⟨h1, h2, p, v, hp, hk, ho⟩ := h
  have hg : w.grownBy ((((w.setCell ⟨g, 0, none⟩ u0).setCell ⟨g, 1, none⟩ u1).setCell ⟨g, 2, none⟩ u2).setCell ⟨g, 3, none⟩ u3) (some g) := grown_put (grown_put (grown_put (grown_put (grown_refl w _))))
  exact ⟨h1, Nat.le_trans h2 hg.size, p, v, hp, (hg.block b (by omega) (fun e => hgb (by injection e with e; first | exact e.symm | exact e))).trans hk, ho.kept hg (.inr (own_notU8 ho hu))⟩
theorem BdF.put2F {b B2 g : Nat} {l : List UInt8} {w : World} (h : BdF b B2 l w) (_ : g < B2) (hgb : g ≠ b) (u0 u1 : Value) (hu : NotU8 w g) :
    BdF b B2 l ((w.setCell ⟨g, 0, none⟩ u0).setCell ⟨g, 1, none⟩ u1) := by
  obtain ⟨h1, h2, p, v, hp, hk, ho⟩ := h
  have hg : w.grownBy ((w.setCell ⟨g, 0, none⟩ u0).setCell ⟨g, 1, none⟩ u1) (some g) := grown_put (grown_put (grown_refl w _))
  exact ⟨h1, Nat.le_trans h2 hg.size, p, v, hp, (hg.block b (by omega) (fun e => hgb (by injection e with e; first | exact e.symm | exact e))).trans hk, ho.kept hg (.inr (own_notU8 ho hu))⟩
theorem repeatL_one61 (c : Nat) : Lib.repeatL [61] c = List.replicate c 61 := by
  induction c with
  | zero => rfl
  | succ c ih => simp [Lib.repeatL, ih, List.replicate_succ]

set_option maxRecDepth 100000 in
set_option maxHeartbeats 2000000 in
theorem turnsOf_any (p1 p2 p3 p4 x1 x2 x3 x4 : Int) (w : World) (h2 : 0 ≤ x2 ∧ x2 < 120) (h3 : 0 ≤ x3 ∧ x3 < 16) (h4 : 0 ≤ x4 ∧ x4 < 120) (hp2 : 0 ≤ p2 ∧ p2 < 120) (hp3 : 0 ≤ p3 ∧ p3 < 16) (hp4 : 0 ≤ p4 ∧ p4 < 120) :
    Calls Try.prog 32 #[.agg #[.int .i64 p1, .int .i64 p2, .int .i64 p3, .int .i64 p4], .agg #[.int .i64 x1, .int .i64 x2, .int .i64 x3, .int .i64 x4]] w fun e w' => ∃ A c, e = .returned (.slice A 3 c) ∧ SlIs w' A ([x2 - p2, x3 - p3, x4 - p4].map intV) ∧ Below w.heap.size w w' := by
  have e1 : IntKind.i64.wrap (x2 - p2) = x2 - p2 := IntWalk.i64_in _ (by omega)
  have e2 : IntKind.i64.wrap (x3 - p3) = x3 - p3 := IntWalk.i64_in _ (by omega)
  have e3 : IntKind.i64.wrap (x4 - p4) = x4 - p4 := IntWalk.i64_in _ (by omega)
  obtain ⟨W0, hW0⟩ : ∃ W0, W0 = (w.alloc (.cells #[.int .i64 p1, .int .i64 p2, .int .i64 p3, .int .i64 p4] 46)).alloc (.cells #[.int .i64 x1, .int .i64 x2, .int .i64 x3, .int .i64 x4] 46) := ⟨_, rfl⟩
  have hb0 : Below w.heap.size w W0 := by rw [hW0]; exact ((Below.refl _ w).alloc (Nat.le_refl _) _).alloc (by simp) _
  have hz0 : W0.heap.size = w.heap.size + 1 + 1 := by rw [hW0]; simp
  have HS := Lib.hid (slIs_three W0 (x2 - p2) (x3 - p3) (x4 - p4) 3)
  rw [hz0] at HS
  clear h2 h3 h4 hp2 hp3 hp4
  go_enter Try.func32, Try.ntmps32
  go_wp2_with fail
  rw [← hW0]
  go_ret
  exact ⟨_, _, rfl, HS.out, hb0.alloc hb0.size _⟩
set_option maxRecDepth 100000 in
set_option maxHeartbeats 4000000 in
theorem mapText_any (A : Option Addr) (c : Nat) (xs : List Sg) (w : World) (hl : xs.length ≤ 2 ^ 40) (hA : SlIs w A (rowG xs)) :
    Calls Try.prog 10 #[.slice A xs.length c] w fun e w' => e = .returned (.string (mapT xs)) ∧ Below w.heap.size w w' := by
  have HA := Lib.hid hA
  have HS := Lib.hid (segsOkI_any A c xs w hl hA)
  clear hA
  go_enter Try.func10, Try.ntmps10
  go_wp2_with fail
  refine HS.out.mono ?_
  rintro e w1 ⟨rfl, hb1⟩
  cases hok : segsOk xs
  · have HE := Lib.hid (mapT_no hok)
    clear hok
    go_wp2_with fail
    go_ret
    exact ⟨ret_str HE.out.symm, hb1⟩
  · have HE := Lib.hid (mapT_ok hok)
    have HK := Lib.hid hok
    have hlen := segsOk_len hok
    have hml := mapN_len hok
    have HML := Lib.hid hml
    clear hok hml
    obtain ⟨W2, hW2⟩ : ∃ W2, W2 = (w1.alloc (.cells #[.pointer none, .slice none 0 0] 54)).alloc (.cells #[.int .i64 0, .int .i64 0, .int .i64 0, .int .i64 0] 46) := ⟨_, rfl⟩
    have hb2' : Below w1.heap.size w1 W2 := by rw [hW2]; exact ((Below.refl _ w1).alloc (Nat.le_refl _) _).alloc (by simp) _
    have hz2 : W2.heap.size = w1.heap.size + 1 + 1 := by rw [hW2]; simp
    have HAH := Lib.hid (show BlkG W2 (w1.heap.size + 1) #[.int .i64 0, .int .i64 0, .int .i64 0, .int .i64 0] 46 by
      have := blkG_new (w1.alloc (.cells #[.pointer none, .slice none 0 0] 54)) #[.int .i64 0, .int .i64 0, .int .i64 0, .int .i64 0] 46
      rw [World.size_alloc] at this
      rw [hW2]
      exact this)
    have HBD := Lib.hid (show BdF w1.heap.size (w1.heap.size + 2) [] W2 from ⟨by omega, by omega, _, _, .inl rfl, by
      rw [hW2]
      exact (blkG_new w1 _ _).stay (Below.heap_alloc _ _ _ (by simp)), owns_nil _ _ _ _⟩)
    have hwb := hb1.size
    have HB2 := Lib.hid (hb1.trans (hb2'.mono hwb))
    go_wp2_with fail
    rw [← hW2]
    clear hW2 hb2' hz2
    generalize w1.heap.size = b at *
    go_loopw [5, 6, 7, 13, 25, 36] (fun _ _ _ i _ _ wr => ∃ (k : Nat) (p1 p2 p3 p4 : Int), k ≤ xs.length ∧ i = .int .i64 k ∧ Hid (prevG xs k = (p1, p2, p3, p4)) ∧ Hid (BdF b (b + 2) (mapN xs k) wr) ∧ Hid (BlkG wr (b + 1) #[.int .i64 p1, .int .i64 p2, .int .i64 p3, .int .i64 p4] 46) ∧ Below w.heap.size w wr) (fun _ _ _ i _ _ _ => xs.length - (intOf i).toNat)
    case atStart => exact ⟨0, 0, 0, 0, 0, Nat.zero_le _, rfl, Lib.hid rfl, Lib.hid HBD.out, Lib.hid HAH.out, HB2.out⟩
    case round =>
      obtain ⟨k, p1, p2, p3, p4, hk, rfl, HPR, HBR, HAR, hbw⟩ := hrel
      by_cases hlt : k < xs.length
      · have hx : (k : Int) < (xs.length : Int) := by omega
        have hpp := prev_place HK.out hlt
        have hxp := segsOk_place HK.out hlt
        have hmk := HML.out k hk
        rw [HPR.out] at hpp
        have hMN : mapN xs (k + 1) = mapN xs k ++ pieceG (k == 0) (p1, p2, p3, p4) (getG xs k) := by rw [← HPR.out]; rfl
        have hPS := prevG_succ xs k
        obtain ⟨g, off, rfl, hg, h0, h1, h2, h3⟩ := getG_pos hlt (HA.out.below hbw)
        generalize getG xs k = x at *
        obtain ⟨x1, x2, x3, x4⟩ := x
        simp only at h0 h1 h2 h3 hpp hxp
        have HMN := Lib.hid hMN
        have HPS := Lib.hid hPS
        clear hMN hPS
        obtain ⟨gs, hgs⟩ : ∃ gs, gs = wr.heap.size := ⟨_, rfl⟩
        have hbg : b + 2 ≤ gs := by have := HBR.out.2.1; omega
        obtain ⟨W3, hW3⟩ : ∃ W3, W3 = wr.alloc (.cells #[.int .i64 x1, .int .i64 x2, .int .i64 x3, .int .i64 x4] 46) := ⟨_, rfl⟩
        have hb3' : Below wr.heap.size wr W3 := by rw [hW3]; exact (Below.refl _ wr).alloc (Nat.le_refl _) _
        have HBE := Lib.hid (hbw.trans (hb3'.mono hbw.size))
        have HSG := Lib.hid (show BlkG W3 gs #[.int .i64 x1, .int .i64 x2, .int .i64 x3, .int .i64 x4] 46 by rw [hW3, hgs]; exact blkG_new wr _ _)
        have HBD := Lib.hid (HBR.out.below hb3')
        have HAH := Lib.hid (HAR.out.stay (hb3'.block _ HAR.out.lt))
        have a0 := HAH.out.cell 0
        have a1 := HAH.out.cell 1
        have a2 := HAH.out.cell 2
        have a3 := HAH.out.cell 3
        simp only [List.getElem?_toArray, List.getElem?_cons_zero, List.getElem?_cons_succ] at a0 a1 a2 a3
        have y0 := HSG.out.cell 0
        have y1 := HSG.out.cell 1
        have y2 := HSG.out.cell 2
        have y3 := HSG.out.cell 3
        simp only [List.getElem?_toArray, List.getElem?_cons_zero, List.getElem?_cons_succ] at y0 y1 y2 y3
        have ew : IntKind.i64.wrap (x1 - p1) = x1 - p1 := IntWalk.i64_in _ (by omega)
        clear HAR HBR
        by_cases hpx : p1 < x1
        · have g0 : decide (x1 - p1 > 0) = true := decide_eq_true (by omega)
          obtain ⟨cn, hcn⟩ : ∃ cn : Nat, x1 - p1 = (cn : Int) := ⟨(x1 - p1).toNat, by omega⟩
          have HR := Lib.hid (Try.strings_Repeat ⟨#[61]⟩ cn W3 (by omega) (by show 1 * cn ≤ _; omega))
          rw [hW3, hgs] at y0 y1 y2 y3
          rw [hW3] at a0 a1 a2 a3
          go_wp2_with fail
          rw [← hW3, ← hgs]
          clear hW3 hgs
          refine HR.out.mono ?_
          rintro e w4 ⟨rfl, hb4'⟩
          rw [repeatL_one61]
          have hb4 := HBE.out.trans (hb4'.mono HBE.out.size)
          have HB4 := Lib.hid (HBD.out.below hb4')
          have HA4 := Lib.hid (HAH.out.stay (hb4'.block _ HAH.out.lt))
          have HG4 := Lib.hid (HSG.out.stay (hb4'.block _ HSG.out.lt))
          have hsr : (⟨Array.replicate cn 61⟩ : ByteArray).size = cn := by show (Array.replicate cn (61 : UInt8)).size = cn; simp
          clear a0 a1 a2 a3 y0 y1 y2 y3 HBE HAH HSG HBD
          go_wp2_with fail
          refine (writeStringF_any b (b + 2) (mapN xs k) _ w4 HB4.out (by rw [hsr]; omega)).mono ?_
          rintro e w4b ⟨rfl, hbd4, hk4⟩
          have HB4b := Lib.hid hbd4
          have HA4b := HA4.out.stay (hk4.2.1 (b + 1) (by omega) (by omega))
          have HG4b := HG4.out.stay (hk4.2.2 gs HG4.out.lt (by omega) (notU8_seg HG4.out))
          have hb4b := hb4.trans (hk4.1.mono hwb)
          have a0 := HA4b.cell 0
          have a1 := HA4b.cell 1
          have a2 := HA4b.cell 2
          have a3 := HA4b.cell 3
          simp only [List.getElem?_toArray, List.getElem?_cons_zero, List.getElem?_cons_succ] at a0 a1 a2 a3
          have f0 := HA4b.frozen 0
          have f1 := HA4b.frozen 1
          have f2 := HA4b.frozen 2
          have f3 := HA4b.frozen 3
          have y0 := HG4b.cell 0
          have y1 := HG4b.cell 1
          have y2 := HG4b.cell 2
          have y3 := HG4b.cell 3
          simp only [List.getElem?_toArray, List.getElem?_cons_zero, List.getElem?_cons_succ] at y0 y1 y2 y3
          have HBD := Lib.hid (HB4b.out.put2F (g := b + 1) (by omega) (by omega) (.int .i64 x1) (.int .i64 0) (notU8_seg HA4b))
          have HAH := Lib.hid (show BlkG ((w4b.setCell ⟨b + 1, 0, none⟩ (.int .i64 x1)).setCell ⟨b + 1, 1, none⟩ (.int .i64 0)) (b + 1) #[.int .i64 x1, .int .i64 0, .int .i64 p3, .int .i64 p4] 46 from (HA4b.set 0 (.int .i64 x1)).set 1 (.int .i64 0))
          have hgne : gs ≠ b + 1 := by omega
          have HSG := Lib.hid ((HG4b.stay (Below.heap_setCell w4b ⟨b + 1, 0, none⟩ (.int .i64 x1) gs hgne)).stay (Below.heap_setCell (w4b.setCell ⟨b + 1, 0, none⟩ (.int .i64 x1)) ⟨b + 1, 1, none⟩ (.int .i64 0) gs hgne))
          have HBE := Lib.hid ((hb4b.setCell (p := ⟨b + 1, 0, none⟩) (by show w.heap.size ≤ b + 1; omega) (.int .i64 x1)).setCell (p := ⟨b + 1, 1, none⟩) (by show w.heap.size ≤ b + 1; omega) (.int .i64 0))
          clear HA4b HG4b hbd4 HA4 HG4 HB4
          go_wp2_with fail
          clear a0 a1 a2 a3 f0 f1 f2 f3 y0 y1 y2 y3
          obtain ⟨V, hV⟩ : ∃ V, V = (w4b.setCell ⟨b + 1, 0, none⟩ (.int .i64 x1)).setCell ⟨b + 1, 1, none⟩ (.int .i64 0) := ⟨_, rfl⟩
          rw [← hV] at HBD HAH HSG HBE ⊢
          clear hV
          have r0 := HAH.out.cell 0
          have r1 := HAH.out.cell 1
          have r2 := HAH.out.cell 2
          have r3 := HAH.out.cell 3
          simp only [List.getElem?_toArray, List.getElem?_cons_zero, List.getElem?_cons_succ] at r0 r1 r2 r3
          have s0 := HSG.out.cell 0
          have s1 := HSG.out.cell 1
          have s2 := HSG.out.cell 2
          have s3 := HSG.out.cell 3
          simp only [List.getElem?_toArray, List.getElem?_cons_zero, List.getElem?_cons_succ] at s0 s1 s2 s3
          have HTU := Lib.hid (turnsOf_any x1 0 p3 p4 x1 x2 x3 x4 V (by omega) (by omega) (by omega) (by omega) (by omega) (by omega))
          go_wp2_with fail
          refine HTU.out.mono ?_
          rintro e w5 ⟨A5, c5, rfl, hs5, hb5'⟩
          have hb5 := HBE.out.trans (hb5'.mono HBE.out.size)
          have HB5 := Lib.hid (HBD.out.below hb5')
          have HA5 := Lib.hid (HAH.out.stay (hb5'.block _ HAH.out.lt))
          have HG5 := Lib.hid (HSG.out.stay (hb5'.block _ HSG.out.lt))
          have HNU := Lib.hid (numsText_any A5 c5 [x2 - 0, x3 - p3, x4 - p4] w5 (by simp) hs5)
          have hns := numsT_size [x2 - 0, x3 - p3, x4 - p4]
          have HNS := Lib.hid (show (numsT [x2 - 0, x3 - p3, x4 - p4]).size ≤ 18 from hns)
          generalize hNT : numsT [x2 - 0, x3 - p3, x4 - p4] = nt at *
          have HNT := Lib.hid hNT
          clear hNT hns hs5 HTU
          go_wp2_with fail
          refine HNU.out.mono ?_
          rintro e w6 ⟨rfl, hb6'⟩
          have hb6 := hb5.trans (hb6'.mono hb5.size)
          have HB6 := Lib.hid (HB5.out.below hb6')
          have HA6 := Lib.hid (HA5.out.stay (hb6'.block _ HA5.out.lt))
          have HG6 := Lib.hid (HG5.out.stay (hb6'.block _ HG5.out.lt))
          go_wp2_with fail
          refine (writeStringF_any b (b + 2) (mapN xs k ++ (⟨Array.replicate cn 61⟩ : ByteArray).data.toList) nt w6 HB6.out (by have := HNS.out; (try simp); omega)).mono ?_
          rintro e w7 ⟨rfl, hbd7, hk7⟩
          have HB7 := Lib.hid hbd7
          have HA7 := HA6.out.stay (hk7.2.1 (b + 1) (by omega) (by omega))
          have HG7 := HG6.out.stay (hk7.2.2 gs HG6.out.lt (by omega) (notU8_seg HG6.out))
          have hb7 := hb6.trans (hk7.1.mono hwb)
          have r0 := HA7.cell 0
          have r1 := HA7.cell 1
          have r2 := HA7.cell 2
          have r3 := HA7.cell 3
          simp only [List.getElem?_toArray, List.getElem?_cons_zero, List.getElem?_cons_succ] at r0 r1 r2 r3
          have f0 := HA7.frozen 0
          have f1 := HA7.frozen 1
          have f2 := HA7.frozen 2
          have f3 := HA7.frozen 3
          have s0 := HG7.cell 0
          have s1 := HG7.cell 1
          have s2 := HG7.cell 2
          have s3 := HG7.cell 3
          simp only [List.getElem?_toArray, List.getElem?_cons_zero, List.getElem?_cons_succ] at s0 s1 s2 s3
          have HA8 := Lib.hid ((((HA7.set 0 (.int .i64 x1)).set 1 (.int .i64 x2)).set 2 (.int .i64 x3)).set 3 (.int .i64 x4))
          have HB8 := Lib.hid (HB7.out.putF (g := b + 1) (by omega) (by omega) (.int .i64 x1) (.int .i64 x2) (.int .i64 x3) (.int .i64 x4) (notU8_seg HA7))
          have hb8 := ((((hb7.setCell (p := ⟨b + 1, 0, none⟩) (by show w.heap.size ≤ b + 1; omega) (.int .i64 x1)).setCell (p := ⟨b + 1, 1, none⟩) (by show w.heap.size ≤ b + 1; omega) (.int .i64 x2)).setCell (p := ⟨b + 1, 2, none⟩) (by show w.heap.size ≤ b + 1; omega) (.int .i64 x3)).setCell (p := ⟨b + 1, 3, none⟩) (by show w.heap.size ≤ b + 1; omega) (.int .i64 x4))
          clear HA7 HG7 hbd7
          go_wp2_with fail
          go_roundw
          case rel =>
            refine ⟨k + 1, x1, x2, x3, x4, by omega, by go_num, HPS, Lib.hid ?_, HA8, hb8⟩
            have h1 := HB8.out
            have hp : pieceG (k == 0) (p1, p2, p3, p4) (x1, x2, x3, x4) = List.replicate cn 61 ++ L nt := by
              unfold pieceG markG turnG colG
              simp only
              rw [← HNT.out]
              rw [if_pos hpx, if_pos hpx, List.append_nil, show (x1 - p1).toNat = cn by omega]
            rw [HMN.out, hp]
            simpa [L, List.append_assoc] using h1
          case measure => simp [intOf]; omega
        · have g0 : decide (x1 - p1 > 0) = false := decide_eq_false (by omega)
          rcases Nat.eq_zero_or_pos k with hk0 | hk0
          · subst hk0
            have g1 : decide (((0 : Nat) : Int) > 0) = false := by decide
            rw [Nat.zero_mul, Nat.add_zero] at h0 h1 h2 h3
            rw [hW3, hgs] at y0 y1 y2 y3
            rw [hW3] at a0 a1 a2 a3
            go_wp2_with fail
            rw [← hW3, ← hgs]
            clear hW3 hgs a0 a1 a2 a3 y0 y1 y2 y3 hb3' h0 h1 h2 h3
            obtain ⟨V, hV⟩ : ∃ V, V = W3 := ⟨_, rfl⟩
            rw [← hV] at HBD HAH HSG HBE ⊢
            clear hV
            have r0 := HAH.out.cell 0
            have r1 := HAH.out.cell 1
            have r2 := HAH.out.cell 2
            have r3 := HAH.out.cell 3
            simp only [List.getElem?_toArray, List.getElem?_cons_zero, List.getElem?_cons_succ] at r0 r1 r2 r3
            have s0 := HSG.out.cell 0
            have s1 := HSG.out.cell 1
            have s2 := HSG.out.cell 2
            have s3 := HSG.out.cell 3
            simp only [List.getElem?_toArray, List.getElem?_cons_zero, List.getElem?_cons_succ] at s0 s1 s2 s3
            have HTU := Lib.hid (turnsOf_any p1 p2 p3 p4 x1 x2 x3 x4 V (by omega) (by omega) (by omega) (by omega) (by omega) (by omega))
            go_wp2_with fail
            refine HTU.out.mono ?_
            rintro e w5 ⟨A5, c5, rfl, hs5, hb5'⟩
            have hb5 := HBE.out.trans (hb5'.mono HBE.out.size)
            have HB5 := Lib.hid (HBD.out.below hb5')
            have HA5 := Lib.hid (HAH.out.stay (hb5'.block _ HAH.out.lt))
            have HG5 := Lib.hid (HSG.out.stay (hb5'.block _ HSG.out.lt))
            have HNU := Lib.hid (numsText_any A5 c5 [x2 - p2, x3 - p3, x4 - p4] w5 (by simp) hs5)
            have hns := numsT_size [x2 - p2, x3 - p3, x4 - p4]
            have HNS := Lib.hid (show (numsT [x2 - p2, x3 - p3, x4 - p4]).size ≤ 18 from hns)
            generalize hNT : numsT [x2 - p2, x3 - p3, x4 - p4] = nt at *
            have HNT := Lib.hid hNT
            clear hNT hns hs5 HTU
            go_wp2_with fail
            refine HNU.out.mono ?_
            rintro e w6 ⟨rfl, hb6'⟩
            have hb6 := hb5.trans (hb6'.mono hb5.size)
            have HB6 := Lib.hid (HB5.out.below hb6')
            have HA6 := Lib.hid (HA5.out.stay (hb6'.block _ HA5.out.lt))
            have HG6 := Lib.hid (HG5.out.stay (hb6'.block _ HG5.out.lt))
            go_wp2_with fail
            refine (writeStringF_any b (b + 2) (mapN xs 0) nt w6 HB6.out (by have := HNS.out; (try simp); omega)).mono ?_
            rintro e w7 ⟨rfl, hbd7, hk7⟩
            have HB7 := Lib.hid hbd7
            have HA7 := HA6.out.stay (hk7.2.1 (b + 1) (by omega) (by omega))
            have HG7 := HG6.out.stay (hk7.2.2 gs HG6.out.lt (by omega) (notU8_seg HG6.out))
            have hb7 := hb6.trans (hk7.1.mono hwb)
            have r0 := HA7.cell 0
            have r1 := HA7.cell 1
            have r2 := HA7.cell 2
            have r3 := HA7.cell 3
            simp only [List.getElem?_toArray, List.getElem?_cons_zero, List.getElem?_cons_succ] at r0 r1 r2 r3
            have f0 := HA7.frozen 0
            have f1 := HA7.frozen 1
            have f2 := HA7.frozen 2
            have f3 := HA7.frozen 3
            have s0 := HG7.cell 0
            have s1 := HG7.cell 1
            have s2 := HG7.cell 2
            have s3 := HG7.cell 3
            simp only [List.getElem?_toArray, List.getElem?_cons_zero, List.getElem?_cons_succ] at s0 s1 s2 s3
            have HA8 := Lib.hid ((((HA7.set 0 (.int .i64 x1)).set 1 (.int .i64 x2)).set 2 (.int .i64 x3)).set 3 (.int .i64 x4))
            have HB8 := Lib.hid (HB7.out.putF (g := b + 1) (by omega) (by omega) (.int .i64 x1) (.int .i64 x2) (.int .i64 x3) (.int .i64 x4) (notU8_seg HA7))
            have hb8 := ((((hb7.setCell (p := ⟨b + 1, 0, none⟩) (by show w.heap.size ≤ b + 1; omega) (.int .i64 x1)).setCell (p := ⟨b + 1, 1, none⟩) (by show w.heap.size ≤ b + 1; omega) (.int .i64 x2)).setCell (p := ⟨b + 1, 2, none⟩) (by show w.heap.size ≤ b + 1; omega) (.int .i64 x3)).setCell (p := ⟨b + 1, 3, none⟩) (by show w.heap.size ≤ b + 1; omega) (.int .i64 x4))
            clear HA7 HG7 hbd7
            go_wp2_with fail
            go_roundw
            case rel =>
              refine ⟨0 + 1, x1, x2, x3, x4, by omega, by go_num, HPS, Lib.hid ?_, HA8, hb8⟩
              have h1 := HB8.out
              have hp : pieceG (0 == 0) (p1, p2, p3, p4) (x1, x2, x3, x4) = [] ++ L nt := by
                unfold pieceG markG turnG colG
                simp only
                rw [← HNT.out]
                rw [if_neg (show ¬ p1 < x1 by omega), if_neg (show ¬ p1 < x1 by omega), if_pos (by rfl), show (x1 - p1).toNat = 0 by omega]; rfl
              rw [HMN.out, hp]
              simpa [L, List.append_assoc] using h1
            case measure => simp [intOf]; omega
          · obtain ⟨m, rfl⟩ : ∃ m, k = m + 1 := ⟨k - 1, by omega⟩
            have g1 : decide ((m : Int) + 1 > 0) = true := decide_eq_true (by omega)
            rw [hW3, hgs] at y0 y1 y2 y3
            rw [hW3] at a0 a1 a2 a3
            go_wp2_with fail
            rw [← hW3, ← hgs]
            clear hW3 hgs a0 a1 a2 a3 y0 y1 y2 y3 hb3' h0 h1 h2 h3
            refine (writeStringF_any b (b + 2) (mapN xs (m + 1)) _ W3 HBD.out (by show _ + 1 ≤ _; omega)).mono ?_
            rintro e w4b ⟨rfl, hbd4, hk4⟩
            have HBD4 := Lib.hid hbd4
            have HAH4 := Lib.hid (HAH.out.stay (hk4.2.1 (b + 1) (by omega) (by omega)))
            have HSG4 := Lib.hid (HSG.out.stay (hk4.2.2 gs HSG.out.lt (by omega) (notU8_seg HSG.out)))
            have HBE4 := Lib.hid (HBE.out.trans (hk4.1.mono hwb))
            clear HBD HAH HSG HBE hbd4
            have HBD := HBD4
            have HAH := HAH4
            have HSG := HSG4
            have HBE := HBE4
            clear HBD4 HAH4 HSG4 HBE4
            obtain ⟨V, hV⟩ : ∃ V, V = w4b := ⟨_, rfl⟩
            rw [← hV] at HBD HAH HSG HBE ⊢
            clear hV
            have r0 := HAH.out.cell 0
            have r1 := HAH.out.cell 1
            have r2 := HAH.out.cell 2
            have r3 := HAH.out.cell 3
            simp only [List.getElem?_toArray, List.getElem?_cons_zero, List.getElem?_cons_succ] at r0 r1 r2 r3
            have s0 := HSG.out.cell 0
            have s1 := HSG.out.cell 1
            have s2 := HSG.out.cell 2
            have s3 := HSG.out.cell 3
            simp only [List.getElem?_toArray, List.getElem?_cons_zero, List.getElem?_cons_succ] at s0 s1 s2 s3
            have HTU := Lib.hid (turnsOf_any p1 p2 p3 p4 x1 x2 x3 x4 V (by omega) (by omega) (by omega) (by omega) (by omega) (by omega))
            go_wp2_with fail
            refine HTU.out.mono ?_
            rintro e w5 ⟨A5, c5, rfl, hs5, hb5'⟩
            have hb5 := HBE.out.trans (hb5'.mono HBE.out.size)
            have HB5 := Lib.hid (HBD.out.below hb5')
            have HA5 := Lib.hid (HAH.out.stay (hb5'.block _ HAH.out.lt))
            have HG5 := Lib.hid (HSG.out.stay (hb5'.block _ HSG.out.lt))
            have HNU := Lib.hid (numsText_any A5 c5 [x2 - p2, x3 - p3, x4 - p4] w5 (by simp) hs5)
            have hns := numsT_size [x2 - p2, x3 - p3, x4 - p4]
            have HNS := Lib.hid (show (numsT [x2 - p2, x3 - p3, x4 - p4]).size ≤ 18 from hns)
            generalize hNT : numsT [x2 - p2, x3 - p3, x4 - p4] = nt at *
            have HNT := Lib.hid hNT
            clear hNT hns hs5 HTU
            go_wp2_with fail
            refine HNU.out.mono ?_
            rintro e w6 ⟨rfl, hb6'⟩
            have hb6 := hb5.trans (hb6'.mono hb5.size)
            have HB6 := Lib.hid (HB5.out.below hb6')
            have HA6 := Lib.hid (HA5.out.stay (hb6'.block _ HA5.out.lt))
            have HG6 := Lib.hid (HG5.out.stay (hb6'.block _ HG5.out.lt))
            go_wp2_with fail
            refine (writeStringF_any b (b + 2) (mapN xs (m + 1) ++ (⟨#[44]⟩ : ByteArray).data.toList) nt w6 HB6.out (by have := HNS.out; (try simp); omega)).mono ?_
            rintro e w7 ⟨rfl, hbd7, hk7⟩
            have HB7 := Lib.hid hbd7
            have HA7 := HA6.out.stay (hk7.2.1 (b + 1) (by omega) (by omega))
            have HG7 := HG6.out.stay (hk7.2.2 gs HG6.out.lt (by omega) (notU8_seg HG6.out))
            have hb7 := hb6.trans (hk7.1.mono hwb)
            have r0 := HA7.cell 0
            have r1 := HA7.cell 1
            have r2 := HA7.cell 2
            have r3 := HA7.cell 3
            simp only [List.getElem?_toArray, List.getElem?_cons_zero, List.getElem?_cons_succ] at r0 r1 r2 r3
            have f0 := HA7.frozen 0
            have f1 := HA7.frozen 1
            have f2 := HA7.frozen 2
            have f3 := HA7.frozen 3
            have s0 := HG7.cell 0
            have s1 := HG7.cell 1
            have s2 := HG7.cell 2
            have s3 := HG7.cell 3
            simp only [List.getElem?_toArray, List.getElem?_cons_zero, List.getElem?_cons_succ] at s0 s1 s2 s3
            have HA8 := Lib.hid ((((HA7.set 0 (.int .i64 x1)).set 1 (.int .i64 x2)).set 2 (.int .i64 x3)).set 3 (.int .i64 x4))
            have HB8 := Lib.hid (HB7.out.putF (g := b + 1) (by omega) (by omega) (.int .i64 x1) (.int .i64 x2) (.int .i64 x3) (.int .i64 x4) (notU8_seg HA7))
            have hb8 := ((((hb7.setCell (p := ⟨b + 1, 0, none⟩) (by show w.heap.size ≤ b + 1; omega) (.int .i64 x1)).setCell (p := ⟨b + 1, 1, none⟩) (by show w.heap.size ≤ b + 1; omega) (.int .i64 x2)).setCell (p := ⟨b + 1, 2, none⟩) (by show w.heap.size ≤ b + 1; omega) (.int .i64 x3)).setCell (p := ⟨b + 1, 3, none⟩) (by show w.heap.size ≤ b + 1; omega) (.int .i64 x4))
            clear HA7 HG7 hbd7
            go_wp2_with fail
            go_roundw
            case rel =>
              refine ⟨(m + 1) + 1, x1, x2, x3, x4, by omega, by go_num, HPS, Lib.hid ?_, HA8, hb8⟩
              have h1 := HB8.out
              have hp : pieceG (m + 1 == 0) (p1, p2, p3, p4) (x1, x2, x3, x4) = [44] ++ L nt := by
                unfold pieceG markG turnG colG
                simp only
                rw [← HNT.out]
                rw [if_neg (show ¬ p1 < x1 by omega), if_neg (show ¬ p1 < x1 by omega), if_neg (by simp), show (x1 - p1).toNat = 0 by omega]; rfl
              rw [HMN.out, hp]
              simpa [L, List.append_assoc] using h1
            case measure => simp [intOf]; omega
      · obtain rfl : xs.length = k := by omega
        have HBF := Lib.hid (HBR.out.bd (B := b) (Nat.le_refl _))
        have hmk := HML.out xs.length (Nat.le_refl _)
        have hbr := HBR.out.2.1
        go_wp2_with fail
        refine (Try.Builder_String_any _ _ _ wr HBF.out (by omega)).mono ?_
        rintro e w3 ⟨rfl, hb3⟩
        go_wp2_with fail
        go_ret
        exact ⟨ret_str HE.out.symm, hbw.trans (hb3.mono hwb)⟩
end Go.Proofs.Ytdkliboehdohdaa
