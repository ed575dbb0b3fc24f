/-
  The contract of the model's l4Atom, given that of l4Level1 within brackets.
-/
import Derived.Test.YtodioplkgjpcjaaGreatDoorSpecRead
import Derived.BigRegion
namespace Go.Proofs.YtodioplkgjpcjaaGreatDoor
open Go.RowKit

set_option linter.unusedVariables false in
set_option linter.unusedSimpArgs false in
set_option maxRecDepth 100000 in
set_option maxHeartbeats 8000000 in
theorem l4Atom_any (ws : List ByteArray) (A : Option Addr) (c d : Nat) (hd : d ≤ 100) (ih : ∀ d', d = d' + 1 → Lvl1Ok ws A c d') : AtomOk ws A c d := by
  intro k w hk C
  have hsz := C.size k
  have hfw : ws.length ≤ 2 ^ 30 := C.few
  have HC := Lib.hid C
  have HI := Lib.hid ih
  obtain ⟨W0, hW0⟩ : ∃ W0, W0 = (w.alloc (.cells #[.int .i64 0, .int .i64 0, .string { data := #[] }, .slice none 0 0] 25)).alloc (.cells #[.int .i64 0, .int .i64 0, .string { data := #[] }, .slice none 0 0] 25) := ⟨_, rfl⟩
  have hb0 : Below w.heap.size w W0 := by rw [hW0]; exact ((Below.refl _ w).alloc (Nat.le_refl _) _).alloc (by simp) _
  have hs0 : w.heap.size + 2 = W0.heap.size := by rw [hW0]; simp
  have hs0' : w.heap.size + 2 ≤ W0.heap.size := by omega
  have hB9 : Blk W0 (w.heap.size + 1) #[.int .i64 0, .int .i64 0, .string { data := #[] }, .slice none 0 0] := by
    have := World.alloc_heap_new (w.alloc (.cells #[.int .i64 0, .int .i64 0, .string { data := #[] }, .slice none 0 0] 25)) (.cells #[.int .i64 0, .int .i64 0, .string { data := #[] }, .slice none 0 0] 25)
    rw [World.size_alloc] at this
    rw [hW0]; exact this
  have hB6 : Blk W0 w.heap.size #[.int .i64 0, .int .i64 0, .string { data := #[] }, .slice none 0 0] := by
    have := World.alloc_heap_new w (.cells #[.int .i64 0, .int .i64 0, .string { data := #[] }, .slice none 0 0] 25)
    unfold Blk
    rw [hW0, Below.heap_alloc _ _ _ (by simp)]
    exact this
  have HAt0 := Lib.hid (l4At_any (C.below ((Below.refl _ w).alloc (Nat.le_refl _) (.cells #[.int .i64 0, .int .i64 0, .string { data := #[] }, .slice none 0 0] 25))) (c := c) k (by have := C.few; omega))
  obtain ⟨s, hs⟩ : ∃ s, s = peekL ws k := ⟨_, rfl⟩
  have HS := Lib.hid hs
  rw [← hs] at HAt0 hsz
  have HNU := Lib.hid (l3Num_any s W0 hsz)
  have HNA := Lib.hid (l4Name_any s W0 hsz)
  have x0 := hB9.cell 0
  have x1 := hB9.cell 1
  have x2 := hB9.cell 2
  have x3 := hB9.cell 3
  have xf0 := hB9.frozen 0
  have xf1 := hB9.frozen 1
  have xf2 := hB9.frozen 2
  have xf3 := hB9.frozen 3
  simp only [List.getElem?_toArray, List.getElem?_cons_zero, List.getElem?_cons_succ] at x0 x1 x2 x3
  have HB9 := Lib.hid hB9
  have HB6 := Lib.hid hB6
  clear C ih hs hB6 hB9 hs0
  cases hnu : decL (L s)
  case true =>
    rw [hnu] at HNU
    obtain ⟨v, hv⟩ : ∃ v : Int, v = (decV 0 (L s) : Int) := ⟨_, rfl⟩
    have HV := Lib.hid hv
    have HNV := Lib.hid (show Calls Tryz.prog 133 #[.string s] W0 (fun e w' => e = .returned (.tuple #[.int .i64 v, .bool true]) ∧ W0 = w') from by
      have h := l12Num_any s W0 hsz
      rw [dec_numV hnu, ← hv] at h
      exact h)
    have HDE := Lib.hid hnu
    have hlt : k < ws.length := speek_in (by rw [← HS.out]; intro e; rw [e] at hnu; revert hnu; decide)
    clear hv hnu HNA
    go_enter Tryz.func117, Tryz.ntmps117
    go_wp2_with fail
    refine HAt0.out.mono ?_
    rintro e w1 ⟨rfl, rfl⟩
    go_wp2_with fail
    rw [← hW0]
    clear hW0 HAt0
    refine HNU.out.mono ?_
    rintro e w1 ⟨rfl, rfl⟩
    go_wp2_with fail
    refine HNV.out.mono ?_
    rintro e w1 ⟨rfl, rfl⟩
    have HB9' := Lib.hid (blk_set4 (.int .i64 1) (.int .i64 v) (.string { data := #[] }) (.slice none 0 0) HB9.out)
    have hsame1 := heap_set4 W0 (w.heap.size + 1) (.int .i64 1) (.int .i64 v) (.string { data := #[] }) (.slice none 0 0)
    have hsz1 := size_set4 W0 (w.heap.size + 1) (.int .i64 1) (.int .i64 v) (.string { data := #[] }) (.slice none 0 0)
    have hbl1 : Below (w.heap.size + 1) W0 ((((W0.setCell ⟨w.heap.size + 1, 0, none⟩ (.int .i64 1)).setCell ⟨w.heap.size + 1, 1, none⟩ (.int .i64 v)).setCell ⟨w.heap.size + 1, 2, none⟩ (.string { data := #[] })).setCell ⟨w.heap.size + 1, 3, none⟩ (.slice none 0 0)) := ⟨rfl, rfl, rfl, Nat.le_of_eq hsz1.symm, fun b hb => hsame1 b (by omega)⟩
    have H1 := Lib.hid hbl1
    clear hbl1 hsame1 hsz1
    go_wp2_with fail
    go_loopg [10] (ws.length - k) (fun gk i wr => (∃ p k2 A2 c2, i = .int .i64 ((k2 : Nat) : Int) ∧ k2 + gk = ws.length + 1 ∧ k < k2 ∧ k2 ≤ ws.length ∧ p.ex.wt + 9 * k ≤ 9 * k2 ∧ p.ex.kids.length ≤ c2 ∧ Hid (Blk wr (w.heap.size + 1) #[.int .i64 p.ex.kind, .int .i64 p.ex.n, .string p.ex.s, .slice A2 p.ex.kids.length c2]) ∧ Hid (KidsS wr (fun b => w.heap.size + 2 ≤ b ∧ b < wr.heap.size) A2 p.ex.kids) ∧ Hid (Blk wr w.heap.size #[.int .i64 0, .int .i64 0, .string { data := #[] }, .slice none 0 0]) ∧ Below w.heap.size w wr ∧ Hid (∀ r, SALoop ws p k2 r → SAtom ws d k r)))
    case atStart => exact ⟨.num v, k + 1, none, 0, by go_num, by omega, by omega, by omega, by simp only [Pt.ex, Ex.wt, Ex.wts]; have : ByteArray.empty.size = 0 := rfl; omega, Nat.le_refl _, HB9', .nil, Lib.hid ((H1.out.block _ (by omega)).trans HB6.out), hb0.trans (H1.out.mono (by omega)), Lib.hid (fun r h => .num (by rw [← HS.out]; exact HDE.out) (by rw [← HS.out, ← HV.out]; exact h))⟩
    case round =>
      obtain ⟨p, k2, A2, c2, rfl, hg, hk1, hk2, hwt, hc2, HBk, HKd, HB6, hBw, HAL⟩ := hrel
      have hszw := hBw.size
      have hlt9 := HBk.out.lt
      have o0 := HBk.out.cell 0
      have o1 := HBk.out.cell 1
      have o2 := HBk.out.cell 2
      have o3 := HBk.out.cell 3
      have of0 := HBk.out.frozen 0
      have of1 := HBk.out.frozen 1
      have of2 := HBk.out.frozen 2
      have of3 := HBk.out.frozen 3
      simp only [List.getElem?_toArray, List.getElem?_cons_zero, List.getElem?_cons_succ] at o0 o1 o2 o3
      have z0 := HB6.out.cell 0
      have z1 := HB6.out.cell 1
      have z2 := HB6.out.cell 2
      have z3 := HB6.out.cell 3
      have zf0 := HB6.out.frozen 0
      have zf1 := HB6.out.frozen 1
      have zf2 := HB6.out.frozen 2
      have zf3 := HB6.out.frozen 3
      simp only [List.getElem?_toArray, List.getElem?_cons_zero, List.getElem?_cons_succ] at z0 z1 z2 z3
      have HCw := Lib.hid (HC.out.below hBw)
      obtain ⟨t, ht⟩ : ∃ t, t = peekL ws k2 := ⟨_, rfl⟩
      have HT := Lib.hid ht
      have HAt := Lib.hid (l4At_any HCw.out (c := c) k2 (by have := HC.out.few; omega))
      rw [← ht] at HAt
      clear ht
      by_cases h1 : t = sAs
      · obtain ⟨t2, ht2⟩ : ∃ t2, t2 = peekL ws (k2 + 1) := ⟨_, rfl⟩
        have HT2 := Lib.hid ht2
        have hlt0 : k2 < ws.length := speek_in (by rw [← HT.out, h1]; decide)
        have HAt2 := Lib.hid (l4At_any HCw.out (c := c) (k2 + 1) (by have := HC.out.few; omega))
        rw [← ht2, show ((k2 + 1 : Nat) : Int) = (k2 : Int) + 1 by omega] at HAt2
        have HTY := Lib.hid (l4Type_any t2 wr)
        have HH1 := Lib.hid h1
        rw [h1] at HAt
        unfold sAs at HAt
        clear h1 ht2
        cases hb : typeB t2
        · rw [hb] at HTY
          have HB := Lib.hid hb
          clear hb
          go_wp2_with fail
          refine HAt.out.mono ?_
          rintro e w1 ⟨rfl, rfl⟩
          go_wp2_with fail
          refine HAt2.out.mono ?_
          rintro e w1 ⟨rfl, rfl⟩
          go_wp2_with fail
          refine HTY.out.mono ?_
          rintro e w1 ⟨rfl, rfl⟩
          have HBN := Lib.hid (blk_set4 (.int .i64 p.ex.kind) (.int .i64 p.ex.n) (.string p.ex.s) (.slice A2 p.ex.kids.length c2) HB6.out)
          go_wp2_with fail
          obtain ⟨wn, hwn⟩ : ∃ wn, wn = (((wr.setCell ⟨w.heap.size, 0, none⟩ (.int .i64 p.ex.kind)).setCell ⟨w.heap.size, 1, none⟩ (.int .i64 p.ex.n)).setCell ⟨w.heap.size, 2, none⟩ (.string p.ex.s)).setCell ⟨w.heap.size, 3, none⟩ (.slice A2 p.ex.kids.length c2) := ⟨_, rfl⟩
          have hBn := HBN.out
          have hsame : ∀ k, k ≠ w.heap.size → wn.heap[k]? = wr.heap[k]? := fun k hk => by rw [hwn]; exact heap_set4 _ _ _ _ _ _ _ hk
          have hzn : wn.heap.size = wr.heap.size := by rw [hwn]; exact size_set4 _ _ _ _ _ _
          have hBl : Below w.heap.size wr wn := ⟨by rw [hwn]; rfl, by rw [hwn]; rfl, by rw [hwn]; rfl, by omega, fun k hk => hsame k (by omega)⟩
          rw [← hwn] at hBn ⊢
          have r0 := hBn.cell 0
          have r1 := hBn.cell 1
          have r2 := hBn.cell 2
          have r3 := hBn.cell 3
          simp only [List.getElem?_toArray, List.getElem?_cons_zero, List.getElem?_cons_succ] at r0 r1 r2 r3
          refine bodyPost_ret (v := .tuple #[.agg #[.int .i64 p.ex.kind, .int .i64 p.ex.n, .string p.ex.s, .slice A2 p.ex.kids.length c2], .int .i64 (-1)]) (by simp [results, Tryz.results117, go_sem, r0, r1, r2, r3]) rfl ?_
          exact .inr ⟨_, _, _, _, _, _, HAL.out _ (.no (by rw [← HT.out, HH1.out]) (by rw [← HT2.out, HB.out])), rfl, hBw.trans hBl⟩
        · rw [hb] at HTY
          have HB := Lib.hid hb
          have hlt2 : k2 + 1 < ws.length := speek_in (by rw [← HT2.out]; intro e; rw [e] at hb; revert hb; decide)
          obtain ⟨g, off, eA, hgA, hcA⟩ := HCw.out.sl.at_ (k := k2 + 1) (by simpa using hlt2)
          rw [List.getElem_map] at hcA
          subst eA
          have HP := Lib.hid ((speek_lt hlt2).symm.trans HT2.out.symm)
          rw [show ws[k2 + 1] = t2 from HP.out] at hcA
          unfold strV at hcA
          have q2 : (0 : Int) ≤ (k2 : Int) + 1 := by omega
          have q3 : (k2 : Int) + 1 < (ws.length : Int) := by omega
          clear hb
          go_wp2_with fail
          refine HAt.out.mono ?_
          rintro e w1 ⟨rfl, rfl⟩
          go_wp2_with fail
          refine HAt2.out.mono ?_
          rintro e w1 ⟨rfl, rfl⟩
          go_wp2_with fail
          refine HTY.out.mono ?_
          rintro e w1 ⟨rfl, rfl⟩
          go_wp2_with fail
          go_region
          have HBH := Lib.hid (behind_drew (behind1 wr (w.heap.size + 1) (.int .i64 4) (.int .i64 0) (.string t2) (.slice (some ⟨wr.heap.size, 0, none⟩) 1 1) (.cells #[.int .i64 p.ex.kind, .int .i64 p.ex.n, .string p.ex.s, .slice A2 p.ex.kids.length c2] 25)))
          have HN9 := Lib.hid (blk1 (.int .i64 4) (.int .i64 0) (.string t2) (.slice (some ⟨wr.heap.size, 0, none⟩) 1 1) (.cells #[.int .i64 p.ex.kind, .int .i64 p.ex.n, .string p.ex.s, .slice A2 p.ex.kids.length c2] 25) HBk.out)
          have HNK := Lib.hid (at1 wr (w.heap.size + 1) (.int .i64 4) (.int .i64 0) (.string t2) (.slice (some ⟨wr.heap.size, 0, none⟩) 1 1) (.cells #[.int .i64 p.ex.kind, .int .i64 p.ex.n, .string p.ex.s, .slice A2 p.ex.kids.length c2] 25))
          have HZN := Lib.hid (show wr.heap.size < (((((wr.setCell ⟨w.heap.size + 1, 0, none⟩ (.int .i64 4)).setCell ⟨w.heap.size + 1, 1, none⟩ (.int .i64 0)).setCell ⟨w.heap.size + 1, 2, none⟩ (.string t2)).setCell ⟨w.heap.size + 1, 3, none⟩ (.slice (some ⟨wr.heap.size, 0, none⟩) 1 1)).alloc (.cells #[.int .i64 p.ex.kind, .int .i64 p.ex.n, .string p.ex.s, .slice A2 p.ex.kids.length c2] 25)).drew.heap.size by simp)
          have hts := Lib.hid (show t2.size ≤ 4 by have := HB.out; simp only [typeB, Bool.or_eq_true, decide_eq_true_eq] at this; rcases this with h | h <;> (rw [h]; decide))
          go_wp2_with fail
          go_roundg (gk - 2)
          case measure => omega
          case rel =>
            obtain ⟨wn, hwn⟩ : ∃ wn, wn = (((((wr.setCell ⟨w.heap.size + 1, 0, none⟩ (.int .i64 4)).setCell ⟨w.heap.size + 1, 1, none⟩ (.int .i64 0)).setCell ⟨w.heap.size + 1, 2, none⟩ (.string t2)).setCell ⟨w.heap.size + 1, 3, none⟩ (.slice (some ⟨wr.heap.size, 0, none⟩) 1 1)).alloc (.cells #[.int .i64 p.ex.kind, .int .i64 p.ex.n, .string p.ex.s, .slice A2 p.ex.kids.length c2] 25)).drew := ⟨_, rfl⟩
            have hN9 : Blk wn (w.heap.size + 1) #[.int .i64 4, .int .i64 0, .string t2, .slice (some ⟨wr.heap.size, 0, none⟩) 1 1] := by rw [hwn]; exact HN9.out
            have hNK : Blk wn wr.heap.size (kidCells p.ex A2 c2).toArray := by rw [hwn]; exact HNK.out
            have hBH : Behind5 (w.heap.size + 1) wr wn := by rw [hwn]; exact HBH.out
            have hzn : wr.heap.size < wn.heap.size := by rw [hwn]; exact HZN.out
            rw [← hwn]
            have hts2 := hts.out
            exact ⟨.as t2 p, k2 + 2, some ⟨wr.heap.size, 0, none⟩, 1, by go_num, by omega, by omega, by omega, by simp only [Pt.ex, Ex.wt, Ex.wts]; omega, Nat.le_refl _, hN9,
              kidsS_one ⟨by omega, hzn⟩ hNK hc2 (HKd.out.keep (fun b h => ⟨h.1, by omega⟩) (fun b h => hBH.1 b h.2 (by omega))), (hBH.1 _ (by omega) (by omega)).trans HB6.out, hBw.trans (below_behind hBH _ (by omega) (by omega)), fun r h => HAL.out r (.more (by rw [← HT.out, HH1.out]) (by rw [← HT2.out, HB.out]) (by rw [← HT2.out]; exact h))⟩
      · have q1 : (t.toList == [97, 115]) = false := by rw [isS]; exact decide_eq_false h1
        have HN := Lib.hid h1
        clear h1
        go_wp2_with fail
        refine HAt.out.mono ?_
        rintro e w1 ⟨rfl, rfl⟩
        have HBN := Lib.hid (blk_set4 (.int .i64 p.ex.kind) (.int .i64 p.ex.n) (.string p.ex.s) (.slice A2 p.ex.kids.length c2) HB6.out)
        go_wp2_with fail
        obtain ⟨wn, hwn⟩ : ∃ wn, wn = (((wr.setCell ⟨w.heap.size, 0, none⟩ (.int .i64 p.ex.kind)).setCell ⟨w.heap.size, 1, none⟩ (.int .i64 p.ex.n)).setCell ⟨w.heap.size, 2, none⟩ (.string p.ex.s)).setCell ⟨w.heap.size, 3, none⟩ (.slice A2 p.ex.kids.length c2) := ⟨_, rfl⟩
        have hBn := HBN.out
        have hsame : ∀ k, k ≠ w.heap.size → wn.heap[k]? = wr.heap[k]? := fun k hk => by rw [hwn]; exact heap_set4 _ _ _ _ _ _ _ hk
        have hzn : wn.heap.size = wr.heap.size := by rw [hwn]; exact size_set4 _ _ _ _ _ _
        have hBl : Below w.heap.size wr wn := ⟨by rw [hwn]; rfl, by rw [hwn]; rfl, by rw [hwn]; rfl, by omega, fun k hk => hsame k (by omega)⟩
        rw [← hwn] at hBn ⊢
        have r0 := hBn.cell 0
        have r1 := hBn.cell 1
        have r2 := hBn.cell 2
        have r3 := hBn.cell 3
        simp only [List.getElem?_toArray, List.getElem?_cons_zero, List.getElem?_cons_succ] at r0 r1 r2 r3
        refine bodyPost_ret (v := .tuple #[.agg #[.int .i64 p.ex.kind, .int .i64 p.ex.n, .string p.ex.s, .slice A2 p.ex.kids.length c2], .int .i64 (k2 : Int)]) (by simp [results, Tryz.results117, go_sem, r0, r1, r2, r3]) rfl ?_
        exact .inl ⟨p, k2, A2, c2, HAL.out _ (.stop (by rw [← HT.out]; exact HN.out)), rfl, hc2, HKd.out.keep (fun b h => ⟨by omega, by omega⟩) (fun b h => hsame b (by omega)), hBw.trans hBl, hk1, hk2, hwt⟩
  case false =>
    rw [hnu] at HNU
    have HDE := Lib.hid hnu
    clear hnu
    cases hna : nameB s
    case true =>
      rw [hna] at HNA
      have HNB := Lib.hid hna
      have hlt : k < ws.length := speek_in (by rw [← HS.out]; intro e; rw [e] at hna; revert hna; decide)
      have HSZ := Lib.hid (show s.size ≤ 8 by have := hna; simp only [nameB, wordL, Bool.and_eq_true, decide_eq_true_eq] at this; have h2 := this.1.2.1; rwa [L_length] at h2)
      clear hna
      go_enter Tryz.func117, Tryz.ntmps117
      go_wp2_with fail
      refine HAt0.out.mono ?_
      rintro e w1 ⟨rfl, rfl⟩
      go_wp2_with fail
      rw [← hW0]
      clear hW0 HAt0
      refine HNU.out.mono ?_
      rintro e w1 ⟨rfl, rfl⟩
      go_wp2_with fail
      refine HNA.out.mono ?_
      rintro e w1 ⟨rfl, rfl⟩
      have HB9' := Lib.hid (blk_set4 (.int .i64 2) (.int .i64 0) (.string s) (.slice none 0 0) HB9.out)
      have hsame1 := heap_set4 W0 (w.heap.size + 1) (.int .i64 2) (.int .i64 0) (.string s) (.slice none 0 0)
      have hsz1 := size_set4 W0 (w.heap.size + 1) (.int .i64 2) (.int .i64 0) (.string s) (.slice none 0 0)
      have hbl1 : Below (w.heap.size + 1) W0 ((((W0.setCell ⟨w.heap.size + 1, 0, none⟩ (.int .i64 2)).setCell ⟨w.heap.size + 1, 1, none⟩ (.int .i64 0)).setCell ⟨w.heap.size + 1, 2, none⟩ (.string s)).setCell ⟨w.heap.size + 1, 3, none⟩ (.slice none 0 0)) := ⟨rfl, rfl, rfl, Nat.le_of_eq hsz1.symm, fun b hb => hsame1 b (by omega)⟩
      have H1 := Lib.hid hbl1
      clear hbl1 hsame1 hsz1
      go_wp2_with fail
      go_loopg [10] (ws.length - k) (fun gk i wr => (∃ p k2 A2 c2, i = .int .i64 ((k2 : Nat) : Int) ∧ k2 + gk = ws.length + 1 ∧ k < k2 ∧ k2 ≤ ws.length ∧ p.ex.wt + 9 * k ≤ 9 * k2 ∧ p.ex.kids.length ≤ c2 ∧ Hid (Blk wr (w.heap.size + 1) #[.int .i64 p.ex.kind, .int .i64 p.ex.n, .string p.ex.s, .slice A2 p.ex.kids.length c2]) ∧ Hid (KidsS wr (fun b => w.heap.size + 2 ≤ b ∧ b < wr.heap.size) A2 p.ex.kids) ∧ Hid (Blk wr w.heap.size #[.int .i64 0, .int .i64 0, .string { data := #[] }, .slice none 0 0]) ∧ Below w.heap.size w wr ∧ Hid (∀ r, SALoop ws p k2 r → SAtom ws d k r)))
      case atStart => exact ⟨.name s, k + 1, none, 0, by go_num, by omega, by omega, by omega, by have := HSZ.out; simp only [Pt.ex, Ex.wt, Ex.wts]; omega, Nat.le_refl _, HB9', .nil, Lib.hid ((H1.out.block _ (by omega)).trans HB6.out), hb0.trans (H1.out.mono (by omega)), Lib.hid (fun r h => .name (by rw [← HS.out]; exact HDE.out) (by rw [← HS.out]; exact HNB.out) (by rw [← HS.out]; exact h))⟩
      case round =>
        obtain ⟨p, k2, A2, c2, rfl, hg, hk1, hk2, hwt, hc2, HBk, HKd, HB6, hBw, HAL⟩ := hrel
        have hszw := hBw.size
        have hlt9 := HBk.out.lt
        have o0 := HBk.out.cell 0
        have o1 := HBk.out.cell 1
        have o2 := HBk.out.cell 2
        have o3 := HBk.out.cell 3
        have of0 := HBk.out.frozen 0
        have of1 := HBk.out.frozen 1
        have of2 := HBk.out.frozen 2
        have of3 := HBk.out.frozen 3
        simp only [List.getElem?_toArray, List.getElem?_cons_zero, List.getElem?_cons_succ] at o0 o1 o2 o3
        have z0 := HB6.out.cell 0
        have z1 := HB6.out.cell 1
        have z2 := HB6.out.cell 2
        have z3 := HB6.out.cell 3
        have zf0 := HB6.out.frozen 0
        have zf1 := HB6.out.frozen 1
        have zf2 := HB6.out.frozen 2
        have zf3 := HB6.out.frozen 3
        simp only [List.getElem?_toArray, List.getElem?_cons_zero, List.getElem?_cons_succ] at z0 z1 z2 z3
        have HCw := Lib.hid (HC.out.below hBw)
        obtain ⟨t, ht⟩ : ∃ t, t = peekL ws k2 := ⟨_, rfl⟩
        have HT := Lib.hid ht
        have HAt := Lib.hid (l4At_any HCw.out (c := c) k2 (by have := HC.out.few; omega))
        rw [← ht] at HAt
        clear ht
        by_cases h1 : t = sAs
        · obtain ⟨t2, ht2⟩ : ∃ t2, t2 = peekL ws (k2 + 1) := ⟨_, rfl⟩
          have HT2 := Lib.hid ht2
          have hlt0 : k2 < ws.length := speek_in (by rw [← HT.out, h1]; decide)
          have HAt2 := Lib.hid (l4At_any HCw.out (c := c) (k2 + 1) (by have := HC.out.few; omega))
          rw [← ht2, show ((k2 + 1 : Nat) : Int) = (k2 : Int) + 1 by omega] at HAt2
          have HTY := Lib.hid (l4Type_any t2 wr)
          have HH1 := Lib.hid h1
          rw [h1] at HAt
          unfold sAs at HAt
          clear h1 ht2
          cases hb : typeB t2
          · rw [hb] at HTY
            have HB := Lib.hid hb
            clear hb
            go_wp2_with fail
            refine HAt.out.mono ?_
            rintro e w1 ⟨rfl, rfl⟩
            go_wp2_with fail
            refine HAt2.out.mono ?_
            rintro e w1 ⟨rfl, rfl⟩
            go_wp2_with fail
            refine HTY.out.mono ?_
            rintro e w1 ⟨rfl, rfl⟩
            have HBN := Lib.hid (blk_set4 (.int .i64 p.ex.kind) (.int .i64 p.ex.n) (.string p.ex.s) (.slice A2 p.ex.kids.length c2) HB6.out)
            go_wp2_with fail
            obtain ⟨wn, hwn⟩ : ∃ wn, wn = (((wr.setCell ⟨w.heap.size, 0, none⟩ (.int .i64 p.ex.kind)).setCell ⟨w.heap.size, 1, none⟩ (.int .i64 p.ex.n)).setCell ⟨w.heap.size, 2, none⟩ (.string p.ex.s)).setCell ⟨w.heap.size, 3, none⟩ (.slice A2 p.ex.kids.length c2) := ⟨_, rfl⟩
            have hBn := HBN.out
            have hsame : ∀ k, k ≠ w.heap.size → wn.heap[k]? = wr.heap[k]? := fun k hk => by rw [hwn]; exact heap_set4 _ _ _ _ _ _ _ hk
            have hzn : wn.heap.size = wr.heap.size := by rw [hwn]; exact size_set4 _ _ _ _ _ _
            have hBl : Below w.heap.size wr wn := ⟨by rw [hwn]; rfl, by rw [hwn]; rfl, by rw [hwn]; rfl, by omega, fun k hk => hsame k (by omega)⟩
            rw [← hwn] at hBn ⊢
            have r0 := hBn.cell 0
            have r1 := hBn.cell 1
            have r2 := hBn.cell 2
            have r3 := hBn.cell 3
            simp only [List.getElem?_toArray, List.getElem?_cons_zero, List.getElem?_cons_succ] at r0 r1 r2 r3
            refine bodyPost_ret (v := .tuple #[.agg #[.int .i64 p.ex.kind, .int .i64 p.ex.n, .string p.ex.s, .slice A2 p.ex.kids.length c2], .int .i64 (-1)]) (by simp [results, Tryz.results117, go_sem, r0, r1, r2, r3]) rfl ?_
            exact .inr ⟨_, _, _, _, _, _, HAL.out _ (.no (by rw [← HT.out, HH1.out]) (by rw [← HT2.out, HB.out])), rfl, hBw.trans hBl⟩
          · rw [hb] at HTY
            have HB := Lib.hid hb
            have hlt2 : k2 + 1 < ws.length := speek_in (by rw [← HT2.out]; intro e; rw [e] at hb; revert hb; decide)
            obtain ⟨g, off, eA, hgA, hcA⟩ := HCw.out.sl.at_ (k := k2 + 1) (by simpa using hlt2)
            rw [List.getElem_map] at hcA
            subst eA
            have HP := Lib.hid ((speek_lt hlt2).symm.trans HT2.out.symm)
            rw [show ws[k2 + 1] = t2 from HP.out] at hcA
            unfold strV at hcA
            have q2 : (0 : Int) ≤ (k2 : Int) + 1 := by omega
            have q3 : (k2 : Int) + 1 < (ws.length : Int) := by omega
            clear hb
            go_wp2_with fail
            refine HAt.out.mono ?_
            rintro e w1 ⟨rfl, rfl⟩
            go_wp2_with fail
            refine HAt2.out.mono ?_
            rintro e w1 ⟨rfl, rfl⟩
            go_wp2_with fail
            refine HTY.out.mono ?_
            rintro e w1 ⟨rfl, rfl⟩
            go_wp2_with fail
            go_region
            have HBH := Lib.hid (behind_drew (behind1 wr (w.heap.size + 1) (.int .i64 4) (.int .i64 0) (.string t2) (.slice (some ⟨wr.heap.size, 0, none⟩) 1 1) (.cells #[.int .i64 p.ex.kind, .int .i64 p.ex.n, .string p.ex.s, .slice A2 p.ex.kids.length c2] 25)))
            have HN9 := Lib.hid (blk1 (.int .i64 4) (.int .i64 0) (.string t2) (.slice (some ⟨wr.heap.size, 0, none⟩) 1 1) (.cells #[.int .i64 p.ex.kind, .int .i64 p.ex.n, .string p.ex.s, .slice A2 p.ex.kids.length c2] 25) HBk.out)
            have HNK := Lib.hid (at1 wr (w.heap.size + 1) (.int .i64 4) (.int .i64 0) (.string t2) (.slice (some ⟨wr.heap.size, 0, none⟩) 1 1) (.cells #[.int .i64 p.ex.kind, .int .i64 p.ex.n, .string p.ex.s, .slice A2 p.ex.kids.length c2] 25))
            have HZN := Lib.hid (show wr.heap.size < (((((wr.setCell ⟨w.heap.size + 1, 0, none⟩ (.int .i64 4)).setCell ⟨w.heap.size + 1, 1, none⟩ (.int .i64 0)).setCell ⟨w.heap.size + 1, 2, none⟩ (.string t2)).setCell ⟨w.heap.size + 1, 3, none⟩ (.slice (some ⟨wr.heap.size, 0, none⟩) 1 1)).alloc (.cells #[.int .i64 p.ex.kind, .int .i64 p.ex.n, .string p.ex.s, .slice A2 p.ex.kids.length c2] 25)).drew.heap.size by simp)
            have hts := Lib.hid (show t2.size ≤ 4 by have := HB.out; simp only [typeB, Bool.or_eq_true, decide_eq_true_eq] at this; rcases this with h | h <;> (rw [h]; decide))
            go_wp2_with fail
            go_roundg (gk - 2)
            case measure => omega
            case rel =>
              obtain ⟨wn, hwn⟩ : ∃ wn, wn = (((((wr.setCell ⟨w.heap.size + 1, 0, none⟩ (.int .i64 4)).setCell ⟨w.heap.size + 1, 1, none⟩ (.int .i64 0)).setCell ⟨w.heap.size + 1, 2, none⟩ (.string t2)).setCell ⟨w.heap.size + 1, 3, none⟩ (.slice (some ⟨wr.heap.size, 0, none⟩) 1 1)).alloc (.cells #[.int .i64 p.ex.kind, .int .i64 p.ex.n, .string p.ex.s, .slice A2 p.ex.kids.length c2] 25)).drew := ⟨_, rfl⟩
              have hN9 : Blk wn (w.heap.size + 1) #[.int .i64 4, .int .i64 0, .string t2, .slice (some ⟨wr.heap.size, 0, none⟩) 1 1] := by rw [hwn]; exact HN9.out
              have hNK : Blk wn wr.heap.size (kidCells p.ex A2 c2).toArray := by rw [hwn]; exact HNK.out
              have hBH : Behind5 (w.heap.size + 1) wr wn := by rw [hwn]; exact HBH.out
              have hzn : wr.heap.size < wn.heap.size := by rw [hwn]; exact HZN.out
              rw [← hwn]
              have hts2 := hts.out
              exact ⟨.as t2 p, k2 + 2, some ⟨wr.heap.size, 0, none⟩, 1, by go_num, by omega, by omega, by omega, by simp only [Pt.ex, Ex.wt, Ex.wts]; omega, Nat.le_refl _, hN9,
                kidsS_one ⟨by omega, hzn⟩ hNK hc2 (HKd.out.keep (fun b h => ⟨h.1, by omega⟩) (fun b h => hBH.1 b h.2 (by omega))), (hBH.1 _ (by omega) (by omega)).trans HB6.out, hBw.trans (below_behind hBH _ (by omega) (by omega)), fun r h => HAL.out r (.more (by rw [← HT.out, HH1.out]) (by rw [← HT2.out, HB.out]) (by rw [← HT2.out]; exact h))⟩
        · have q1 : (t.toList == [97, 115]) = false := by rw [isS]; exact decide_eq_false h1
          have HN := Lib.hid h1
          clear h1
          go_wp2_with fail
          refine HAt.out.mono ?_
          rintro e w1 ⟨rfl, rfl⟩
          have HBN := Lib.hid (blk_set4 (.int .i64 p.ex.kind) (.int .i64 p.ex.n) (.string p.ex.s) (.slice A2 p.ex.kids.length c2) HB6.out)
          go_wp2_with fail
          obtain ⟨wn, hwn⟩ : ∃ wn, wn = (((wr.setCell ⟨w.heap.size, 0, none⟩ (.int .i64 p.ex.kind)).setCell ⟨w.heap.size, 1, none⟩ (.int .i64 p.ex.n)).setCell ⟨w.heap.size, 2, none⟩ (.string p.ex.s)).setCell ⟨w.heap.size, 3, none⟩ (.slice A2 p.ex.kids.length c2) := ⟨_, rfl⟩
          have hBn := HBN.out
          have hsame : ∀ k, k ≠ w.heap.size → wn.heap[k]? = wr.heap[k]? := fun k hk => by rw [hwn]; exact heap_set4 _ _ _ _ _ _ _ hk
          have hzn : wn.heap.size = wr.heap.size := by rw [hwn]; exact size_set4 _ _ _ _ _ _
          have hBl : Below w.heap.size wr wn := ⟨by rw [hwn]; rfl, by rw [hwn]; rfl, by rw [hwn]; rfl, by omega, fun k hk => hsame k (by omega)⟩
          rw [← hwn] at hBn ⊢
          have r0 := hBn.cell 0
          have r1 := hBn.cell 1
          have r2 := hBn.cell 2
          have r3 := hBn.cell 3
          simp only [List.getElem?_toArray, List.getElem?_cons_zero, List.getElem?_cons_succ] at r0 r1 r2 r3
          refine bodyPost_ret (v := .tuple #[.agg #[.int .i64 p.ex.kind, .int .i64 p.ex.n, .string p.ex.s, .slice A2 p.ex.kids.length c2], .int .i64 (k2 : Int)]) (by simp [results, Tryz.results117, go_sem, r0, r1, r2, r3]) rfl ?_
          exact .inl ⟨p, k2, A2, c2, HAL.out _ (.stop (by rw [← HT.out]; exact HN.out)), rfl, hc2, HKd.out.keep (fun b h => ⟨by omega, by omega⟩) (fun b h => hsame b (by omega)), hBw.trans hBl, hk1, hk2, hwt⟩
    case false =>
      rw [hna] at HNA
      have HNB := Lib.hid hna
      clear hna
      by_cases hlp : s = sLp
      case neg =>
        have q5 : (s.toList == [40]) = false := by rw [isS]; exact decide_eq_false hlp
        have HLP := Lib.hid hlp
        clear hlp
        have HBN := Lib.hid (blk_set4 (.int .i64 0) (.int .i64 0) (.string { data := #[] }) (.slice none 0 0) HB6.out)
        have z0 := HB6.out.cell 0
        have z1 := HB6.out.cell 1
        have z2 := HB6.out.cell 2
        have z3 := HB6.out.cell 3
        have zf0 := HB6.out.frozen 0
        have zf1 := HB6.out.frozen 1
        have zf2 := HB6.out.frozen 2
        have zf3 := HB6.out.frozen 3
        simp only [List.getElem?_toArray, List.getElem?_cons_zero, List.getElem?_cons_succ] at z0 z1 z2 z3
        go_enter Tryz.func117, Tryz.ntmps117
        go_wp2_with fail
        refine HAt0.out.mono ?_
        rintro e w1 ⟨rfl, rfl⟩
        go_wp2_with fail
        rw [← hW0]
        clear hW0 HAt0
        refine HNU.out.mono ?_
        rintro e w1 ⟨rfl, rfl⟩
        go_wp2_with fail
        refine HNA.out.mono ?_
        rintro e w1 ⟨rfl, rfl⟩
        go_wp2_with fail
        obtain ⟨wn, hwn⟩ : ∃ wn, wn = (((W0.setCell ⟨w.heap.size, 0, none⟩ (.int .i64 0)).setCell ⟨w.heap.size, 1, none⟩ (.int .i64 0)).setCell ⟨w.heap.size, 2, none⟩ (.string { data := #[] })).setCell ⟨w.heap.size, 3, none⟩ (.slice none 0 0) := ⟨_, rfl⟩
        have hBn := HBN.out
        have hsame : ∀ k, k ≠ w.heap.size → wn.heap[k]? = W0.heap[k]? := fun k hk => by rw [hwn]; exact heap_set4 _ _ _ _ _ _ _ hk
        have hzn : wn.heap.size = W0.heap.size := by rw [hwn]; exact size_set4 _ _ _ _ _ _
        have hBl : Below w.heap.size W0 wn := ⟨by rw [hwn]; rfl, by rw [hwn]; rfl, by rw [hwn]; rfl, by omega, fun k hk => hsame k (by omega)⟩
        rw [← hwn] at hBn ⊢
        have r0 := hBn.cell 0
        have r1 := hBn.cell 1
        have r2 := hBn.cell 2
        have r3 := hBn.cell 3
        simp only [List.getElem?_toArray, List.getElem?_cons_zero, List.getElem?_cons_succ] at r0 r1 r2 r3
        refine bodyPost_ret (v := .tuple #[.agg #[.int .i64 0, .int .i64 0, .string { data := #[] }, .slice none 0 0], .int .i64 (-1)]) (by simp [results, Tryz.results117, go_sem, r0, r1, r2, r3]) rfl ?_
        exact .inr ⟨_, _, _, _, _, _, .no (by rw [← HS.out]; exact HDE.out) (by rw [← HS.out]; exact HNB.out) (.inl (by rw [← HS.out]; exact HLP.out)), rfl, hb0.trans hBl⟩
      have HLP := Lib.hid hlp
      have hlt : k < ws.length := speek_in (by rw [← HS.out, hlp]; decide)
      subst hlp
      unfold sLp at HNU HNA HAt0
      cases d with
      | zero =>
        have HBN := Lib.hid (blk_set4 (.int .i64 0) (.int .i64 0) (.string { data := #[] }) (.slice none 0 0) HB6.out)
        have z0 := HB6.out.cell 0
        have z1 := HB6.out.cell 1
        have z2 := HB6.out.cell 2
        have z3 := HB6.out.cell 3
        have zf0 := HB6.out.frozen 0
        have zf1 := HB6.out.frozen 1
        have zf2 := HB6.out.frozen 2
        have zf3 := HB6.out.frozen 3
        simp only [List.getElem?_toArray, List.getElem?_cons_zero, List.getElem?_cons_succ] at z0 z1 z2 z3
        go_enter Tryz.func117, Tryz.ntmps117
        go_wp2_with fail
        refine HAt0.out.mono ?_
        rintro e w1 ⟨rfl, rfl⟩
        go_wp2_with fail
        rw [← hW0]
        clear hW0 HAt0
        refine HNU.out.mono ?_
        rintro e w1 ⟨rfl, rfl⟩
        go_wp2_with fail
        refine HNA.out.mono ?_
        rintro e w1 ⟨rfl, rfl⟩
        go_wp2_with fail
        obtain ⟨wn, hwn⟩ : ∃ wn, wn = (((W0.setCell ⟨w.heap.size, 0, none⟩ (.int .i64 0)).setCell ⟨w.heap.size, 1, none⟩ (.int .i64 0)).setCell ⟨w.heap.size, 2, none⟩ (.string { data := #[] })).setCell ⟨w.heap.size, 3, none⟩ (.slice none 0 0) := ⟨_, rfl⟩
        have hBn := HBN.out
        have hsame : ∀ k, k ≠ w.heap.size → wn.heap[k]? = W0.heap[k]? := fun k hk => by rw [hwn]; exact heap_set4 _ _ _ _ _ _ _ hk
        have hzn : wn.heap.size = W0.heap.size := by rw [hwn]; exact size_set4 _ _ _ _ _ _
        have hBl : Below w.heap.size W0 wn := ⟨by rw [hwn]; rfl, by rw [hwn]; rfl, by rw [hwn]; rfl, by omega, fun k hk => hsame k (by omega)⟩
        rw [← hwn] at hBn ⊢
        have r0 := hBn.cell 0
        have r1 := hBn.cell 1
        have r2 := hBn.cell 2
        have r3 := hBn.cell 3
        simp only [List.getElem?_toArray, List.getElem?_cons_zero, List.getElem?_cons_succ] at r0 r1 r2 r3
        refine bodyPost_ret (v := .tuple #[.agg #[.int .i64 0, .int .i64 0, .string { data := #[] }, .slice none 0 0], .int .i64 (-1)]) (by simp [results, Tryz.results117, go_sem, r0, r1, r2, r3]) rfl ?_
        exact .inr ⟨_, _, _, _, _, _, .no (by rw [← HS.out]; exact HDE.out) (by rw [← HS.out]; exact HNB.out) (.inr rfl), rfl, hb0.trans hBl⟩
      | succ d' =>
        have qd : decide ((0 : Int) < ((d' + 1 : Nat) : Int)) = true := decide_eq_true (by omega)
        have HL1 := Lib.hid (HI.out d' rfl (k + 1) W0 (by omega) (HC.out.below hb0))
        rw [show ((k + 1 : Nat) : Int) = (k : Int) + 1 by omega] at HL1
        go_enter Tryz.func117, Tryz.ntmps117
        go_wp2_with fail
        refine HAt0.out.mono ?_
        rintro e w1 ⟨rfl, rfl⟩
        go_wp2_with fail
        rw [← hW0]
        clear hW0 HAt0
        refine HNU.out.mono ?_
        rintro e w1 ⟨rfl, rfl⟩
        go_wp2_with fail
        refine HNA.out.mono ?_
        rintro e w1 ⟨rfl, rfl⟩
        go_wp2_with fail
        refine HL1.out.mono ?_
        rintro e w1 (⟨p, k1, A1, c1, hr, rfl, hc1, hK1, hb1, hk1, hk2, hwt⟩ | ⟨a, b, s', A', n', c', hr, rfl, hb1⟩)
        · have HR := Lib.hid hr
          have HK1 := Lib.hid hK1
          have hz1 := hb1.size
          obtain ⟨X, hX⟩ : ∃ X, X = w1.alloc (.cells #[.int .i64 p.ex.kind, .int .i64 p.ex.n, .string p.ex.s, .slice A1 p.ex.kids.length c1] 25) := ⟨_, rfl⟩
          have hbX1 : Below w1.heap.size w1 X := by rw [hX]; exact (Below.refl _ _).alloc (Nat.le_refl _) _
          have hbX0 : Below W0.heap.size W0 X := hb1.trans (hbX1.mono hz1)
          have hbX : Below w.heap.size w X := hb0.trans (hbX0.mono hb0.size)
          have hzX : X.heap.size = w1.heap.size + 1 := by rw [hX]; simp
          have HX13 := Lib.hid (show Blk X w1.heap.size #[.int .i64 p.ex.kind, .int .i64 p.ex.n, .string p.ex.s, .slice A1 p.ex.kids.length c1] by rw [hX]; exact World.alloc_heap_new w1 _)
          have HX9 := Lib.hid (show Blk X (w.heap.size + 1) _ from (hbX0.block _ (by omega)).trans HB9.out)
          have HX6 := Lib.hid (show Blk X w.heap.size _ from (hbX0.block _ (by omega)).trans HB6.out)
          have hX13 := Lib.hid hzX
          clear hzX
          obtain ⟨t, ht⟩ : ∃ t, t = peekL ws k1 := ⟨_, rfl⟩
          have HT := Lib.hid ht
          have HAt := Lib.hid (l4At_any (HC.out.below hbX) (c := c) k1 (by omega))
          rw [← ht] at HAt
          have HBX1 := Lib.hid hbX1
          have HBX := Lib.hid hbX
          have HBX0 := Lib.hid hbX0
          clear ht hr hK1 hbX1 hbX hbX0 HL1 x0 x1 x2 x3 xf0 xf1 xf2 xf3
          have y0 := HX13.out.cell 0
          have y1 := HX13.out.cell 1
          have y2 := HX13.out.cell 2
          have y3 := HX13.out.cell 3
          have yf0 := HX13.out.frozen 0
          have yf1 := HX13.out.frozen 1
          have yf2 := HX13.out.frozen 2
          have yf3 := HX13.out.frozen 3
          simp only [List.getElem?_toArray, List.getElem?_cons_zero, List.getElem?_cons_succ] at y0 y1 y2 y3
          have x0 := HX9.out.cell 0
          have x1 := HX9.out.cell 1
          have x2 := HX9.out.cell 2
          have x3 := HX9.out.cell 3
          have xf0 := HX9.out.frozen 0
          have xf1 := HX9.out.frozen 1
          have xf2 := HX9.out.frozen 2
          have xf3 := HX9.out.frozen 3
          simp only [List.getElem?_toArray, List.getElem?_cons_zero, List.getElem?_cons_succ] at x0 x1 x2 x3
          have z0 := HX6.out.cell 0
          have z1 := HX6.out.cell 1
          have z2 := HX6.out.cell 2
          have z3 := HX6.out.cell 3
          have zf0 := HX6.out.frozen 0
          have zf1 := HX6.out.frozen 1
          have zf2 := HX6.out.frozen 2
          have zf3 := HX6.out.frozen 3
          simp only [List.getElem?_toArray, List.getElem?_cons_zero, List.getElem?_cons_succ] at z0 z1 z2 z3
          by_cases h2 : t = sRp
          · have HH2 := Lib.hid h2
            rw [h2] at HAt
            unfold sRp at HAt
            have hlt1 : k1 < ws.length := speek_in (by rw [← HT.out, h2]; decide)
            clear h2
            go_wp2_with fail
            rw [← hX]
            clear hX
            refine HAt.out.mono ?_
            rintro e w2 ⟨rfl, rfl⟩
            have HB9' := Lib.hid (blk_set4 (.int .i64 p.ex.kind) (.int .i64 p.ex.n) (.string p.ex.s) (.slice A1 p.ex.kids.length c1) HX9.out)
            have hsame1 := heap_set4 X (w.heap.size + 1) (.int .i64 p.ex.kind) (.int .i64 p.ex.n) (.string p.ex.s) (.slice A1 p.ex.kids.length c1)
            have hsz1 := size_set4 X (w.heap.size + 1) (.int .i64 p.ex.kind) (.int .i64 p.ex.n) (.string p.ex.s) (.slice A1 p.ex.kids.length c1)
            have hbl1 : Below (w.heap.size + 1) X ((((X.setCell ⟨w.heap.size + 1, 0, none⟩ (.int .i64 p.ex.kind)).setCell ⟨w.heap.size + 1, 1, none⟩ (.int .i64 p.ex.n)).setCell ⟨w.heap.size + 1, 2, none⟩ (.string p.ex.s)).setCell ⟨w.heap.size + 1, 3, none⟩ (.slice A1 p.ex.kids.length c1)) := ⟨rfl, rfl, rfl, Nat.le_of_eq hsz1.symm, fun b hb => hsame1 b (by omega)⟩
            have H1 := Lib.hid hbl1
            have HSM := Lib.hid hsame1
            have HSZ := Lib.hid hsz1
            clear hbl1 hsame1 hsz1
            go_wp2_with fail
            go_loopg [10] (ws.length - k1) (fun gk i wr => (∃ p k2 A2 c2, i = .int .i64 ((k2 : Nat) : Int) ∧ k2 + gk = ws.length + 1 ∧ k < k2 ∧ k2 ≤ ws.length ∧ p.ex.wt + 9 * k ≤ 9 * k2 ∧ p.ex.kids.length ≤ c2 ∧ Hid (Blk wr (w.heap.size + 1) #[.int .i64 p.ex.kind, .int .i64 p.ex.n, .string p.ex.s, .slice A2 p.ex.kids.length c2]) ∧ Hid (KidsS wr (fun b => w.heap.size + 2 ≤ b ∧ b < wr.heap.size) A2 p.ex.kids) ∧ Hid (Blk wr w.heap.size #[.int .i64 0, .int .i64 0, .string { data := #[] }, .slice none 0 0]) ∧ Below w.heap.size w wr ∧ Hid (∀ r, SALoop ws p k2 r → SAtom ws (d' + 1) k r)))
            case atStart => exact ⟨p, k1 + 1, A1, c1, by go_num, by omega, by omega, by omega, by omega, hc1, HB9', Lib.hid (HK1.out.keep (fun b h => ⟨by omega, by have := hX13.out; have := HSZ.out; omega⟩) (fun b h => (HSM.out b (by omega)).trans (HBX1.out.block b h.2))), Lib.hid ((H1.out.block _ (by omega)).trans HX6.out), HBX.out.trans (H1.out.mono (by omega)), Lib.hid (fun r h => .inOk (by rw [← HS.out]; exact HDE.out) (by rw [← HS.out]; exact HNB.out) (HS.out.symm) HR.out (HT.out.symm.trans HH2.out) h)⟩
            case round =>
              obtain ⟨p, k2, A2, c2, rfl, hg, hk1, hk2, hwt, hc2, HBk, HKd, HB6, hBw, HAL⟩ := hrel
              have hszw := hBw.size
              have hlt9 := HBk.out.lt
              have o0 := HBk.out.cell 0
              have o1 := HBk.out.cell 1
              have o2 := HBk.out.cell 2
              have o3 := HBk.out.cell 3
              have of0 := HBk.out.frozen 0
              have of1 := HBk.out.frozen 1
              have of2 := HBk.out.frozen 2
              have of3 := HBk.out.frozen 3
              simp only [List.getElem?_toArray, List.getElem?_cons_zero, List.getElem?_cons_succ] at o0 o1 o2 o3
              have z0 := HB6.out.cell 0
              have z1 := HB6.out.cell 1
              have z2 := HB6.out.cell 2
              have z3 := HB6.out.cell 3
              have zf0 := HB6.out.frozen 0
              have zf1 := HB6.out.frozen 1
              have zf2 := HB6.out.frozen 2
              have zf3 := HB6.out.frozen 3
              simp only [List.getElem?_toArray, List.getElem?_cons_zero, List.getElem?_cons_succ] at z0 z1 z2 z3
              have HCw := Lib.hid (HC.out.below hBw)
              obtain ⟨t, ht⟩ : ∃ t, t = peekL ws k2 := ⟨_, rfl⟩
              have HT := Lib.hid ht
              have HAt := Lib.hid (l4At_any HCw.out (c := c) k2 (by have := HC.out.few; omega))
              rw [← ht] at HAt
              clear ht
              by_cases h1 : t = sAs
              · obtain ⟨t2, ht2⟩ : ∃ t2, t2 = peekL ws (k2 + 1) := ⟨_, rfl⟩
                have HT2 := Lib.hid ht2
                have hlt0 : k2 < ws.length := speek_in (by rw [← HT.out, h1]; decide)
                have HAt2 := Lib.hid (l4At_any HCw.out (c := c) (k2 + 1) (by have := HC.out.few; omega))
                rw [← ht2, show ((k2 + 1 : Nat) : Int) = (k2 : Int) + 1 by omega] at HAt2
                have HTY := Lib.hid (l4Type_any t2 wr)
                have HH1 := Lib.hid h1
                rw [h1] at HAt
                unfold sAs at HAt
                clear h1 ht2
                cases hb : typeB t2
                · rw [hb] at HTY
                  have HB := Lib.hid hb
                  clear hb
                  go_wp2_with fail
                  refine HAt.out.mono ?_
                  rintro e w1 ⟨rfl, rfl⟩
                  go_wp2_with fail
                  refine HAt2.out.mono ?_
                  rintro e w1 ⟨rfl, rfl⟩
                  go_wp2_with fail
                  refine HTY.out.mono ?_
                  rintro e w1 ⟨rfl, rfl⟩
                  have HBN := Lib.hid (blk_set4 (.int .i64 p.ex.kind) (.int .i64 p.ex.n) (.string p.ex.s) (.slice A2 p.ex.kids.length c2) HB6.out)
                  go_wp2_with fail
                  obtain ⟨wn, hwn⟩ : ∃ wn, wn = (((wr.setCell ⟨w.heap.size, 0, none⟩ (.int .i64 p.ex.kind)).setCell ⟨w.heap.size, 1, none⟩ (.int .i64 p.ex.n)).setCell ⟨w.heap.size, 2, none⟩ (.string p.ex.s)).setCell ⟨w.heap.size, 3, none⟩ (.slice A2 p.ex.kids.length c2) := ⟨_, rfl⟩
                  have hBn := HBN.out
                  have hsame : ∀ k, k ≠ w.heap.size → wn.heap[k]? = wr.heap[k]? := fun k hk => by rw [hwn]; exact heap_set4 _ _ _ _ _ _ _ hk
                  have hzn : wn.heap.size = wr.heap.size := by rw [hwn]; exact size_set4 _ _ _ _ _ _
                  have hBl : Below w.heap.size wr wn := ⟨by rw [hwn]; rfl, by rw [hwn]; rfl, by rw [hwn]; rfl, by omega, fun k hk => hsame k (by omega)⟩
                  rw [← hwn] at hBn ⊢
                  have r0 := hBn.cell 0
                  have r1 := hBn.cell 1
                  have r2 := hBn.cell 2
                  have r3 := hBn.cell 3
                  simp only [List.getElem?_toArray, List.getElem?_cons_zero, List.getElem?_cons_succ] at r0 r1 r2 r3
                  refine bodyPost_ret (v := .tuple #[.agg #[.int .i64 p.ex.kind, .int .i64 p.ex.n, .string p.ex.s, .slice A2 p.ex.kids.length c2], .int .i64 (-1)]) (by simp [results, Tryz.results117, go_sem, r0, r1, r2, r3]) rfl ?_
                  exact .inr ⟨_, _, _, _, _, _, HAL.out _ (.no (by rw [← HT.out, HH1.out]) (by rw [← HT2.out, HB.out])), rfl, hBw.trans hBl⟩
                · rw [hb] at HTY
                  have HB := Lib.hid hb
                  have hlt2 : k2 + 1 < ws.length := speek_in (by rw [← HT2.out]; intro e; rw [e] at hb; revert hb; decide)
                  obtain ⟨g, off, eA, hgA, hcA⟩ := HCw.out.sl.at_ (k := k2 + 1) (by simpa using hlt2)
                  rw [List.getElem_map] at hcA
                  subst eA
                  have HP := Lib.hid ((speek_lt hlt2).symm.trans HT2.out.symm)
                  rw [show ws[k2 + 1] = t2 from HP.out] at hcA
                  unfold strV at hcA
                  have q2 : (0 : Int) ≤ (k2 : Int) + 1 := by omega
                  have q3 : (k2 : Int) + 1 < (ws.length : Int) := by omega
                  clear hb
                  go_wp2_with fail
                  refine HAt.out.mono ?_
                  rintro e w1 ⟨rfl, rfl⟩
                  go_wp2_with fail
                  refine HAt2.out.mono ?_
                  rintro e w1 ⟨rfl, rfl⟩
                  go_wp2_with fail
                  refine HTY.out.mono ?_
                  rintro e w1 ⟨rfl, rfl⟩
                  go_wp2_with fail
                  go_region
                  have HBH := Lib.hid (behind_drew (behind1 wr (w.heap.size + 1) (.int .i64 4) (.int .i64 0) (.string t2) (.slice (some ⟨wr.heap.size, 0, none⟩) 1 1) (.cells #[.int .i64 p.ex.kind, .int .i64 p.ex.n, .string p.ex.s, .slice A2 p.ex.kids.length c2] 25)))
                  have HN9 := Lib.hid (blk1 (.int .i64 4) (.int .i64 0) (.string t2) (.slice (some ⟨wr.heap.size, 0, none⟩) 1 1) (.cells #[.int .i64 p.ex.kind, .int .i64 p.ex.n, .string p.ex.s, .slice A2 p.ex.kids.length c2] 25) HBk.out)
                  have HNK := Lib.hid (at1 wr (w.heap.size + 1) (.int .i64 4) (.int .i64 0) (.string t2) (.slice (some ⟨wr.heap.size, 0, none⟩) 1 1) (.cells #[.int .i64 p.ex.kind, .int .i64 p.ex.n, .string p.ex.s, .slice A2 p.ex.kids.length c2] 25))
                  have HZN := Lib.hid (show wr.heap.size < (((((wr.setCell ⟨w.heap.size + 1, 0, none⟩ (.int .i64 4)).setCell ⟨w.heap.size + 1, 1, none⟩ (.int .i64 0)).setCell ⟨w.heap.size + 1, 2, none⟩ (.string t2)).setCell ⟨w.heap.size + 1, 3, none⟩ (.slice (some ⟨wr.heap.size, 0, none⟩) 1 1)).alloc (.cells #[.int .i64 p.ex.kind, .int .i64 p.ex.n, .string p.ex.s, .slice A2 p.ex.kids.length c2] 25)).drew.heap.size by simp)
                  have hts := Lib.hid (show t2.size ≤ 4 by have := HB.out; simp only [typeB, Bool.or_eq_true, decide_eq_true_eq] at this; rcases this with h | h <;> (rw [h]; decide))
                  go_wp2_with fail
                  go_roundg (gk - 2)
                  case measure => omega
                  case rel =>
                    obtain ⟨wn, hwn⟩ : ∃ wn, wn = (((((wr.setCell ⟨w.heap.size + 1, 0, none⟩ (.int .i64 4)).setCell ⟨w.heap.size + 1, 1, none⟩ (.int .i64 0)).setCell ⟨w.heap.size + 1, 2, none⟩ (.string t2)).setCell ⟨w.heap.size + 1, 3, none⟩ (.slice (some ⟨wr.heap.size, 0, none⟩) 1 1)).alloc (.cells #[.int .i64 p.ex.kind, .int .i64 p.ex.n, .string p.ex.s, .slice A2 p.ex.kids.length c2] 25)).drew := ⟨_, rfl⟩
                    have hN9 : Blk wn (w.heap.size + 1) #[.int .i64 4, .int .i64 0, .string t2, .slice (some ⟨wr.heap.size, 0, none⟩) 1 1] := by rw [hwn]; exact HN9.out
                    have hNK : Blk wn wr.heap.size (kidCells p.ex A2 c2).toArray := by rw [hwn]; exact HNK.out
                    have hBH : Behind5 (w.heap.size + 1) wr wn := by rw [hwn]; exact HBH.out
                    have hzn : wr.heap.size < wn.heap.size := by rw [hwn]; exact HZN.out
                    rw [← hwn]
                    have hts2 := hts.out
                    exact ⟨.as t2 p, k2 + 2, some ⟨wr.heap.size, 0, none⟩, 1, by go_num, by omega, by omega, by omega, by simp only [Pt.ex, Ex.wt, Ex.wts]; omega, Nat.le_refl _, hN9,
                      kidsS_one ⟨by omega, hzn⟩ hNK hc2 (HKd.out.keep (fun b h => ⟨h.1, by omega⟩) (fun b h => hBH.1 b h.2 (by omega))), (hBH.1 _ (by omega) (by omega)).trans HB6.out, hBw.trans (below_behind hBH _ (by omega) (by omega)), fun r h => HAL.out r (.more (by rw [← HT.out, HH1.out]) (by rw [← HT2.out, HB.out]) (by rw [← HT2.out]; exact h))⟩
              · have q1 : (t.toList == [97, 115]) = false := by rw [isS]; exact decide_eq_false h1
                have HN := Lib.hid h1
                clear h1
                go_wp2_with fail
                refine HAt.out.mono ?_
                rintro e w1 ⟨rfl, rfl⟩
                have HBN := Lib.hid (blk_set4 (.int .i64 p.ex.kind) (.int .i64 p.ex.n) (.string p.ex.s) (.slice A2 p.ex.kids.length c2) HB6.out)
                go_wp2_with fail
                obtain ⟨wn, hwn⟩ : ∃ wn, wn = (((wr.setCell ⟨w.heap.size, 0, none⟩ (.int .i64 p.ex.kind)).setCell ⟨w.heap.size, 1, none⟩ (.int .i64 p.ex.n)).setCell ⟨w.heap.size, 2, none⟩ (.string p.ex.s)).setCell ⟨w.heap.size, 3, none⟩ (.slice A2 p.ex.kids.length c2) := ⟨_, rfl⟩
                have hBn := HBN.out
                have hsame : ∀ k, k ≠ w.heap.size → wn.heap[k]? = wr.heap[k]? := fun k hk => by rw [hwn]; exact heap_set4 _ _ _ _ _ _ _ hk
                have hzn : wn.heap.size = wr.heap.size := by rw [hwn]; exact size_set4 _ _ _ _ _ _
                have hBl : Below w.heap.size wr wn := ⟨by rw [hwn]; rfl, by rw [hwn]; rfl, by rw [hwn]; rfl, by omega, fun k hk => hsame k (by omega)⟩
                rw [← hwn] at hBn ⊢
                have r0 := hBn.cell 0
                have r1 := hBn.cell 1
                have r2 := hBn.cell 2
                have r3 := hBn.cell 3
                simp only [List.getElem?_toArray, List.getElem?_cons_zero, List.getElem?_cons_succ] at r0 r1 r2 r3
                refine bodyPost_ret (v := .tuple #[.agg #[.int .i64 p.ex.kind, .int .i64 p.ex.n, .string p.ex.s, .slice A2 p.ex.kids.length c2], .int .i64 (k2 : Int)]) (by simp [results, Tryz.results117, go_sem, r0, r1, r2, r3]) rfl ?_
                exact .inl ⟨p, k2, A2, c2, HAL.out _ (.stop (by rw [← HT.out]; exact HN.out)), rfl, hc2, HKd.out.keep (fun b h => ⟨by omega, by omega⟩) (fun b h => hsame b (by omega)), hBw.trans hBl, hk1, hk2, hwt⟩
          · have q6 : (!t.toList == [41]) = true := by rw [isS]; simp; exact h2
            have HH2 := Lib.hid h2
            have HBN := Lib.hid (blk_set4 (.int .i64 p.ex.kind) (.int .i64 p.ex.n) (.string p.ex.s) (.slice A1 p.ex.kids.length c1) HX6.out)
            clear h2
            go_wp2_with fail
            rw [← hX]
            clear hX
            refine HAt.out.mono ?_
            rintro e w2 ⟨rfl, rfl⟩
            go_wp2_with fail
            obtain ⟨wn, hwn⟩ : ∃ wn, wn = (((X.setCell ⟨w.heap.size, 0, none⟩ (.int .i64 p.ex.kind)).setCell ⟨w.heap.size, 1, none⟩ (.int .i64 p.ex.n)).setCell ⟨w.heap.size, 2, none⟩ (.string p.ex.s)).setCell ⟨w.heap.size, 3, none⟩ (.slice A1 p.ex.kids.length c1) := ⟨_, rfl⟩
            have hBn := HBN.out
            have hsame : ∀ k, k ≠ w.heap.size → wn.heap[k]? = X.heap[k]? := fun k hk => by rw [hwn]; exact heap_set4 _ _ _ _ _ _ _ hk
            have hzn : wn.heap.size = X.heap.size := by rw [hwn]; exact size_set4 _ _ _ _ _ _
            have hBl : Below w.heap.size X wn := ⟨by rw [hwn]; rfl, by rw [hwn]; rfl, by rw [hwn]; rfl, by omega, fun k hk => hsame k (by omega)⟩
            rw [← hwn] at hBn ⊢
            have r0 := hBn.cell 0
            have r1 := hBn.cell 1
            have r2 := hBn.cell 2
            have r3 := hBn.cell 3
            simp only [List.getElem?_toArray, List.getElem?_cons_zero, List.getElem?_cons_succ] at r0 r1 r2 r3
            refine bodyPost_ret (v := .tuple #[.agg #[.int .i64 p.ex.kind, .int .i64 p.ex.n, .string p.ex.s, .slice A1 p.ex.kids.length c1], .int .i64 (-1)]) (by simp [results, Tryz.results117, go_sem, r0, r1, r2, r3]) rfl ?_
            exact .inr ⟨_, _, _, _, _, _, .inBad (by rw [← HS.out]; exact HDE.out) (by rw [← HS.out]; exact HNB.out) (HS.out.symm) HR.out (by rw [← HT.out]; exact HH2.out), rfl, HBX.out.trans hBl⟩
        · have HR := Lib.hid hr
          have hz1 := hb1.size
          obtain ⟨X, hX⟩ : ∃ X, X = w1.alloc (.cells #[.int .i64 a, .int .i64 b, .string s', .slice A' n' c'] 25) := ⟨_, rfl⟩
          have hbX1 : Below w1.heap.size w1 X := by rw [hX]; exact (Below.refl _ _).alloc (Nat.le_refl _) _
          have hbX0 : Below W0.heap.size W0 X := hb1.trans (hbX1.mono hz1)
          have HX6 := Lib.hid (show Blk X w.heap.size _ from (hbX0.block _ (by omega)).trans HB6.out)
          have HBX := Lib.hid (show Below w.heap.size w X from hb0.trans (hbX0.mono hb0.size))
          have z0 := HX6.out.cell 0
          have z1 := HX6.out.cell 1
          have z2 := HX6.out.cell 2
          have z3 := HX6.out.cell 3
          have zf0 := HX6.out.frozen 0
          have zf1 := HX6.out.frozen 1
          have zf2 := HX6.out.frozen 2
          have zf3 := HX6.out.frozen 3
          simp only [List.getElem?_toArray, List.getElem?_cons_zero, List.getElem?_cons_succ] at z0 z1 z2 z3
          rw [hX] at z0 z1 z2 z3 zf0 zf1 zf2 zf3
          have HBN := Lib.hid (blk_set4 (.int .i64 a) (.int .i64 b) (.string s') (.slice A' n' c') HX6.out)
          clear hr hbX1 hbX0 HL1 x0 x1 x2 x3 xf0 xf1 xf2 xf3
          go_wp2_with fail
          rw [← hX]
          obtain ⟨wn, hwn⟩ : ∃ wn, wn = (((X.setCell ⟨w.heap.size, 0, none⟩ (.int .i64 a)).setCell ⟨w.heap.size, 1, none⟩ (.int .i64 b)).setCell ⟨w.heap.size, 2, none⟩ (.string s')).setCell ⟨w.heap.size, 3, none⟩ (.slice A' n' c') := ⟨_, rfl⟩
          have hBn := HBN.out
          have hsame : ∀ k, k ≠ w.heap.size → wn.heap[k]? = X.heap[k]? := fun k hk => by rw [hwn]; exact heap_set4 _ _ _ _ _ _ _ hk
          have hzn : wn.heap.size = X.heap.size := by rw [hwn]; exact size_set4 _ _ _ _ _ _
          have hBl : Below w.heap.size X wn := ⟨by rw [hwn]; rfl, by rw [hwn]; rfl, by rw [hwn]; rfl, by omega, fun k hk => hsame k (by omega)⟩
          rw [← hwn] at hBn ⊢
          have r0 := hBn.cell 0
          have r1 := hBn.cell 1
          have r2 := hBn.cell 2
          have r3 := hBn.cell 3
          simp only [List.getElem?_toArray, List.getElem?_cons_zero, List.getElem?_cons_succ] at r0 r1 r2 r3
          refine bodyPost_ret (v := .tuple #[.agg #[.int .i64 a, .int .i64 b, .string s', .slice A' n' c'], .int .i64 (-1)]) (by simp [results, Tryz.results117, go_sem, r0, r1, r2, r3]) rfl ?_
          exact .inr ⟨_, _, _, _, _, _, .inNo (by rw [← HS.out]; exact HDE.out) (by rw [← HS.out]; exact HNB.out) (HS.out.symm) HR.out, rfl, HBX.out.trans hBl⟩
end Go.Proofs.YtodioplkgjpcjaaGreatDoor
