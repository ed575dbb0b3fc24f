/-
  The contract of the program's ExprRead, for all words.
-/
import Derived.Test.YtodioplkgjpcjaaGreatDoorImplRead
import Derived.Test.YtodioplkgjpcjaaGreatDoorExprWords
import Derived.Test.YtodioplkgjpcjaaGreatDoorMethExpr
import Derived.Test.YtodioplkgjpcjaaGreatDoorGD
namespace Go.Proofs.YtodioplkgjpcjaaGreatDoor
open Go.RowKit

set_option maxRecDepth 100000 in
set_option maxHeartbeats 2000000 in
theorem equalS_any (A A' : Option Addr) (c c' : Nat) (xs ys : List ByteArray) (w : World) (hx : SlIs w A (xs.map strV)) (hy : SlIs w A' (ys.map strV)) (hl : xs.length ≤ 2 ^ 40) :
    Calls Tryz.prog 47 #[.slice A xs.length c, .slice A' ys.length c'] w fun e w' => e = .returned (.bool (decide (xs = ys))) ∧ Below w.heap.size w w' := by
  by_cases h4 : xs.length = ys.length
  case neg =>
    have q4 : ((xs.length : Int) != (ys.length : Int)) = true := by rw [bne_iff_ne]; omega
    have H4 := Lib.hid h4
    clear h4 hx hy
    go_enter Tryz.func47, Tryz.ntmps47
    go_wp2_with fail
    go_ret
    exact ⟨ret_bool (decide_eq_false (fun e => H4.out (by rw [e]))).symm, Below.refl _ _⟩
  have q4 : ((xs.length : Int) != (ys.length : Int)) = false := by rw [bne_eq_false_iff_eq]; omega
  have hl1 : xs.length ≤ ys.length := by omega
  have hl2 : ys.length ≤ xs.length := by omega
  have HX := Lib.hid hx
  have HY := Lib.hid hy
  clear h4 hx hy
  go_enter Tryz.func47, Tryz.ntmps47
  go_wp2_with fail
  go_loopg [13] xs.length (fun gk i wr => ∃ j : Nat, j + gk = xs.length ∧ i = .int .i64 (j : Int) ∧ Hid (xs.take j = ys.take j) ∧ Below w.heap.size w wr)
  case atStart => exact ⟨0, by omega, rfl, by simp [Hid], Below.refl _ _⟩
  case round =>
    obtain ⟨j, hj, rfl, HTK, hBw⟩ := hrel
    by_cases hlt : j < xs.length
    · have hlt' : j < ys.length := by omega
      obtain ⟨g, off, eA, hg, hc⟩ := (HX.out.below hBw).at_ (k := j) (by simpa using hlt)
      obtain ⟨g', off', eA', hg', hc'⟩ := (HY.out.below hBw).at_ (k := j) (by simpa using hlt')
      rw [List.getElem_map] at hc hc'
      subst eA eA'
      have HT1 := Lib.hid (List.take_succ_eq_append_getElem hlt)
      have HT2 := Lib.hid (List.take_succ_eq_append_getElem hlt')
      have HG := Lib.hid (show xs = ys → xs[j] = ys[j] from fun e => by subst e; rfl)
      unfold strV at hc hc'
      generalize xs[j] = s at *
      generalize ys[j] = t at *
      have q1 : (0 : Int) ≤ (j : Int) := by omega
      have q2 : (j : Int) < (xs.length : Int) := by omega
      have q3 : (j : Int) < (ys.length : Int) := by omega
      have hjb : j ≤ 2 ^ 40 := by omega
      by_cases hst : s = t
      · subst hst
        have q5 : (!s.toList == s.toList) = false := by simp
        go_wp2_with fail
        go_quiet (fail)
        go_wp2_with fail
        go_roundg (gk - 1)
        case measure => omega
        case rel => exact ⟨j + 1, by omega, by go_num, by show _ = _; rw [HT1.out, HT2.out, HTK.out], hBw.trans ((below_draws _).mono hBw.size)⟩
      · have q5 : (!s.toList == t.toList) = true := by
          cases hb : s.toList == t.toList
          · rfl
          · exfalso
            apply hst
            have h1 : s.toList = t.toList := by simpa using hb
            rw [ByteArray.toList_eq, ByteArray.toList_eq] at h1
            exact ByteArray.ext (Array.toList_inj.1 h1)
        have HST := Lib.hid hst
        clear hst
        go_wp2_with fail
        go_quiet (fail)
        go_wp2_with fail
        go_ret
        exact ⟨ret_bool (decide_eq_false (fun e => HST.out (HG.out e))).symm, hBw.trans ((below_draws _).mono hBw.size)⟩
    · go_wp2_with fail
      go_ret
      exact ⟨ret_bool (decide_eq_true (by have h5 := HTK.out; rwa [List.take_of_length_le (by omega), List.take_of_length_le (by omega)] at h5)).symm, hBw⟩
/-- These are the words of this part, and of no other that is ok. -/
def IsRead (ws : List ByteArray) (p : Pt) : Prop := ws.length ≤ 40 ∧ p.ok = true ∧ p.words = ws ∧ ∀ q : Pt, q.ok = true → q.words = ws → q = p
/-- These are the words of no part that is ok. -/
def NoRead (ws : List ByteArray) : Prop := ws.length ≤ 40 → ∀ q : Pt, q.ok = true → q.words ≠ ws
/-- What was read is handed back, in memory of its own. -/
def Reads (ws : List ByteArray) (w : World) (r : Ending) (w' : World) : Prop :=
  (∃ p A c, IsRead ws p ∧ r = .returned (.tuple #[.agg #[.int .i64 p.ex.kind, .int .i64 p.ex.n, .string p.ex.s, .slice A p.ex.kids.length c], .bool true]) ∧ p.ex.kids.length ≤ c ∧ OwnE w' p.ex w.heap.size w'.heap.size A ∧ Below w.heap.size w w') ∨
  (NoRead ws ∧ r = .returned (.tuple #[.agg #[.int .i64 0, .int .i64 0, .string { data := #[] }, .slice none 0 0], .bool false]) ∧ Below w.heap.size w w')
theorem Blk.stay1 {w w' : World} {g : Nat} {cur : Array Value} (h : Blk w g cur) (hb : w'.heap[g]? = w.heap[g]?) : Blk w' g cur := hb.trans h
theorem ok_words {p : Pt} (h : p.ok = true) : wordsE p.ex = p.words := by unfold wordsE; rw [okP_ex h]
theorem words_ok {p : Pt} (h : wordsE p.ex ≠ []) : p.ok = true := by
  unfold wordsE at h
  split at h
  · rename_i q hq
    obtain ⟨e, hq2⟩ := okP_some hq
    rw [Pt.ex_inj _ _ e]
    exact hq2
  · exact absurd rfl h
set_option linter.unusedSimpArgs false in
set_option maxRecDepth 100000 in
set_option maxHeartbeats 4000000 in
theorem exprRead_any (A : Option Addr) (c : Nat) (ws : List ByteArray) (w : World) (hS : SlIs w A (ws.map strV)) (hL : LaidW w) (hsm : ∀ s ∈ ws, s.size ≤ 2 ^ 40) (hfew : ws.length ≤ 2 ^ 30) :
    Calls Tryz.prog 15 #[.slice A ws.length c] w (Reads ws w) := by
  obtain ⟨W0, hW0⟩ : ∃ W0, W0 = w.alloc (.cells #[.int .i64 0, .int .i64 0, .string { data := #[] }, .slice none 0 0] 25) := ⟨_, rfl⟩
  have hb0 : Below w.heap.size w W0 := by rw [hW0]; exact (Below.refl _ w).alloc (Nat.le_refl _) _
  have hs0 : W0.heap.size = w.heap.size + 1 := by rw [hW0]; simp
  have HZ0 := Lib.hid (show Blk W0 w.heap.size #[.int .i64 0, .int .i64 0, .string { data := #[] }, .slice none 0 0] by rw [hW0]; exact World.alloc_heap_new w _)
  by_cases hbig : 40 < ws.length
  · have q : decide ((40 : Int) < (ws.length : Int)) = true := by simp; omega
    have HNR := Lib.hid (show NoRead ws from fun h => absurd h (by omega))
    have x0 := HZ0.out.cell 0
    have x1 := HZ0.out.cell 1
    have x2 := HZ0.out.cell 2
    have x3 := HZ0.out.cell 3
    simp only [List.getElem?_toArray, List.getElem?_cons_zero, List.getElem?_cons_succ] at x0 x1 x2 x3
    have HX0 := Lib.hid x0
    have HX1 := Lib.hid x1
    have HX2 := Lib.hid x2
    have HX3 := Lib.hid x3
    clear hS hL hsm hbig x0 x1 x2 x3
    go_enter Tryz.func15, Tryz.ntmps15
    go_wp2_with fail
    rw [← hW0]
    refine bodyPost_ret (v := .tuple #[.agg #[.int .i64 0, .int .i64 0, .string { data := #[] }, .slice none 0 0], .bool false]) (by simp [results, Tryz.results15, go_sem, HX0.out, HX1.out, HX2.out, HX3.out]) rfl ?_
    exact .inr ⟨HNR.out, rfl, hb0⟩
  have q : decide ((40 : Int) < (ws.length : Int)) = false := by simp; omega
  obtain ⟨W1, hW1⟩ : ∃ W1, W1 = W0.alloc (.cells #[.slice A ws.length c, .int .i64 0] 75) := ⟨_, rfl⟩
  have hb1 : Below W0.heap.size W0 W1 := by rw [hW1]; exact (Below.refl _ W0).alloc (Nat.le_refl _) _
  have S1 : RdS W0 (w.heap.size + 1) A c ws W1 0 := ⟨hb1, by omega, by rw [hW1, ← hs0]; exact World.alloc_heap_new W0 _⟩
  have C : RdC W0 A ws := ⟨hS.below hb0, hL.below hb0, hsm, hfew⟩
  have HCL := Lib.hid (climb_any C (ws.length - 0) 0 rfl (Nat.zero_le _) 1 W1 (by omega) (by omega) S1)
  have HC := Lib.hid C
  clear S1 C hS hL hsm hb1
  rw [hW0] at hW1
  go_enter Tryz.func15, Tryz.ntmps15
  go_wp2_with fail
  rw [← hW1]
  clear hW1 hW0
  refine HCL.out.mono ?_
  rintro e w2 (⟨p, k2, hr, rfl, S2, hk1, hk2, hwt⟩ | ⟨v, k2, hr, rfl, hif, hb2⟩)
  case inr =>
    have HNR := Lib.hid (show NoRead ws from fun _ q hq hw => by subst hw; have := read_words (ok_fine hq) hr; cases this)
    clear hr HCL hif
    have hBz := HZ0.out.stay1 (hb2.block _ (by omega))
    have x0 := hBz.cell 0
    have x1 := hBz.cell 1
    have x2 := hBz.cell 2
    have x3 := hBz.cell 3
    have f0 := hBz.frozen 0
    have f1 := hBz.frozen 1
    have f2 := hBz.frozen 2
    have f3 := hBz.frozen 3
    simp only [List.getElem?_toArray, List.getElem?_cons_zero, List.getElem?_cons_succ] at x0 x1 x2 x3
    have HBN := Lib.hid (blk_set4 (.int .i64 0) (.int .i64 0) (.string { data := #[] }) (.slice none 0 0) hBz)
    have HBE := Lib.hid hb2
    clear hBz
    go_wp2_with fail
    obtain ⟨wn, hwn⟩ : ∃ wn, wn = (((w2.setCell ⟨w.heap.size, 0, none⟩ (.int .i64 0)).setCell ⟨w.heap.size, 1, none⟩ (.int .i64 0)).setCell ⟨w.heap.size, 2, none⟩ (.string { data := #[] })).setCell ⟨w.heap.size, 3, none⟩ (.slice none 0 0) := ⟨_, rfl⟩
    have hBn := HBN.out
    have hsame : ∀ k, k ≠ w.heap.size → wn.heap[k]? = w2.heap[k]? := fun k hk => by rw [hwn]; exact heap_set4 _ _ _ _ _ _ _ hk
    have hzn : wn.heap.size = w2.heap.size := by rw [hwn]; exact size_set4 _ _ _ _ _ _
    rw [← hwn] at hBn ⊢
    have r0 := hBn.cell 0
    have r1 := hBn.cell 1
    have r2 := hBn.cell 2
    have r3 := hBn.cell 3
    simp only [List.getElem?_toArray, List.getElem?_cons_zero, List.getElem?_cons_succ] at r0 r1 r2 r3
    refine bodyPost_ret (v := .tuple #[.agg #[.int .i64 0, .int .i64 0, .string { data := #[] }, .slice none 0 0], .bool false]) (by simp [results, Tryz.results15, go_sem, r0, r1, r2, r3]) rfl ?_
    exact .inr ⟨HNR.out, rfl, hb0.trans ((HBE.out.mono (by omega)).trans ⟨by rw [hwn]; rfl, by rw [hwn]; rfl, by rw [hwn]; rfl, by omega, fun k hk => hsame k (by omega)⟩)⟩

  have HR := Lib.hid hr
  have hb2 := S2.bel
  obtain ⟨m1, n1, k1⟩ := meth_expr p
  have HEX := Lib.hid (expr_any p w2)
  rw [partV_at p]
  generalize ptT p = t1 at *
  generalize ptU p = u1 at *
  generalize fExpr p = f1 at *
  have hwt2 : p.ex.wt ≤ 400 := by omega
  clear hr S2 HCL hwt
  go_wp2_with fail
  refine HEX.out.mono ?_
  rintro e w3 ⟨A3, c3, rfl, hc3, hO3, hb3⟩
  have HO3 := Lib.hid hO3
  obtain ⟨W4, hW4⟩ : ∃ W4, W4 = w3.alloc (.cells #[.int .i64 p.ex.kind, .int .i64 p.ex.n, .string p.ex.s, .slice A3 p.ex.kids.length c3] 25) := ⟨_, rfl⟩
  have hb4 : Below w3.heap.size w3 W4 := by rw [hW4]; exact (Below.refl _ w3).alloc (Nat.le_refl _) _
  have hs4 : W4.heap.size = w3.heap.size + 1 := by rw [hW4]; simp
  have HE4 := Lib.hid (show Blk W4 w3.heap.size #[.int .i64 p.ex.kind, .int .i64 p.ex.n, .string p.ex.s, .slice A3 p.ex.kids.length c3] by rw [hW4]; exact World.alloc_heap_new w3 _)
  have hb03 := hb2.trans (hb3.mono hb2.size)
  have hb04 := hb03.trans (hb4.mono hb03.size)
  have HWO := Lib.hid (exprWords_any p.ex A3 c3 w3.heap.size W4 ((own_kids p.ex _ _ A3 w3.heap.size hO3 (Nat.le_refl _)).keep hb4) hc3 (by omega) (by omega) (HC.out.laid.below hb04))
  have HB3 := Lib.hid hb3
  have HB03 := Lib.hid hb03
  have HB04 := Lib.hid hb04
  have HB4 := Lib.hid hb4
  have hz2 := hb2.size
  have hz3 := hb3.size
  clear hO3 hb3 hb03 hb04 hb2 HEX hb4
  go_wp2_with fail
  rw [← hW4]
  clear hW4
  refine HWO.out.mono ?_
  rintro e w5 ⟨v5, rfl, hOw, hb5⟩
  have HB5 := Lib.hid hb5
  obtain ⟨A5, c5, rfl, hc5⟩ := own_slice hOw
  have HEQ := Lib.hid (equalS_any A5 A c5 c (wordsE p.ex) ws w5 (SlIs.own hOw) (HC.out.sl.below (HB04.out.trans (hb5.mono HB04.out.size))) (by
    unfold wordsE
    split
    · rename_i q hq
      have h1 := (okP_some hq).2
      have h2 := q.words_length
      simp only [Pt.ok, Bool.and_eq_true] at h1
      have := of_decide_eq_true h1.2.2
      omega
    · simp))
  obtain ⟨eq, heq⟩ : ∃ eq, eq = decide (wordsE p.ex = ws) := ⟨_, rfl⟩
  rw [← heq] at HEQ
  have HEQE := Lib.hid heq
  have hlw : (wordsE p.ex).length ≤ 2 ^ 40 := by
    unfold wordsE
    split
    · rename_i q hq
      have h1 := (okP_some hq).2
      have h2 := q.words_length
      simp only [Pt.ok, Bool.and_eq_true] at h1
      have := of_decide_eq_true h1.2.2
      omega
    · simp
  generalize (wordsE p.ex).length = lw at *
  clear hOw heq HWO
  go_wp2_with fail
  refine HEQ.out.mono ?_
  rintro e w6 ⟨rfl, hb6⟩
  have HB6 := Lib.hid ((HB04.out.trans (HB5.out.mono HB04.out.size)).trans (hb6.mono (Nat.le_trans HB04.out.size HB5.out.size)))
  have HB46 := Lib.hid (HB5.out.trans (hb6.mono HB5.out.size))
  have hz6 := HB46.out.size
  clear hb6 HEQ hb5
  cases eq with
  | false =>
    have HNR := Lib.hid (show NoRead ws from fun _ q hq hw => by
      have hr := HR.out
      subst hw
      have h1 := read_words (ok_fine hq) hr
      injection h1 with h1
      subst h1
      have h2 := of_decide_eq_false HEQE.out.symm
      exact h2 (ok_words hq))
    have hb6 := HB6.out
    clear HR HEQE HB6
    have hBz := HZ0.out.stay1 (hb6.block _ (by omega))
    have x0 := hBz.cell 0
    have x1 := hBz.cell 1
    have x2 := hBz.cell 2
    have x3 := hBz.cell 3
    have f0 := hBz.frozen 0
    have f1 := hBz.frozen 1
    have f2 := hBz.frozen 2
    have f3 := hBz.frozen 3
    simp only [List.getElem?_toArray, List.getElem?_cons_zero, List.getElem?_cons_succ] at x0 x1 x2 x3
    have HBN := Lib.hid (blk_set4 (.int .i64 0) (.int .i64 0) (.string { data := #[] }) (.slice none 0 0) hBz)
    have HBE := Lib.hid hb6
    clear hBz
    go_wp2_with fail
    obtain ⟨wn, hwn⟩ : ∃ wn, wn = (((w6.setCell ⟨w.heap.size, 0, none⟩ (.int .i64 0)).setCell ⟨w.heap.size, 1, none⟩ (.int .i64 0)).setCell ⟨w.heap.size, 2, none⟩ (.string { data := #[] })).setCell ⟨w.heap.size, 3, none⟩ (.slice none 0 0) := ⟨_, rfl⟩
    have hBn := HBN.out
    have hsame : ∀ k, k ≠ w.heap.size → wn.heap[k]? = w6.heap[k]? := fun k hk => by rw [hwn]; exact heap_set4 _ _ _ _ _ _ _ hk
    have hzn : wn.heap.size = w6.heap.size := by rw [hwn]; exact size_set4 _ _ _ _ _ _
    rw [← hwn] at hBn ⊢
    have r0 := hBn.cell 0
    have r1 := hBn.cell 1
    have r2 := hBn.cell 2
    have r3 := hBn.cell 3
    simp only [List.getElem?_toArray, List.getElem?_cons_zero, List.getElem?_cons_succ] at r0 r1 r2 r3
    refine bodyPost_ret (v := .tuple #[.agg #[.int .i64 0, .int .i64 0, .string { data := #[] }, .slice none 0 0], .bool false]) (by simp [results, Tryz.results15, go_sem, r0, r1, r2, r3]) rfl ?_
    exact .inr ⟨HNR.out, rfl, hb0.trans ((HBE.out.mono (by omega)).trans ⟨by rw [hwn]; rfl, by rw [hwn]; rfl, by rw [hwn]; rfl, by omega, fun k hk => hsame k (by omega)⟩)⟩

  | true =>
    have hws : wordsE p.ex = ws := of_decide_eq_true HEQE.out.symm
    have hpo : p.ok = true := words_ok (by rw [hws]; intro e; rw [e] at hk2; simp at hk2; omega)
    have HIR := Lib.hid (show IsRead ws p from ⟨by omega, hpo, (ok_words hpo).symm.trans hws, fun q hq hw => by
      have hr := HR.out
      subst hw
      have h1 := read_words (ok_fine hq) hr
      injection h1 with h1
      exact h1.symm⟩)
    have hBz := HZ0.out.stay1 (HB6.out.block _ (by omega))
    have hBe := HE4.out.stay1 (HB46.out.block _ HE4.out.lt)
    have x0 := hBz.cell 0
    have x1 := hBz.cell 1
    have x2 := hBz.cell 2
    have x3 := hBz.cell 3
    have f0 := hBz.frozen 0
    have f1' := hBz.frozen 1
    have f2 := hBz.frozen 2
    have f3 := hBz.frozen 3
    have y0 := hBe.cell 0
    have y1 := hBe.cell 1
    have y2 := hBe.cell 2
    have y3 := hBe.cell 3
    simp only [List.getElem?_toArray, List.getElem?_cons_zero, List.getElem?_cons_succ] at x0 x1 x2 x3 y0 y1 y2 y3
    have HBN := Lib.hid (blk_set4 (.int .i64 p.ex.kind) (.int .i64 p.ex.n) (.string p.ex.s) (.slice A3 p.ex.kids.length c3) hBz)
    clear hBz hBe hws hpo HEQE HR
    go_wp2_with fail
    obtain ⟨wn, hwn⟩ : ∃ wn, wn = (((w6.setCell ⟨w.heap.size, 0, none⟩ (.int .i64 p.ex.kind)).setCell ⟨w.heap.size, 1, none⟩ (.int .i64 p.ex.n)).setCell ⟨w.heap.size, 2, none⟩ (.string p.ex.s)).setCell ⟨w.heap.size, 3, none⟩ (.slice A3 p.ex.kids.length c3) := ⟨_, rfl⟩
    have hBn := HBN.out
    have hsame : ∀ k, k ≠ w.heap.size → wn.heap[k]? = w6.heap[k]? := fun k hk => by rw [hwn]; exact heap_set4 _ _ _ _ _ _ _ hk
    have hzn : wn.heap.size = w6.heap.size := by rw [hwn]; exact size_set4 _ _ _ _ _ _
    rw [← hwn] at hBn ⊢
    have r0 := hBn.cell 0
    have r1 := hBn.cell 1
    have r2 := hBn.cell 2
    have r3 := hBn.cell 3
    simp only [List.getElem?_toArray, List.getElem?_cons_zero, List.getElem?_cons_succ] at r0 r1 r2 r3
    refine bodyPost_ret (v := .tuple #[.agg #[.int .i64 p.ex.kind, .int .i64 p.ex.n, .string p.ex.s, .slice A3 p.ex.kids.length c3], .bool true]) (by simp [results, Tryz.results15, go_sem, r0, r1, r2, r3]) rfl ?_
    refine .inl ⟨p, A3, c3, HIR.out, rfl, hc3, ?_, hb0.trans ((HB6.out.mono (by omega)).trans ⟨by rw [hwn]; rfl, by rw [hwn]; rfl, by rw [hwn]; rfl, by omega, fun k hk => hsame k (by omega)⟩)⟩
    exact own_wide (own_keep p.ex _ _ _ (fun k h1 h2 => (hsame k (by omega)).trans ((HB46.out.block k (by omega)).trans (HB4.out.block k h2))) HO3.out) (by omega) (by omega)
end Go.Proofs.YtodioplkgjpcjaaGreatDoor
