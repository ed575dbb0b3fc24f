/-
  The contract of the model's ExprRead, for all words.
-/
import Derived.Test.YtodioplkgjpcjaaGreatDoorSpecRead4
import Derived.Test.YtodioplkgjpcjaaGreatDoorSpecWords5
import Derived.Test.YtodioplkgjpcjaaGreatDoorExprRead
namespace Go.Proofs.YtodioplkgjpcjaaGreatDoor
open Go.RowKit

/-- What the model's ExprRead answers. -/
def ReadsS (ws : List ByteArray) (w : World) (r : Ending) (w' : World) : Prop :=
  (∃ p A c, IsRead ws p ∧ r = .returned (.tuple #[.agg #[.int .i64 p.ex.kind, .int .i64 p.ex.n, .string p.ex.s, .slice A p.ex.kids.length c], .bool true]) ∧ p.ex.kids.length ≤ c ∧ KidsS w' (fun b => w.heap.size ≤ b ∧ b < w'.heap.size) A p.ex.kids ∧ Below w.heap.size w w') ∨
  (NoRead ws ∧ r = .returned (.tuple #[.agg #[.int .i64 0, .int .i64 0, .string { data := #[] }, .slice none 0 0], .bool false]) ∧ Below w.heap.size w w')
theorem ok_depth {p : Pt} (h : p.ok = true) : p.depth ≤ 5 ∧ p.nodes ≤ 12 := by
  simp only [Pt.ok, Bool.and_eq_true, decide_eq_true_eq] at h; exact h.2
theorem okE_ex {p : Pt} (h : okE p.ex = true) : p.ok = true := by
  obtain ⟨q, e, hq⟩ := (okE_iff _).1 h
  rw [Pt.ex_inj _ _ e]; exact hq
set_option linter.unusedVariables false in
set_option linter.unusedSimpArgs false in
set_option maxRecDepth 100000 in
set_option maxHeartbeats 4000000 in
theorem specExprRead_any (A : Option Addr) (c : Nat) (ws : List ByteArray) (w : World) (C : SpC w A ws) :
    Calls Tryz.prog 18 #[.slice A ws.length c] w (ReadsS ws w) := by
  have hfw : ws.length ≤ 2 ^ 30 := C.few
  obtain ⟨W0, hW0⟩ : ∃ W0, W0 = w.alloc (.cells #[.int .i64 0, .int .i64 0, .string { data := #[] }, .slice none 0 0] 25) := ⟨_, rfl⟩
  have hb0 : Below w.heap.size w W0 := by rw [hW0]; exact (Below.refl _ w).alloc (Nat.le_refl _) _
  have hs0 : w.heap.size < W0.heap.size := by rw [hW0]; simp
  have HE0 := Lib.hid (show Blk W0 w.heap.size #[.int .i64 0, .int .i64 0, .string { data := #[] }, .slice none 0 0] by rw [hW0]; exact World.alloc_heap_new w _)
  have HC := Lib.hid C
  by_cases hbig : 40 < ws.length
  · have q : decide ((40 : Int) < (ws.length : Int)) = true := by simp; omega
    have HNR := Lib.hid (show NoRead ws from fun h => absurd h (by omega))
    have x0 := HE0.out.cell 0
    have x1 := HE0.out.cell 1
    have x2 := HE0.out.cell 2
    have x3 := HE0.out.cell 3
    simp only [List.getElem?_toArray, List.getElem?_cons_zero, List.getElem?_cons_succ] at x0 x1 x2 x3
    have HX0 := Lib.hid x0
    have HX1 := Lib.hid x1
    have HX2 := Lib.hid x2
    have HX3 := Lib.hid x3
    clear C hbig x0 x1 x2 x3
    go_enter Tryz.func18, Tryz.ntmps18
    go_wp2_with fail
    rw [← hW0]
    refine bodyPost_ret (v := .tuple #[.agg #[.int .i64 0, .int .i64 0, .string { data := #[] }, .slice none 0 0], .bool false]) (by simp [results, Tryz.results18, go_sem, HX0.out, HX1.out, HX2.out, HX3.out]) rfl ?_
    exact .inr ⟨HNR.out, rfl, hb0⟩
  have q : decide ((40 : Int) < (ws.length : Int)) = false := by simp; omega
  have HA := Lib.hid (show Calls Tryz.prog 51 #[.slice A ws.length c, .int .i64 0, .int .i64 5] W0 (SGot ws (SLvl1 ws 5 0) 0 W0) from sread_all ws A c 5 (by omega) 0 W0 (Nat.zero_le _) (C.below hb0))
  clear C
  go_enter Tryz.func18, Tryz.ntmps18
  go_wp2_with fail
  rw [← hW0]
  clear hW0
  refine HA.out.mono ?_
  rintro e w1 (⟨p, k1, A1, c1, hr, rfl, hc1, hK1, hb1, hk1, hk2, hwt⟩ | ⟨a, b, s', A', n', c', hr, rfl, hb1⟩)
  case inr =>
    have HNR := Lib.hid (show NoRead ws from fun _ q hq hw => by subst hw; have := sread_words (ok_fine hq) (ok_depth hq).1 hr; cases this)
    have qn : ((-1 : Int) != (ws.length : Int)) = true := by rw [bne_iff_ne]; omega
    have hE2 : Blk (w1.alloc (.cells #[.int .i64 a, .int .i64 b, .string s', .slice A' n' c'] 25)) w.heap.size #[.int .i64 0, .int .i64 0, .string { data := #[] }, .slice none 0 0] := (((Below.refl _ w1).alloc (Nat.le_refl _) (.cells #[.int .i64 a, .int .i64 b, .string s', .slice A' n' c'] 25)).block _ (by have := hb1.size; omega)).trans ((hb1.block _ hs0).trans HE0.out)
    have HE2 := Lib.hid hE2
    have HB2 := Lib.hid (show Below w.heap.size w (w1.alloc (.cells #[.int .i64 a, .int .i64 b, .string s', .slice A' n' c'] 25)) from hb0.trans ((hb1.trans (((Below.refl _ w1).alloc (Nat.le_refl _) _).mono hb1.size)).mono hb0.size))
    have z0 := hE2.cell 0
    have z1 := hE2.cell 1
    have z2 := hE2.cell 2
    have z3 := hE2.cell 3
    have zf0 := hE2.frozen 0
    have zf1 := hE2.frozen 1
    have zf2 := hE2.frozen 2
    have zf3 := hE2.frozen 3
    simp only [List.getElem?_toArray, List.getElem?_cons_zero, List.getElem?_cons_succ] at z0 z1 z2 z3
    have hz1 : w.heap.size ≤ (w1.alloc (.cells #[.int .i64 a, .int .i64 b, .string s', .slice A' n' c'] 25)).heap.size := HB2.out.size
    clear hE2 hr HA
    have HBN := Lib.hid (blk_set4 (.int .i64 0) (.int .i64 0) (.string { data := #[] }) (.slice none 0 0) HE2.out)
    go_wp2_with fail
    obtain ⟨wn, hwn⟩ : ∃ wn, wn = ((((w1.alloc (.cells #[.int .i64 a, .int .i64 b, .string s', .slice A' n' c'] 25)).setCell ⟨w.heap.size, 0, none⟩ (.int .i64 0)).setCell ⟨w.heap.size, 1, none⟩ (.int .i64 0)).setCell ⟨w.heap.size, 2, none⟩ (.string { data := #[] })).setCell ⟨w.heap.size, 3, none⟩ (.slice none 0 0) := ⟨_, rfl⟩
    have hBn := HBN.out
    have hsame : ∀ k, k ≠ w.heap.size → wn.heap[k]? = (w1.alloc (.cells #[.int .i64 a, .int .i64 b, .string s', .slice A' n' c'] 25)).heap[k]? := fun k hk => by rw [hwn]; exact heap_set4 _ _ _ _ _ _ _ hk
    have hzn : wn.heap.size = (w1.alloc (.cells #[.int .i64 a, .int .i64 b, .string s', .slice A' n' c'] 25)).heap.size := by rw [hwn]; exact size_set4 _ _ _ _ _ _
    have hBl : Below w.heap.size (w1.alloc (.cells #[.int .i64 a, .int .i64 b, .string s', .slice A' n' c'] 25)) wn := ⟨by rw [hwn]; rfl, by rw [hwn]; rfl, by rw [hwn]; rfl, by omega, fun k hk => hsame k (by omega)⟩
    rw [← hwn] at hBn ⊢
    have r0 := hBn.cell 0
    have r1 := hBn.cell 1
    have r2 := hBn.cell 2
    have r3 := hBn.cell 3
    simp only [List.getElem?_toArray, List.getElem?_cons_zero, List.getElem?_cons_succ] at r0 r1 r2 r3
    refine bodyPost_ret (v := .tuple #[.agg #[.int .i64 0, .int .i64 0, .string { data := #[] }, .slice none 0 0], .bool false]) (by simp [results, Tryz.results18, go_sem, r0, r1, r2, r3]) rfl ?_
    exact .inr ⟨HNR.out, rfl, HB2.out.trans hBl⟩
  obtain ⟨X, hX⟩ : ∃ X, X = w1.alloc (.cells #[.int .i64 p.ex.kind, .int .i64 p.ex.n, .string p.ex.s, .slice A1 p.ex.kids.length c1] 25) := ⟨_, rfl⟩
  have hbX1 : Below w1.heap.size w1 X := by rw [hX]; exact (Below.refl _ _).alloc (Nat.le_refl _) _
  have hz1 := hb1.size
  have hbX0 : Below W0.heap.size W0 X := hb1.trans (hbX1.mono hz1)
  have HBX := Lib.hid (show Below w.heap.size w X from hb0.trans (hbX0.mono hb0.size))
  have HE2 := Lib.hid (show Blk X w.heap.size #[.int .i64 0, .int .i64 0, .string { data := #[] }, .slice none 0 0] from (hbX0.block _ hs0).trans HE0.out)
  have HX4 := Lib.hid (show Blk X w1.heap.size #[.int .i64 p.ex.kind, .int .i64 p.ex.n, .string p.ex.s, .slice A1 p.ex.kids.length c1] by rw [hX]; exact World.alloc_heap_new w1 _)
  have HKX := Lib.hid (show KidsS X (fun b => W0.heap.size ≤ b ∧ b < X.heap.size) A1 p.ex.kids from hK1.keep (fun b h => ⟨h.1, by have := hbX1.size; omega⟩) (fun b h => hbX1.block b h.2))
  have HRD := Lib.hid hr
  have HONE := Lib.hid (show ∀ q : Pt, q.ok = true → q.words = ws → q = p ∧ k1 = ws.length from fun q hq hw => by
    have h := hr
    subst hw
    have := sread_words (ok_fine hq) (ok_depth hq).1 h
    cases this
    exact ⟨rfl, rfl⟩)
  have hzX : w1.heap.size < X.heap.size := HX4.out.lt
  have z0 := HE2.out.cell 0
  have z1 := HE2.out.cell 1
  have z2 := HE2.out.cell 2
  have z3 := HE2.out.cell 3
  have zf0 := HE2.out.frozen 0
  have zf1 := HE2.out.frozen 1
  have zf2 := HE2.out.frozen 2
  have zf3 := HE2.out.frozen 3
  simp only [List.getElem?_toArray, List.getElem?_cons_zero, List.getElem?_cons_succ] at z0 z1 z2 z3
  have y0 := HX4.out.cell 0
  have y1 := HX4.out.cell 1
  have y2 := HX4.out.cell 2
  have y3 := HX4.out.cell 3
  have yf0 := HX4.out.frozen 0
  have yf1 := HX4.out.frozen 1
  have yf2 := HX4.out.frozen 2
  have yf3 := HX4.out.frozen 3
  simp only [List.getElem?_toArray, List.getElem?_cons_zero, List.getElem?_cons_succ] at y0 y1 y2 y3
  clear hr hK1 hbX0 hbX1 HA
  by_cases hk : k1 = ws.length
  case neg =>
    have HNR := Lib.hid (show NoRead ws from fun _ q hq hw => hk (HONE.out q hq hw).2)
    have qn : ((k1 : Int) != (ws.length : Int)) = true := by rw [bne_iff_ne]; omega
    rw [hX] at z0 z1 z2 z3 zf0 zf1 zf2 zf3
    have HBN := Lib.hid (blk_set4 (.int .i64 0) (.int .i64 0) (.string { data := #[] }) (.slice none 0 0) HE2.out)
    clear hk
    go_wp2_with fail
    rw [← hX]
    obtain ⟨wn, hwn⟩ : ∃ wn, wn = (((X.setCell ⟨w.heap.size, 0, none⟩ (.int .i64 0)).setCell ⟨w.heap.size, 1, none⟩ (.int .i64 0)).setCell ⟨w.heap.size, 2, none⟩ (.string { data := #[] })).setCell ⟨w.heap.size, 3, none⟩ (.slice none 0 0) := ⟨_, rfl⟩
    have hBn := HBN.out
    have hsame : ∀ k, k ≠ w.heap.size → wn.heap[k]? = X.heap[k]? := fun k hk => by rw [hwn]; exact heap_set4 _ _ _ _ _ _ _ hk
    have hzn : wn.heap.size = X.heap.size := by rw [hwn]; exact size_set4 _ _ _ _ _ _
    have hBl : Below w.heap.size X wn := ⟨by rw [hwn]; rfl, by rw [hwn]; rfl, by rw [hwn]; rfl, by omega, fun k hk => hsame k (by omega)⟩
    rw [← hwn] at hBn ⊢
    have r0 := hBn.cell 0
    have r1 := hBn.cell 1
    have r2 := hBn.cell 2
    have r3 := hBn.cell 3
    simp only [List.getElem?_toArray, List.getElem?_cons_zero, List.getElem?_cons_succ] at r0 r1 r2 r3
    refine bodyPost_ret (v := .tuple #[.agg #[.int .i64 0, .int .i64 0, .string { data := #[] }, .slice none 0 0], .bool false]) (by simp [results, Tryz.results18, go_sem, r0, r1, r2, r3]) rfl ?_
    exact .inr ⟨HNR.out, rfl, HBX.out.trans hBl⟩
  have qn : ((k1 : Int) != (ws.length : Int)) = false := by rw [bne_eq_false_iff_eq]; omega
  have HKL := Lib.hid hk
  clear hk
  have HOK := Lib.hid (specExprOk_any p.ex A1 c1 X.heap.size X (HKX.out.at_ (fun b h => h.2)) hc1 (Nat.le_refl _) (by omega))
  rw [hX] at y0 y1 y2 y3
  cases hok : okE p.ex with
  | false =>
    rw [hok] at HOK
    have HNR := Lib.hid (show NoRead ws from fun _ q hq hw => by
      obtain ⟨rfl, _⟩ := HONE.out q hq hw
      have := (okE_iff q.ex).2 ⟨q, rfl, hq⟩
      rw [hok] at this; cases this)
    clear hok
    go_wp2_with fail
    rw [← hX]
    clear hX
    refine HOK.out.mono ?_
    rintro e w2 ⟨rfl, hb2⟩
    have HE3 := Lib.hid (show Blk w2 w.heap.size #[.int .i64 0, .int .i64 0, .string { data := #[] }, .slice none 0 0] from (hb2.block _ HE2.out.lt).trans HE2.out)
    have HB3 := Lib.hid (HBX.out.trans (hb2.mono HBX.out.size))
    have HBN := Lib.hid (blk_set4 (.int .i64 0) (.int .i64 0) (.string { data := #[] }) (.slice none 0 0) HE3.out)
    have hz2 := HB3.out.size
    clear z0 z1 z2 z3 zf0 zf1 zf2 zf3
    have z0 := HE3.out.cell 0
    have z1 := HE3.out.cell 1
    have z2 := HE3.out.cell 2
    have z3 := HE3.out.cell 3
    have zf0 := HE3.out.frozen 0
    have zf1 := HE3.out.frozen 1
    have zf2 := HE3.out.frozen 2
    have zf3 := HE3.out.frozen 3
    simp only [List.getElem?_toArray, List.getElem?_cons_zero, List.getElem?_cons_succ] at z0 z1 z2 z3
    go_wp2_with fail
    obtain ⟨wn, hwn⟩ : ∃ wn, wn = (((w2.setCell ⟨w.heap.size, 0, none⟩ (.int .i64 0)).setCell ⟨w.heap.size, 1, none⟩ (.int .i64 0)).setCell ⟨w.heap.size, 2, none⟩ (.string { data := #[] })).setCell ⟨w.heap.size, 3, none⟩ (.slice none 0 0) := ⟨_, rfl⟩
    have hBn := HBN.out
    have hsame : ∀ k, k ≠ w.heap.size → wn.heap[k]? = w2.heap[k]? := fun k hk => by rw [hwn]; exact heap_set4 _ _ _ _ _ _ _ hk
    have hzn : wn.heap.size = w2.heap.size := by rw [hwn]; exact size_set4 _ _ _ _ _ _
    have hBl : Below w.heap.size w2 wn := ⟨by rw [hwn]; rfl, by rw [hwn]; rfl, by rw [hwn]; rfl, by omega, fun k hk => hsame k (by omega)⟩
    rw [← hwn] at hBn ⊢
    have r0 := hBn.cell 0
    have r1 := hBn.cell 1
    have r2 := hBn.cell 2
    have r3 := hBn.cell 3
    simp only [List.getElem?_toArray, List.getElem?_cons_zero, List.getElem?_cons_succ] at r0 r1 r2 r3
    refine bodyPost_ret (v := .tuple #[.agg #[.int .i64 0, .int .i64 0, .string { data := #[] }, .slice none 0 0], .bool false]) (by simp [results, Tryz.results18, go_sem, r0, r1, r2, r3]) rfl ?_
    exact .inr ⟨HNR.out, rfl, HB3.out.trans hBl⟩
  | true =>
    rw [hok] at HOK
    have hpo := okE_ex hok
    have HPO := Lib.hid hpo
    have HWD := Lib.hid (fun (V : World) (hV : Below X.heap.size X V) => (show Calls Tryz.prog 42 #[.agg #[.int .i64 p.ex.kind, .int .i64 p.ex.n, .string p.ex.s, .slice A1 p.ex.kids.length c1], .int .i64 1] V (Wordy (p.at 1) V) from l4Words_any p (ok_fine hpo) (by have := (ok_depth hpo).2; omega) A1 c1 X.heap.size V 1 ((HKX.out.at_ (fun b h => h.2)).keep hV) hc1 hV.size (by omega)))
    have HAT := Lib.hid (Pt.at_one (ok_fine hpo))
    have hln : (p.at 1).length ≤ 2 ^ 40 := by rw [HAT.out]; have h1 := p.words_length; have h2 := (ok_depth hpo).2; omega
    obtain ⟨xs, hxs⟩ : ∃ xs, xs = p.at 1 := ⟨_, rfl⟩
    have HXS := Lib.hid hxs
    rw [← hxs] at HWD hln
    clear hok hpo hxs
    go_wp2_with fail
    rw [← hX]
    clear hX
    refine HOK.out.mono ?_
    rintro e w2 ⟨rfl, hb2⟩
    have HE3 := Lib.hid (show Blk w2 w.heap.size #[.int .i64 0, .int .i64 0, .string { data := #[] }, .slice none 0 0] from (hb2.block _ HE2.out.lt).trans HE2.out)
    have HY3 := Lib.hid (show Blk w2 w1.heap.size #[.int .i64 p.ex.kind, .int .i64 p.ex.n, .string p.ex.s, .slice A1 p.ex.kids.length c1] from (hb2.block _ HX4.out.lt).trans HX4.out)
    clear z0 z1 z2 z3 zf0 zf1 zf2 zf3 y0 y1 y2 y3 yf0 yf1 yf2 yf3
    have y0 := HY3.out.cell 0
    have y1 := HY3.out.cell 1
    have y2 := HY3.out.cell 2
    have y3 := HY3.out.cell 3
    have yf0 := HY3.out.frozen 0
    have yf1 := HY3.out.frozen 1
    have yf2 := HY3.out.frozen 2
    have yf3 := HY3.out.frozen 3
    simp only [List.getElem?_toArray, List.getElem?_cons_zero, List.getElem?_cons_succ] at y0 y1 y2 y3
    go_wp2_with fail
    refine (HWD.out w2 hb2).mono ?_
    rintro e w3 ⟨v, rfl, hv, hb3⟩
    obtain ⟨A2, c2, rfl, hc2⟩ := own_slice hv
    have hb23 := hb2.trans (hb3.mono hb2.size)
    have HTX := Lib.hid (l4Texts_any A2 A c2 c xs ws w3 (SlIs.own hv) (HC.out.sl.below (HBX.out.trans (hb23.mono HBX.out.size))) hln)
    clear hv y0 y1 y2 y3 yf0 yf1 yf2 yf3
    by_cases hw : xs = ws
    · have q5 : decide (xs = ws) = true := decide_eq_true hw
      rw [q5] at HTX
      have HIR := Lib.hid (show IsRead ws p from ⟨by omega, HPO.out, by rw [← HAT.out, ← HXS.out]; exact hw, fun q h1 h2 => (HONE.out q h1 h2).1⟩)
      clear hw q5
      go_wp2_with fail
      refine HTX.out.mono ?_
      rintro e w4 ⟨rfl, hb4⟩
      have hb24 := hb23.trans (hb4.mono hb23.size)
      have HE4 := Lib.hid (show Blk w4 w.heap.size #[.int .i64 0, .int .i64 0, .string { data := #[] }, .slice none 0 0] from (hb24.block _ HE2.out.lt).trans HE2.out)
      have HY4 := Lib.hid (show Blk w4 w1.heap.size #[.int .i64 p.ex.kind, .int .i64 p.ex.n, .string p.ex.s, .slice A1 p.ex.kids.length c1] from (hb24.block _ HX4.out.lt).trans HX4.out)
      have HB4 := Lib.hid (HBX.out.trans (hb24.mono HBX.out.size))
      have HBN := Lib.hid (blk_set4 (.int .i64 p.ex.kind) (.int .i64 p.ex.n) (.string p.ex.s) (.slice A1 p.ex.kids.length c1) HE4.out)
      have hz2 := HB4.out.size
      have hz24 := hb24.size
      have z0 := HE4.out.cell 0
      have z1 := HE4.out.cell 1
      have z2 := HE4.out.cell 2
      have z3 := HE4.out.cell 3
      have zf0 := HE4.out.frozen 0
      have zf1 := HE4.out.frozen 1
      have zf2 := HE4.out.frozen 2
      have zf3 := HE4.out.frozen 3
      simp only [List.getElem?_toArray, List.getElem?_cons_zero, List.getElem?_cons_succ] at z0 z1 z2 z3
      have y0 := HY4.out.cell 0
      have y1 := HY4.out.cell 1
      have y2 := HY4.out.cell 2
      have y3 := HY4.out.cell 3
      have yf0 := HY4.out.frozen 0
      have yf1 := HY4.out.frozen 1
      have yf2 := HY4.out.frozen 2
      have yf3 := HY4.out.frozen 3
      simp only [List.getElem?_toArray, List.getElem?_cons_zero, List.getElem?_cons_succ] at y0 y1 y2 y3
      go_wp2_with fail
      obtain ⟨wn, hwn⟩ : ∃ wn, wn = (((w4.setCell ⟨w.heap.size, 0, none⟩ (.int .i64 p.ex.kind)).setCell ⟨w.heap.size, 1, none⟩ (.int .i64 p.ex.n)).setCell ⟨w.heap.size, 2, none⟩ (.string p.ex.s)).setCell ⟨w.heap.size, 3, none⟩ (.slice A1 p.ex.kids.length c1) := ⟨_, rfl⟩
      have hBn := HBN.out
      have hsame : ∀ k, k ≠ w.heap.size → wn.heap[k]? = w4.heap[k]? := fun k hk => by rw [hwn]; exact heap_set4 _ _ _ _ _ _ _ hk
      have hzn : wn.heap.size = w4.heap.size := by rw [hwn]; exact size_set4 _ _ _ _ _ _
      have hBl : Below w.heap.size w4 wn := ⟨by rw [hwn]; rfl, by rw [hwn]; rfl, by rw [hwn]; rfl, by omega, fun k hk => hsame k (by omega)⟩
      rw [← hwn] at hBn ⊢
      have r0 := hBn.cell 0
      have r1 := hBn.cell 1
      have r2 := hBn.cell 2
      have r3 := hBn.cell 3
      simp only [List.getElem?_toArray, List.getElem?_cons_zero, List.getElem?_cons_succ] at r0 r1 r2 r3
      refine bodyPost_ret (v := .tuple #[.agg #[.int .i64 p.ex.kind, .int .i64 p.ex.n, .string p.ex.s, .slice A1 p.ex.kids.length c1], .bool true]) (by simp [results, Tryz.results18, go_sem, r0, r1, r2, r3]) rfl ?_
      exact .inl ⟨p, A1, c1, HIR.out, rfl, hc1, HKX.out.keep (fun b h => ⟨by omega, by omega⟩) (fun b h => (hsame b (by omega)).trans (hb24.block b h.2)), HB4.out.trans hBl⟩
    · have q5 : decide (xs = ws) = false := decide_eq_false hw
      rw [q5] at HTX
      have HNR := Lib.hid (show NoRead ws from fun _ q hq h => by
        obtain ⟨rfl, _⟩ := HONE.out q hq h
        exact hw (by rw [HXS.out, HAT.out]; exact h))
      clear hw q5
      go_wp2_with fail
      refine HTX.out.mono ?_
      rintro e w4 ⟨rfl, hb4⟩
      have hb24 := hb23.trans (hb4.mono hb23.size)
      have HE4 := Lib.hid (show Blk w4 w.heap.size #[.int .i64 0, .int .i64 0, .string { data := #[] }, .slice none 0 0] from (hb24.block _ HE2.out.lt).trans HE2.out)
      have HB4 := Lib.hid (HBX.out.trans (hb24.mono HBX.out.size))
      have HBN := Lib.hid (blk_set4 (.int .i64 0) (.int .i64 0) (.string { data := #[] }) (.slice none 0 0) HE4.out)
      have hz2 := HB4.out.size
      have z0 := HE4.out.cell 0
      have z1 := HE4.out.cell 1
      have z2 := HE4.out.cell 2
      have z3 := HE4.out.cell 3
      have zf0 := HE4.out.frozen 0
      have zf1 := HE4.out.frozen 1
      have zf2 := HE4.out.frozen 2
      have zf3 := HE4.out.frozen 3
      simp only [List.getElem?_toArray, List.getElem?_cons_zero, List.getElem?_cons_succ] at z0 z1 z2 z3
      go_wp2_with fail
      obtain ⟨wn, hwn⟩ : ∃ wn, wn = (((w4.setCell ⟨w.heap.size, 0, none⟩ (.int .i64 0)).setCell ⟨w.heap.size, 1, none⟩ (.int .i64 0)).setCell ⟨w.heap.size, 2, none⟩ (.string { data := #[] })).setCell ⟨w.heap.size, 3, none⟩ (.slice none 0 0) := ⟨_, rfl⟩
      have hBn := HBN.out
      have hsame : ∀ k, k ≠ w.heap.size → wn.heap[k]? = w4.heap[k]? := fun k hk => by rw [hwn]; exact heap_set4 _ _ _ _ _ _ _ hk
      have hzn : wn.heap.size = w4.heap.size := by rw [hwn]; exact size_set4 _ _ _ _ _ _
      have hBl : Below w.heap.size w4 wn := ⟨by rw [hwn]; rfl, by rw [hwn]; rfl, by rw [hwn]; rfl, by omega, fun k hk => hsame k (by omega)⟩
      rw [← hwn] at hBn ⊢
      have r0 := hBn.cell 0
      have r1 := hBn.cell 1
      have r2 := hBn.cell 2
      have r3 := hBn.cell 3
      simp only [List.getElem?_toArray, List.getElem?_cons_zero, List.getElem?_cons_succ] at r0 r1 r2 r3
      refine bodyPost_ret (v := .tuple #[.agg #[.int .i64 0, .int .i64 0, .string { data := #[] }, .slice none 0 0], .bool false]) (by simp [results, Tryz.results18, go_sem, r0, r1, r2, r3]) rfl ?_
      exact .inr ⟨HNR.out, rfl, HB4.out.trans hBl⟩
end Go.Proofs.YtodioplkgjpcjaaGreatDoor
