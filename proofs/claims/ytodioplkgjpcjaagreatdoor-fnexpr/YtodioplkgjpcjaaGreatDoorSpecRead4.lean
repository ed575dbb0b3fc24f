/-
  The contracts of the model's l4Level1, of all its reader of parts, and of its ExprRead.
-/
import Derived.Test.YtodioplkgjpcjaaGreatDoorSpecRead3
namespace Go.Proofs.YtodioplkgjpcjaaGreatDoor
open Go.RowKit

set_option linter.unusedVariables false in
set_option linter.unusedSimpArgs false in
set_option maxRecDepth 100000 in
set_option maxHeartbeats 4000000 in
theorem l4Level1_any (ws : List ByteArray) (A : Option Addr) (c d : Nat) (hd : d ≤ 100) (ih : LoopOk ws A c 2 d) : Lvl1Ok ws A c d := by
  intro k w hk C
  have hfw : ws.length ≤ 2 ^ 30 := C.few
  obtain ⟨W0, hW0⟩ : ∃ W0, W0 = w.alloc (.cells #[.int .i64 0, .int .i64 0, .string { data := #[] }, .slice none 0 0] 25) := ⟨_, rfl⟩
  have hb0 : Below w.heap.size w W0 := by rw [hW0]; exact (Below.refl _ w).alloc (Nat.le_refl _) _
  have hs0 : w.heap.size < W0.heap.size := by rw [hW0]; simp
  have HB6 := Lib.hid (show Blk W0 w.heap.size #[.int .i64 0, .int .i64 0, .string { data := #[] }, .slice none 0 0] by rw [hW0]; exact World.alloc_heap_new w _)
  have HA := Lib.hid (ih k W0 hk (C.below hb0))
  have HC := Lib.hid C
  have HI := Lib.hid (fun (k' : Nat) (V : World) (h1 : k' + 1 ≤ ws.length) (h2 : SpC V A ws) => (show Calls Tryz.prog 88 #[.slice A ws.length c, .int .i64 ((k' : Int) + 1), .int .i64 2, .int .i64 (d : Int)] V (SGot ws (SLoop ws 2 d (k' + 1)) (k' + 1) V) from ih (k' + 1) V h1 h2))
  clear ih C
  go_enter Tryz.func51, Tryz.ntmps51
  go_wp2_with fail
  rw [← hW0]
  clear hW0
  refine HA.out.mono ?_
  rintro e w1 (⟨p, k1, A1, c1, hr, rfl, hc1, hK1, hb1, hk1, hk2, hwt⟩ | ⟨a, b, s', A', n', c', hr, rfl, hb1⟩)
  · have HR := Lib.hid hr
    have HK1 := Lib.hid hK1
    obtain ⟨X, hX⟩ : ∃ X, X = w1.alloc (.cells #[.int .i64 p.ex.kind, .int .i64 p.ex.n, .string p.ex.s, .slice A1 p.ex.kids.length c1] 25) := ⟨_, rfl⟩
    have hbX1 : Below w1.heap.size w1 X := by rw [hX]; exact (Below.refl _ _).alloc (Nat.le_refl _) _
    have hz1 := hb1.size
    have hbX0 : Below W0.heap.size W0 X := hb1.trans (hbX1.mono hz1)
    have HBX := Lib.hid (show Below w.heap.size w X from hb0.trans (hbX0.mono hb0.size))
    have HX6 := Lib.hid (show Blk X w.heap.size #[.int .i64 0, .int .i64 0, .string { data := #[] }, .slice none 0 0] from (hbX0.block _ hs0).trans HB6.out)
    have HX8 := Lib.hid (show Blk X w1.heap.size #[.int .i64 p.ex.kind, .int .i64 p.ex.n, .string p.ex.s, .slice A1 p.ex.kids.length c1] by rw [hX]; exact World.alloc_heap_new w1 _)
    have HBN := Lib.hid (blk_set4 (.int .i64 p.ex.kind) (.int .i64 p.ex.n) (.string p.ex.s) (.slice A1 p.ex.kids.length c1) HX6.out)
    have HZX := Lib.hid (show X.heap.size = w1.heap.size + 1 by rw [hX]; simp)
    have HBX1 := Lib.hid hbX1
    clear hbX0 hbX1
    have z0 := HX6.out.cell 0
    have z1 := HX6.out.cell 1
    have z2 := HX6.out.cell 2
    have z3 := HX6.out.cell 3
    have zf0 := HX6.out.frozen 0
    have zf1 := HX6.out.frozen 1
    have zf2 := HX6.out.frozen 2
    have zf3 := HX6.out.frozen 3
    simp only [List.getElem?_toArray, List.getElem?_cons_zero, List.getElem?_cons_succ] at z0 z1 z2 z3
    have y0 := HX8.out.cell 0
    have y1 := HX8.out.cell 1
    have y2 := HX8.out.cell 2
    have y3 := HX8.out.cell 3
    have yf0 := HX8.out.frozen 0
    have yf1 := HX8.out.frozen 1
    have yf2 := HX8.out.frozen 2
    have yf3 := HX8.out.frozen 3
    simp only [List.getElem?_toArray, List.getElem?_cons_zero, List.getElem?_cons_succ] at y0 y1 y2 y3
    obtain ⟨t, ht⟩ : ∃ t, t = peekL ws k1 := ⟨_, rfl⟩
    have HT := Lib.hid ht
    have HAt := Lib.hid (l4At_any (HC.out.below HBX.out) (c := c) k1 (by omega))
    rw [← ht] at HAt
    clear ht hr hK1 HA
    by_cases h2 : t = sLess
    · have HH2 := Lib.hid h2
      rw [h2] at HAt
      unfold sLess at HAt
      have hlt1 : k1 < ws.length := speek_in (by rw [← HT.out, h2]; decide)
      have HNX := Lib.hid (HI.out k1 X (by omega) (HC.out.below HBX.out))
      clear h2
      go_wp2_with fail
      rw [← hX]
      clear hX
      refine HAt.out.mono ?_
      rintro e w2 ⟨rfl, rfl⟩
      go_wp2_with fail
      refine HNX.out.mono ?_
      rintro e w3 (⟨q, k3, A3, c3, hr3, rfl, hc3, hK3, hb3, hk3, hk4, hwt3⟩ | ⟨a, b, s', A', n', c', hr3, rfl, hb3⟩)
      · have HR3 := Lib.hid hr3
        have HK3 := Lib.hid hK3
        clear hr3 hK3 HNX
        have hz3 := hb3.size
        have HY6 := Lib.hid (show Blk w3 w.heap.size #[.int .i64 0, .int .i64 0, .string { data := #[] }, .slice none 0 0] from (hb3.block _ HX6.out.lt).trans HX6.out)
        have HY8 := Lib.hid (show Blk w3 w1.heap.size #[.int .i64 p.ex.kind, .int .i64 p.ex.n, .string p.ex.s, .slice A1 p.ex.kids.length c1] from (hb3.block _ HX8.out.lt).trans HX8.out)
        have hE0 : w.heap.size < w3.heap.size := HY6.out.lt
        have hE1 : w1.heap.size < w3.heap.size := HY8.out.lt
        clear z0 z1 z2 z3 zf0 zf1 zf2 zf3 y0 y1 y2 y3 yf0 yf1 yf2 yf3
        have z0 := HY6.out.cell 0
        have z1 := HY6.out.cell 1
        have z2 := HY6.out.cell 2
        have z3 := HY6.out.cell 3
        have zf0 := HY6.out.frozen 0
        have zf1 := HY6.out.frozen 1
        have zf2 := HY6.out.frozen 2
        have zf3 := HY6.out.frozen 3
        simp only [List.getElem?_toArray, List.getElem?_cons_zero, List.getElem?_cons_succ] at z0 z1 z2 z3
        have y0 := HY8.out.cell 0
        have y1 := HY8.out.cell 1
        have y2 := HY8.out.cell 2
        have y3 := HY8.out.cell 3
        have yf0 := HY8.out.frozen 0
        have yf1 := HY8.out.frozen 1
        have yf2 := HY8.out.frozen 2
        have yf3 := HY8.out.frozen 3
        simp only [List.getElem?_toArray, List.getElem?_cons_zero, List.getElem?_cons_succ] at y0 y1 y2 y3
        have HBH := Lib.hid (behind2 w3 w.heap.size (.int .i64 3) (.int .i64 0) (.string ⟨#[60]⟩) (.slice (some ⟨w3.heap.size + 1, 0, none⟩) 2 2) (.cells #[.int .i64 q.ex.kind, .int .i64 q.ex.n, .string q.ex.s, .slice A3 q.ex.kids.length c3] 25) (.cells #[.int .i64 p.ex.kind, .int .i64 p.ex.n, .string p.ex.s, .slice A1 p.ex.kids.length c1, .int .i64 q.ex.kind, .int .i64 q.ex.n, .string q.ex.s, .slice A3 q.ex.kids.length c3] 25))
        have HNE := Lib.hid (blk2 (.int .i64 3) (.int .i64 0) (.string ⟨#[60]⟩) (.slice (some ⟨w3.heap.size + 1, 0, none⟩) 2 2) (.cells #[.int .i64 q.ex.kind, .int .i64 q.ex.n, .string q.ex.s, .slice A3 q.ex.kids.length c3] 25) (.cells #[.int .i64 p.ex.kind, .int .i64 p.ex.n, .string p.ex.s, .slice A1 p.ex.kids.length c1, .int .i64 q.ex.kind, .int .i64 q.ex.n, .string q.ex.s, .slice A3 q.ex.kids.length c3] 25) HY6.out)
        have HNK := Lib.hid (at2b w3 w.heap.size (.int .i64 3) (.int .i64 0) (.string ⟨#[60]⟩) (.slice (some ⟨w3.heap.size + 1, 0, none⟩) 2 2) (.cells #[.int .i64 q.ex.kind, .int .i64 q.ex.n, .string q.ex.s, .slice A3 q.ex.kids.length c3] 25) (.cells #[.int .i64 p.ex.kind, .int .i64 p.ex.n, .string p.ex.s, .slice A1 p.ex.kids.length c1, .int .i64 q.ex.kind, .int .i64 q.ex.n, .string q.ex.s, .slice A3 q.ex.kids.length c3] 25))
        have HZN := Lib.hid (show w3.heap.size + 1 < ((((((w3.setCell ⟨w.heap.size, 0, none⟩ (.int .i64 3)).setCell ⟨w.heap.size, 1, none⟩ (.int .i64 0)).setCell ⟨w.heap.size, 2, none⟩ (.string ⟨#[60]⟩)).setCell ⟨w.heap.size, 3, none⟩ (.slice (some ⟨w3.heap.size + 1, 0, none⟩) 2 2)).alloc (.cells #[.int .i64 q.ex.kind, .int .i64 q.ex.n, .string q.ex.s, .slice A3 q.ex.kids.length c3] 25)).alloc (.cells #[.int .i64 p.ex.kind, .int .i64 p.ex.n, .string p.ex.s, .slice A1 p.ex.kids.length c1, .int .i64 q.ex.kind, .int .i64 q.ex.n, .string q.ex.s, .slice A3 q.ex.kids.length c3] 25)).heap.size by simp)
        go_wp2_with fail
        obtain ⟨wn, hwn⟩ : ∃ wn, wn = (((((w3.setCell ⟨w.heap.size, 0, none⟩ (.int .i64 3)).setCell ⟨w.heap.size, 1, none⟩ (.int .i64 0)).setCell ⟨w.heap.size, 2, none⟩ (.string ⟨#[60]⟩)).setCell ⟨w.heap.size, 3, none⟩ (.slice (some ⟨w3.heap.size + 1, 0, none⟩) 2 2)).alloc (.cells #[.int .i64 q.ex.kind, .int .i64 q.ex.n, .string q.ex.s, .slice A3 q.ex.kids.length c3] 25)).alloc (.cells #[.int .i64 p.ex.kind, .int .i64 p.ex.n, .string p.ex.s, .slice A1 p.ex.kids.length c1, .int .i64 q.ex.kind, .int .i64 q.ex.n, .string q.ex.s, .slice A3 q.ex.kids.length c3] 25) := ⟨_, rfl⟩
        have hBn : Blk wn w.heap.size #[.int .i64 3, .int .i64 0, .string ⟨#[60]⟩, .slice (some ⟨w3.heap.size + 1, 0, none⟩) 2 2] := by rw [hwn]; exact HNE.out
        have hNK : Blk wn (w3.heap.size + 1) #[.int .i64 p.ex.kind, .int .i64 p.ex.n, .string p.ex.s, .slice A1 p.ex.kids.length c1, .int .i64 q.ex.kind, .int .i64 q.ex.n, .string q.ex.s, .slice A3 q.ex.kids.length c3] := by rw [hwn]; exact HNK.out
        have hBH : Behind5 w.heap.size w3 wn := by rw [hwn]; exact HBH.out
        have hzn : w3.heap.size + 1 < wn.heap.size := by rw [hwn]; exact HZN.out
        rw [← hwn]
        have r0 := hBn.cell 0
        have r1 := hBn.cell 1
        have r2 := hBn.cell 2
        have r3 := hBn.cell 3
        simp only [List.getElem?_toArray, List.getElem?_cons_zero, List.getElem?_cons_succ] at r0 r1 r2 r3
        have hzX := HZX.out
        refine bodyPost_ret (v := .tuple #[.agg #[.int .i64 3, .int .i64 0, .string ⟨#[60]⟩, .slice (some ⟨w3.heap.size + 1, 0, none⟩) 2 2], .int .i64 (k3 : Int)]) (by simp [results, Tryz.results51, go_sem, r0, r1, r2, r3]) rfl ?_
        exact .inl ⟨.two sLess p q, k3, some ⟨w3.heap.size + 1, 0, none⟩, 2, .less HR.out (by rw [← HT.out, HH2.out]) HR3.out, rfl, Nat.le_refl _,
          kidsS_two ⟨by omega, hzn⟩ hNK hc1 hc3 (HK1.out.keep (fun b h => ⟨by omega, by omega⟩) (fun b h => (hBH.1 b (by omega) (by omega)).trans ((hb3.block b (by omega)).trans (HBX1.out.block b h.2)))) (HK3.out.keep (fun b h => ⟨by omega, by omega⟩) (fun b h => hBH.1 b (by omega) (by omega))), (HBX.out.trans ((hb3.mono HBX.out.size).trans (below_behind hBH _ (Nat.le_refl _) (by omega)))), by omega, by omega, by have h1 : sLess.size = 1 := rfl; simp only [Pt.ex, Ex.wt, Ex.wts]; omega⟩
      · have HR3 := Lib.hid hr3
        clear hr3 HNX
        have hz3 := hb3.size
        have HY6 := Lib.hid (show Blk w3 w.heap.size #[.int .i64 0, .int .i64 0, .string { data := #[] }, .slice none 0 0] from (hb3.block _ HX6.out.lt).trans HX6.out)
        have HY8 := Lib.hid (show Blk w3 w1.heap.size #[.int .i64 p.ex.kind, .int .i64 p.ex.n, .string p.ex.s, .slice A1 p.ex.kids.length c1] from (hb3.block _ HX8.out.lt).trans HX8.out)
        have hE0 : w.heap.size < w3.heap.size := HY6.out.lt
        have hE1 : w1.heap.size < w3.heap.size := HY8.out.lt
        clear z0 z1 z2 z3 zf0 zf1 zf2 zf3 y0 y1 y2 y3 yf0 yf1 yf2 yf3
        have z0 := HY6.out.cell 0
        have z1 := HY6.out.cell 1
        have z2 := HY6.out.cell 2
        have z3 := HY6.out.cell 3
        have zf0 := HY6.out.frozen 0
        have zf1 := HY6.out.frozen 1
        have zf2 := HY6.out.frozen 2
        have zf3 := HY6.out.frozen 3
        simp only [List.getElem?_toArray, List.getElem?_cons_zero, List.getElem?_cons_succ] at z0 z1 z2 z3
        have y0 := HY8.out.cell 0
        have y1 := HY8.out.cell 1
        have y2 := HY8.out.cell 2
        have y3 := HY8.out.cell 3
        have yf0 := HY8.out.frozen 0
        have yf1 := HY8.out.frozen 1
        have yf2 := HY8.out.frozen 2
        have yf3 := HY8.out.frozen 3
        simp only [List.getElem?_toArray, List.getElem?_cons_zero, List.getElem?_cons_succ] at y0 y1 y2 y3
        have HBH := Lib.hid (behind2 w3 w.heap.size (.int .i64 3) (.int .i64 0) (.string ⟨#[60]⟩) (.slice (some ⟨w3.heap.size + 1, 0, none⟩) 2 2) (.cells #[.int .i64 a, .int .i64 b, .string s', .slice A' n' c'] 25) (.cells #[.int .i64 p.ex.kind, .int .i64 p.ex.n, .string p.ex.s, .slice A1 p.ex.kids.length c1, .int .i64 a, .int .i64 b, .string s', .slice A' n' c'] 25))
        have HNE := Lib.hid (blk2 (.int .i64 3) (.int .i64 0) (.string ⟨#[60]⟩) (.slice (some ⟨w3.heap.size + 1, 0, none⟩) 2 2) (.cells #[.int .i64 a, .int .i64 b, .string s', .slice A' n' c'] 25) (.cells #[.int .i64 p.ex.kind, .int .i64 p.ex.n, .string p.ex.s, .slice A1 p.ex.kids.length c1, .int .i64 a, .int .i64 b, .string s', .slice A' n' c'] 25) HY6.out)
        have HNK := Lib.hid (at2b w3 w.heap.size (.int .i64 3) (.int .i64 0) (.string ⟨#[60]⟩) (.slice (some ⟨w3.heap.size + 1, 0, none⟩) 2 2) (.cells #[.int .i64 a, .int .i64 b, .string s', .slice A' n' c'] 25) (.cells #[.int .i64 p.ex.kind, .int .i64 p.ex.n, .string p.ex.s, .slice A1 p.ex.kids.length c1, .int .i64 a, .int .i64 b, .string s', .slice A' n' c'] 25))
        have HZN := Lib.hid (show w3.heap.size + 1 < ((((((w3.setCell ⟨w.heap.size, 0, none⟩ (.int .i64 3)).setCell ⟨w.heap.size, 1, none⟩ (.int .i64 0)).setCell ⟨w.heap.size, 2, none⟩ (.string ⟨#[60]⟩)).setCell ⟨w.heap.size, 3, none⟩ (.slice (some ⟨w3.heap.size + 1, 0, none⟩) 2 2)).alloc (.cells #[.int .i64 a, .int .i64 b, .string s', .slice A' n' c'] 25)).alloc (.cells #[.int .i64 p.ex.kind, .int .i64 p.ex.n, .string p.ex.s, .slice A1 p.ex.kids.length c1, .int .i64 a, .int .i64 b, .string s', .slice A' n' c'] 25)).heap.size by simp)
        go_wp2_with fail
        obtain ⟨wn, hwn⟩ : ∃ wn, wn = (((((w3.setCell ⟨w.heap.size, 0, none⟩ (.int .i64 3)).setCell ⟨w.heap.size, 1, none⟩ (.int .i64 0)).setCell ⟨w.heap.size, 2, none⟩ (.string ⟨#[60]⟩)).setCell ⟨w.heap.size, 3, none⟩ (.slice (some ⟨w3.heap.size + 1, 0, none⟩) 2 2)).alloc (.cells #[.int .i64 a, .int .i64 b, .string s', .slice A' n' c'] 25)).alloc (.cells #[.int .i64 p.ex.kind, .int .i64 p.ex.n, .string p.ex.s, .slice A1 p.ex.kids.length c1, .int .i64 a, .int .i64 b, .string s', .slice A' n' c'] 25) := ⟨_, rfl⟩
        have hBn : Blk wn w.heap.size #[.int .i64 3, .int .i64 0, .string ⟨#[60]⟩, .slice (some ⟨w3.heap.size + 1, 0, none⟩) 2 2] := by rw [hwn]; exact HNE.out
        have hNK : Blk wn (w3.heap.size + 1) #[.int .i64 p.ex.kind, .int .i64 p.ex.n, .string p.ex.s, .slice A1 p.ex.kids.length c1, .int .i64 a, .int .i64 b, .string s', .slice A' n' c'] := by rw [hwn]; exact HNK.out
        have hBH : Behind5 w.heap.size w3 wn := by rw [hwn]; exact HBH.out
        have hzn : w3.heap.size + 1 < wn.heap.size := by rw [hwn]; exact HZN.out
        rw [← hwn]
        have r0 := hBn.cell 0
        have r1 := hBn.cell 1
        have r2 := hBn.cell 2
        have r3 := hBn.cell 3
        simp only [List.getElem?_toArray, List.getElem?_cons_zero, List.getElem?_cons_succ] at r0 r1 r2 r3
        have hzX := HZX.out
        refine bodyPost_ret (v := .tuple #[.agg #[.int .i64 3, .int .i64 0, .string ⟨#[60]⟩, .slice (some ⟨w3.heap.size + 1, 0, none⟩) 2 2], .int .i64 (-1)]) (by simp [results, Tryz.results51, go_sem, r0, r1, r2, r3]) rfl ?_
        exact .inr ⟨_, _, _, _, _, _, .lessNo HR.out (by rw [← HT.out, HH2.out]) HR3.out, rfl, (HBX.out.trans ((hb3.mono HBX.out.size).trans (below_behind hBH _ (Nat.le_refl _) (by omega))))⟩
    · have q6 : (!t.toList == [60]) = true := by rw [isS]; simp; exact h2
      have HH2 := Lib.hid h2
      clear h2
      go_wp2_with fail
      rw [← hX]
      clear hX
      refine HAt.out.mono ?_
      rintro e w2 ⟨rfl, rfl⟩
      go_wp2_with fail
      obtain ⟨wn, hwn⟩ : ∃ wn, wn = (((X.setCell ⟨w.heap.size, 0, none⟩ (.int .i64 p.ex.kind)).setCell ⟨w.heap.size, 1, none⟩ (.int .i64 p.ex.n)).setCell ⟨w.heap.size, 2, none⟩ (.string p.ex.s)).setCell ⟨w.heap.size, 3, none⟩ (.slice A1 p.ex.kids.length c1) := ⟨_, rfl⟩
      have hBn := HBN.out
      have hsame : ∀ k, k ≠ w.heap.size → wn.heap[k]? = X.heap[k]? := fun k hk => by rw [hwn]; exact heap_set4 _ _ _ _ _ _ _ hk
      have hzn : wn.heap.size = X.heap.size := by rw [hwn]; exact size_set4 _ _ _ _ _ _
      have hBl : Below w.heap.size X wn := ⟨by rw [hwn]; rfl, by rw [hwn]; rfl, by rw [hwn]; rfl, by omega, fun k hk => hsame k (by omega)⟩
      rw [← hwn] at hBn ⊢
      have r0 := hBn.cell 0
      have r1 := hBn.cell 1
      have r2 := hBn.cell 2
      have r3 := hBn.cell 3
      simp only [List.getElem?_toArray, List.getElem?_cons_zero, List.getElem?_cons_succ] at r0 r1 r2 r3
      refine bodyPost_ret (v := .tuple #[.agg #[.int .i64 p.ex.kind, .int .i64 p.ex.n, .string p.ex.s, .slice A1 p.ex.kids.length c1], .int .i64 (k1 : Int)]) (by simp [results, Tryz.results51, go_sem, r0, r1, r2, r3]) rfl ?_
      exact .inl ⟨p, k1, A1, c1, .stop HR.out (by rw [← HT.out]; exact HH2.out), rfl, hc1, HK1.out.keep (fun b h => ⟨by omega, by have := HZX.out; omega⟩) (fun b h => (hsame b (by omega)).trans (HBX1.out.block b h.2)), HBX.out.trans hBl, hk1, hk2, hwt⟩
  · have HR := Lib.hid hr
    obtain ⟨X, hX⟩ : ∃ X, X = w1.alloc (.cells #[.int .i64 a, .int .i64 b, .string s', .slice A' n' c'] 25) := ⟨_, rfl⟩
    have hbX1 : Below w1.heap.size w1 X := by rw [hX]; exact (Below.refl _ _).alloc (Nat.le_refl _) _
    have hz1 := hb1.size
    have hbX0 : Below W0.heap.size W0 X := hb1.trans (hbX1.mono hz1)
    have HBX := Lib.hid (show Below w.heap.size w X from hb0.trans (hbX0.mono hb0.size))
    have HX6 := Lib.hid (show Blk X w.heap.size #[.int .i64 0, .int .i64 0, .string { data := #[] }, .slice none 0 0] from (hbX0.block _ hs0).trans HB6.out)
    have HX8 := Lib.hid (show Blk X w1.heap.size #[.int .i64 a, .int .i64 b, .string s', .slice A' n' c'] by rw [hX]; exact World.alloc_heap_new w1 _)
    have HBN := Lib.hid (blk_set4 (.int .i64 a) (.int .i64 b) (.string s') (.slice A' n' c') HX6.out)
    have HZX := Lib.hid (show X.heap.size = w1.heap.size + 1 by rw [hX]; simp)
    have HBX1 := Lib.hid hbX1
    clear hbX0 hbX1
    have z0 := HX6.out.cell 0
    have z1 := HX6.out.cell 1
    have z2 := HX6.out.cell 2
    have z3 := HX6.out.cell 3
    have zf0 := HX6.out.frozen 0
    have zf1 := HX6.out.frozen 1
    have zf2 := HX6.out.frozen 2
    have zf3 := HX6.out.frozen 3
    simp only [List.getElem?_toArray, List.getElem?_cons_zero, List.getElem?_cons_succ] at z0 z1 z2 z3
    have y0 := HX8.out.cell 0
    have y1 := HX8.out.cell 1
    have y2 := HX8.out.cell 2
    have y3 := HX8.out.cell 3
    have yf0 := HX8.out.frozen 0
    have yf1 := HX8.out.frozen 1
    have yf2 := HX8.out.frozen 2
    have yf3 := HX8.out.frozen 3
    simp only [List.getElem?_toArray, List.getElem?_cons_zero, List.getElem?_cons_succ] at y0 y1 y2 y3
    rw [hX] at z0 z1 z2 z3 zf0 zf1 zf2 zf3 y0 y1 y2 y3 yf0 yf1 yf2 yf3
    clear hr HA
    go_wp2_with fail
    rw [← hX]
    obtain ⟨wn, hwn⟩ : ∃ wn, wn = (((X.setCell ⟨w.heap.size, 0, none⟩ (.int .i64 a)).setCell ⟨w.heap.size, 1, none⟩ (.int .i64 b)).setCell ⟨w.heap.size, 2, none⟩ (.string s')).setCell ⟨w.heap.size, 3, none⟩ (.slice A' n' c') := ⟨_, rfl⟩
    have hBn := HBN.out
    have hsame : ∀ k, k ≠ w.heap.size → wn.heap[k]? = X.heap[k]? := fun k hk => by rw [hwn]; exact heap_set4 _ _ _ _ _ _ _ hk
    have hzn : wn.heap.size = X.heap.size := by rw [hwn]; exact size_set4 _ _ _ _ _ _
    have hBl : Below w.heap.size X wn := ⟨by rw [hwn]; rfl, by rw [hwn]; rfl, by rw [hwn]; rfl, by omega, fun k hk => hsame k (by omega)⟩
    rw [← hwn] at hBn ⊢
    have r0 := hBn.cell 0
    have r1 := hBn.cell 1
    have r2 := hBn.cell 2
    have r3 := hBn.cell 3
    simp only [List.getElem?_toArray, List.getElem?_cons_zero, List.getElem?_cons_succ] at r0 r1 r2 r3
    refine bodyPost_ret (v := .tuple #[.agg #[.int .i64 a, .int .i64 b, .string s', .slice A' n' c'], .int .i64 (-1)]) (by simp [results, Tryz.results51, go_sem, r0, r1, r2, r3]) rfl ?_
    exact .inr ⟨_, _, _, _, _, _, .no HR.out, rfl, HBX.out.trans hBl⟩

theorem sread_all (ws : List ByteArray) (A : Option Addr) (c : Nat) : ∀ d, d ≤ 100 → Lvl1Ok ws A c d := by
  intro d
  induction d with
  | zero =>
    intro h
    have h4 := l4Loop_four ws A c 0 h (l4Atom_any ws A c 0 h (fun d' e => by omega))
    exact l4Level1_any ws A c 0 h (l4Loop_low ws A c 2 0 h (.inl rfl) (l4Loop_low ws A c 3 0 h (.inr rfl) h4))
  | succ d ih =>
    intro h
    have h4 := l4Loop_four ws A c (d + 1) h (l4Atom_any ws A c (d + 1) h (fun d' e => by obtain rfl : d = d' := (by omega); exact ih (by omega)))
    exact l4Level1_any ws A c (d + 1) h (l4Loop_low ws A c 2 (d + 1) h (.inl rfl) (l4Loop_low ws A c 3 (d + 1) h (.inr rfl) h4))
end Go.Proofs.YtodioplkgjpcjaaGreatDoor
