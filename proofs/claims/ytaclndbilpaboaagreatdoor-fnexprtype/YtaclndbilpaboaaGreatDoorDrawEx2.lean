/-
  The contracts of the model's l4Some and l4Bent: what is drawn to be reckoned, one in twelve bent, for all codes.
-/
import Derived.Test.YtaclndbilpaboaaGreatDoorDrawEx
import Derived.Test.YtaclndbilpaboaaGreatDoorSpecMany
namespace Go.Proofs.YtaclndbilpaboaaGreatDoor
open Go.RowKit

theorem below_rd {w w' : World} {B g : Nat} {A : Option Addr} {len cap p : Nat} (h : Rd w B g A len cap p) (hb : Below w.heap.size w w') : Rd w' B g A len cap p :=
  rd_keep h (hb.block g h.lt) (fun k hk => hb.block k (by have := h.lt; have := h.2.1; omega))
theorem grown_below' {w w1 w2 : World} {g : Nat} (h : w.grownBy w1 (some g)) (hb : Below w1.heap.size w1 w2) : w.grownBy w2 (some g) :=
  ⟨hb.os.trans h.os, hb.tape.trans h.tape, hb.output.trans h.output, Nat.le_trans h.size hb.size, fun i hi hne => (hb.block i (Nat.lt_of_lt_of_le hi h.size)).trans (h.block i hi hne)⟩
theorem own_head {w : World} {e : Ex} {k n : Int} {s : ByteArray} {lo hi : Nat} {A : Option Addr} (h : OwnE w e lo hi A) : OwnE w (.mk k n s e.kids) lo hi A := by
  obtain ⟨k', n', s', ks⟩ := e
  rw [OwnE] at h
  rw [OwnE]
  exact h
theorem Ex.short_s {e : Ex} (h : e.short) : e.s.size ≤ 4 := by obtain ⟨k, n, s, ks⟩ := e; rw [Ex.short] at h; exact h.1
theorem short_head {e : Ex} {k n : Int} {s : ByteArray} (h : e.short) (hs : s.size ≤ 4) : (Ex.mk k n s e.kids).short := by
  obtain ⟨k', n', s', ks⟩ := e
  rw [Ex.short] at h
  rw [Ex.short]
  exact ⟨hs, h.2⟩
theorem wt_head {e : Ex} {k n : Int} {s : ByteArray} (h : e.wt ≤ 1000) (hs : s.size ≤ 4) : (Ex.mk k n s e.kids).wt ≤ 2000 := by
  obtain ⟨k', n', s', ks⟩ := e
  rw [Ex.wt] at h
  rw [Ex.wt]
  simp only [Ex.kids]
  omega

set_option maxRecDepth 100000 in
set_option maxHeartbeats 4000000 in
theorem l4Some_shp (B g : Nat) (A0 : Option Addr) (len cap p : Nat) (w : World) (hr : Rd w B g A0 len cap p) (hp : p ≤ 2 ^ 18) :
    Calls Tryz.prog 49 #[.pointer (some ⟨g, 0, none⟩)] w (DrewP 100 1000 w B g A0 len cap p) := by
  have hgw := hr.lt
  have hgr0 : w.grownBy (w.alloc (.cells #[.int .i64 0, .int .i64 0, .string { data := #[] }, .slice none 0 0] 31)) (some g) := grown_alloc (grown_refl w (some g)) _
  have hB0 : Blk (w.alloc (.cells #[.int .i64 0, .int .i64 0, .string { data := #[] }, .slice none 0 0] 31)) w.heap.size #[.int .i64 0, .int .i64 0, .string { data := #[] }, .slice none 0 0] := World.alloc_heap_new w _
  have hr0 := hr.alloc (.cells #[.int .i64 0, .int .i64 0, .string { data := #[] }, .slice none 0 0] 31)
  have r3 : rdE 3 = 59 := rfl
  have r1 : rdE 1 = 11 := rfl
  have b3 : bndE 3 = 150 := rfl
  have b1 : bndE 1 = 30 := rfl
  clear hr
  go_enter Tryz.func49, Tryz.ntmps49
  go_wp2_with fail
  refine (pick_any B g A0 len cap p 4 _ hr0 (by omega) (by omega) (by omega)).mono ?_
  rintro r w1 ⟨v, hv, rfl, q1, hq1, hq2, hrd1, hgr1'⟩
  have hgr1 := grown_trans hgr0 hgr1'
  have hB1 := blk_grown hB0 hgr1' (by omega)
  have HI := Lib.hid (l4Expr_shp B g A0 len cap 3 (1 + v) q1 w1 (by omega) (by omega) hrd1 (by rw [r3]; omega))
  rw [show ((1 + v : Nat) : Int) = 1 + (v : Int) by omega] at HI
  clear hgr1' hr0 hgr0 hB0
  go_wp2_with fail
  refine HI.out.mono ?_
  rintro r w2 ⟨e, A, c, rfl, hc, hO2, hS2, hwt, q2, hq3, hq4, hrd2, hgr2'⟩
  have hgr2 := grown_trans hgr1 hgr2'
  have hB2 := blk_grown hB1 hgr2' (by omega)
  have hlo := hB1.lt
  have hw2 := hgr2'.size
  have hkl : e.kids.length ≤ 2 ^ 40 := by
    obtain ⟨k, n, s, ks⟩ := e
    have := Ex.wts_length ks
    simp only [Ex.wt, Ex.kids] at hwt ⊢
    omega
  rw [r3] at hq4
  rw [b3] at hwt
  have HS := Lib.hid hS2
  obtain ⟨W3, hW3⟩ : ∃ W3, W3 = w2.alloc (.cells #[.int .i64 e.kind, .int .i64 e.n, .string e.s, .slice A e.kids.length c] 31) := ⟨_, rfl⟩
  have hb3 : Below w2.heap.size w2 W3 := by rw [hW3]; exact (Below.refl _ w2).alloc (Nat.le_refl _) _
  have hs3 : w2.heap.size < W3.heap.size := by rw [hW3]; simp
  have hE3 : Blk W3 w2.heap.size #[.int .i64 e.kind, .int .i64 e.n, .string e.s, .slice A e.kids.length c] := by rw [hW3]; exact World.alloc_heap_new w2 _
  have hrd3 := below_rd hrd2 hb3
  have hgr3 := grown_below' hgr2 hb3
  have hB3 : Blk W3 w.heap.size #[.int .i64 0, .int .i64 0, .string { data := #[] }, .slice none 0 0] := (hb3.block _ hB2.lt).trans hB2
  have hO3 := own_keep _ _ _ _ (fun k h1 h2 => hb3.block k h2) hO2
  have HC := Lib.hid (specExprOk_any e A c w2.heap.size W3 (own_kids e _ _ _ _ hO3 (Nat.le_refl _)) hc (Nat.le_of_lt hs3) (by omega))
  generalize okE e = ok at *
  clear hrd1 hgr1 hB1 hgr2' hrd2 hgr2 hB2 hO2 hS2 HI
  go_wp2_with fail
  rw [← hW3]
  clear hW3
  refine HC.out.mono ?_
  rintro r w4 ⟨rfl, hb4⟩
  have hrd4 := below_rd hrd3 hb4
  have hgr4 := grown_below' hgr3 hb4
  have hB4 : Blk w4 w.heap.size #[.int .i64 0, .int .i64 0, .string { data := #[] }, .slice none 0 0] := (hb4.block _ hB3.lt).trans hB3
  have hE4 : Blk w4 w2.heap.size #[.int .i64 e.kind, .int .i64 e.n, .string e.s, .slice A e.kids.length c] := (hb4.block _ hE3.lt).trans hE3
  have hO4 := own_keep _ _ _ _ (fun k h1 h2 => hb4.block k (by omega)) hO3
  have hs4 := hb4.size
  clear hrd3 hgr3 hB3 hE3 hO3 HC
  cases ok
  · have HJ := Lib.hid (l4Expr_shp B g A0 len cap 1 2 q2 w4 (by omega) (by omega) hrd4 (by rw [r1]; omega))
    clear hE4 hO4 HS
    go_wp2_with fail
    refine HJ.out.mono ?_
    rintro r w5 ⟨e', A', c', rfl, hc', hO5, hS5, hwt5, q5, hq5, hq6, hrd, hgr5'⟩
    have hgr := grown_trans hgr4 hgr5'
    have hB := blk_grown hB4 hgr5' (by omega)
    have HO := Lib.hid hO5
    have HS := Lib.hid hS5
    rw [r1] at hq6
    rw [b1] at hwt5
    have hqa : p ≤ q5 := by omega
    have hqb : q5 ≤ p + 100 := by omega
    have hw5 := hgr5'.size
    have hl4 := hB4.lt
    clear hrd4 hgr4 hB4 hgr5' hO5 hS5 HJ
    have x0 := hB.cell 0
    have x1 := hB.cell 1
    have x2 := hB.cell 2
    have x3 := hB.cell 3
    have f0 := hB.frozen 0
    have f1 := hB.frozen 1
    have f2 := hB.frozen 2
    have f3 := hB.frozen 3
    simp only [List.getElem?_toArray, List.getElem?_cons_zero, List.getElem?_cons_succ] at x0 x1 x2 x3
    have HEND := Lib.hid (end_draw (v0 := .int .i64 e'.kind) (v1 := .int .i64 e'.n) (v2 := .string e'.s) (v3 := .slice A' e'.kids.length c') hrd hqa hqb hgr hgw hB)
    have hlo := hB.lt
    clear hrd hgr hB
    go_wp2_with fail
    obtain ⟨wn, hwn⟩ : ∃ wn, wn = (((w5.setCell ⟨w.heap.size, 0, none⟩ (.int .i64 e'.kind)).setCell ⟨w.heap.size, 1, none⟩ (.int .i64 e'.n)).setCell ⟨w.heap.size, 2, none⟩ (.string e'.s)).setCell ⟨w.heap.size, 3, none⟩ (.slice A' e'.kids.length c') := ⟨_, rfl⟩
    rw [← hwn]
    obtain ⟨hBn, hRn, hSn, hZn⟩ := HEND.out wn hwn
    have r0 := hBn.cell 0
    have r1 := hBn.cell 1
    have r2 := hBn.cell 2
    have r3 := hBn.cell 3
    simp only [List.getElem?_toArray, List.getElem?_cons_zero, List.getElem?_cons_succ] at r0 r1 r2 r3
    refine bodyPost_ret (v := .agg #[.int .i64 e'.kind, .int .i64 e'.n, .string e'.s, .slice A' e'.kids.length c']) (by simp [results, Tryz.results49, go_sem, r0, r1, r2, r3]) rfl ?_
    exact ⟨e', A', c', rfl, hc', own_wide (own_keep _ _ _ _ (fun k h1 h2 => hSn k (by omega)) HO.out) (by omega) (by omega), HS.out, by omega, hRn⟩
  · have y0 := hE4.cell 0
    have y1 := hE4.cell 1
    have y2 := hE4.cell 2
    have y3 := hE4.cell 3
    simp only [List.getElem?_toArray, List.getElem?_cons_zero, List.getElem?_cons_succ] at y0 y1 y2 y3
    have hrd := hrd4
    have hgr := hgr4
    have hB := hB4
    have HO := Lib.hid hO4
    have hqa : p ≤ q2 := by omega
    have hqb : q2 ≤ p + 100 := by omega
    clear hrd4 hgr4 hB4 hE4 hO4
    have x0 := hB.cell 0
    have x1 := hB.cell 1
    have x2 := hB.cell 2
    have x3 := hB.cell 3
    have f0 := hB.frozen 0
    have f1 := hB.frozen 1
    have f2 := hB.frozen 2
    have f3 := hB.frozen 3
    simp only [List.getElem?_toArray, List.getElem?_cons_zero, List.getElem?_cons_succ] at x0 x1 x2 x3
    have HEND := Lib.hid (end_draw (v0 := .int .i64 e.kind) (v1 := .int .i64 e.n) (v2 := .string e.s) (v3 := .slice A e.kids.length c) hrd hqa hqb hgr hgw hB)
    have hlo := hB.lt
    clear hrd hgr hB
    go_wp2_with fail
    obtain ⟨wn, hwn⟩ : ∃ wn, wn = (((w4.setCell ⟨w.heap.size, 0, none⟩ (.int .i64 e.kind)).setCell ⟨w.heap.size, 1, none⟩ (.int .i64 e.n)).setCell ⟨w.heap.size, 2, none⟩ (.string e.s)).setCell ⟨w.heap.size, 3, none⟩ (.slice A e.kids.length c) := ⟨_, rfl⟩
    rw [← hwn]
    obtain ⟨hBn, hRn, hSn, hZn⟩ := HEND.out wn hwn
    have r0 := hBn.cell 0
    have r1 := hBn.cell 1
    have r2 := hBn.cell 2
    have r3 := hBn.cell 3
    simp only [List.getElem?_toArray, List.getElem?_cons_zero, List.getElem?_cons_succ] at r0 r1 r2 r3
    refine bodyPost_ret (v := .agg #[.int .i64 e.kind, .int .i64 e.n, .string e.s, .slice A e.kids.length c]) (by simp [results, Tryz.results49, go_sem, r0, r1, r2, r3]) rfl ?_
    exact ⟨e, A, c, rfl, hc, own_wide (own_keep _ _ _ _ (fun k h1 h2 => hSn k (by omega)) HO.out) (by omega) (by omega), HS.out, by omega, hRn⟩

theorem l4Some_any (B g : Nat) (A0 : Option Addr) (len cap p : Nat) (w : World) (hr : Rd w B g A0 len cap p) (hp : p ≤ 2 ^ 18) :
    Calls Tryz.prog 49 #[.pointer (some ⟨g, 0, none⟩)] w (DrewE 100 1000 w B g A0 len cap p) := (l4Some_shp B g A0 len cap p w hr hp).mono (fun _ _ h => h.drop)

set_option maxRecDepth 100000 in
set_option maxHeartbeats 4000000 in
theorem l4Bent_any (B g : Nat) (A0 : Option Addr) (len cap p : Nat) (w : World) (hr : Rd w B g A0 len cap p) (hp : p ≤ 2 ^ 17) :
    Calls Tryz.prog 33 #[.pointer (some ⟨g, 0, none⟩)] w (DrewE 200 2000 w B g A0 len cap p) := by
  have hgw := hr.lt
  have hgr0 : w.grownBy (w.alloc (.cells #[.int .i64 0, .int .i64 0, .string { data := #[] }, .slice none 0 0] 31)) (some g) := grown_alloc (grown_refl w (some g)) _
  have hB0 : Blk (w.alloc (.cells #[.int .i64 0, .int .i64 0, .string { data := #[] }, .slice none 0 0] 31)) w.heap.size #[.int .i64 0, .int .i64 0, .string { data := #[] }, .slice none 0 0] := World.alloc_heap_new w _
  have hr0 := hr.alloc (.cells #[.int .i64 0, .int .i64 0, .string { data := #[] }, .slice none 0 0] 31)
  have HI := Lib.hid (l4Some_any B g A0 len cap p _ hr0 (by omega))
  clear hr
  go_enter Tryz.func33, Tryz.ntmps33
  go_wp2_with fail
  refine HI.out.mono ?_
  rintro r w2 ⟨e, A, c, rfl, hc, hO2, hS2, hwt, q2, hq3, hq4, hrd2, hgr2'⟩
  have hgr2 := grown_trans hgr0 hgr2'
  have hB2 := blk_grown hB0 hgr2' (by omega)
  have hlo : (w.alloc (.cells #[.int .i64 0, .int .i64 0, .string { data := #[] }, .slice none 0 0] 31)).heap.size = w.heap.size + 1 := by simp
  rw [hlo] at hO2
  have hw2 := own_le _ _ _ _ _ hO2
  have HS := Lib.hid hS2
  obtain ⟨W3, hW3⟩ : ∃ W3, W3 = w2.alloc (.cells #[.int .i64 e.kind, .int .i64 e.n, .string e.s, .slice A e.kids.length c] 31) := ⟨_, rfl⟩
  have hb3 : Below w2.heap.size w2 W3 := by rw [hW3]; exact (Below.refl _ w2).alloc (Nat.le_refl _) _
  have hs3 : w2.heap.size < W3.heap.size := by rw [hW3]; simp
  have hE3' : Blk W3 w2.heap.size #[.int .i64 e.kind, .int .i64 e.n, .string e.s, .slice A e.kids.length c] := by rw [hW3]; exact World.alloc_heap_new w2 _
  have hrd3' := below_rd hrd2 hb3
  have hgr3' := grown_below' hgr2 hb3
  have hB3' : Blk W3 w.heap.size #[.int .i64 0, .int .i64 0, .string { data := #[] }, .slice none 0 0] := (hb3.block _ hB2.lt).trans hB2
  have hO3' := own_keep _ _ _ _ (fun k h1 h2 => hb3.block k h2) hO2
  clear hgr2' hr0 hgr0 hB0 hrd2 hgr2 hB2 hO2 hS2 HI hlo
  go_wp2_with fail
  rw [← hW3]
  refine (pick_any B g A0 len cap q2 48 _ hrd3' (by omega) (by omega) (by omega)).mono ?_
  rintro r w3 ⟨v, hv, rfl, q3, hq1, hq2, hrd3, hgr3x⟩
  have hgr3 := grown_trans hgr3' hgr3x
  have hB3 := blk_grown hB3' hgr3x (by omega)
  have hE3 := blk_grown hE3' hgr3x (by omega)
  have hO3 := own_keep _ _ _ _ (fun k h1 h2 => hgr3x.block k (by omega) (fun e => by injection e with e; omega)) hO3'
  have hz3 := hgr3x.size
  clear hrd3' hgr3' hB3' hE3' hO3' hgr3x hW3 hb3
  by_cases hv0 : v = 0
  · subst hv0
    go_wp2_with fail
    refine (num_lit [0, 5, 3, 4] B g A0 len cap q3 w3 hrd3 (by omega) (by simp) (by simp)).mono ?_
    rintro r w4 ⟨z, hz, rfl, q4, hq5, hq6, hrd4, hgr4'⟩
    have hgr4 := grown_trans hgr3 hgr4'
    have hB4 := blk_grown hB3 hgr4' (by omega)
    have hE4 := blk_grown hE3 hgr4' (by omega)
    have hO4 := own_keep _ _ _ _ (fun k h1 h2 => hgr4'.block k (by omega) (fun e => by injection e with e; omega)) hO3
    have hz4 := hgr4'.size

    have y0 := hE4.cell 0
    have y1 := hE4.cell 1
    have y2 := hE4.cell 2
    have y3 := hE4.cell 3
    have yf := hE4.frozen 0
    simp only [List.getElem?_toArray, List.getElem?_cons_zero, List.getElem?_cons_succ] at y0 y1 y2 y3
    have hsame : ∀ j, j ≠ w2.heap.size → ((w4.setCell ⟨w2.heap.size, 0, none⟩ (.int .i64 z))).heap[j]? = w4.heap[j]? := fun j hj => Below.heap_setCell _ _ _ j hj
    have hrd := rd_keep hrd4 (hsame g (by omega)) (fun k hk => hsame k (by have := hrd4.2.1; omega))
    have hgr : w.grownBy (w4.setCell ⟨w2.heap.size, 0, none⟩ (.int .i64 z)) (some g) := ⟨hgr4.os, hgr4.tape, hgr4.output, by simp [World.setCell]; exact hgr4.size, fun j hj hne => (hsame j (by omega)).trans (hgr4.block j hj hne)⟩
    have hB : Blk (w4.setCell ⟨w2.heap.size, 0, none⟩ (.int .i64 z)) w.heap.size #[.int .i64 0, .int .i64 0, .string { data := #[] }, .slice none 0 0] := (hsame w.heap.size (by omega)).trans hB4
    have hEn : Blk (w4.setCell ⟨w2.heap.size, 0, none⟩ (.int .i64 z)) w2.heap.size #[.int .i64 z, .int .i64 e.n, .string e.s, .slice A e.kids.length c] := hE4.set 0 (.int .i64 z)
    have HO := Lib.hid (own_head (k := z) (n := e.n) (s := e.s) (own_keep _ _ _ _ (fun k h1 h2 => hsame k (by omega)) hO4))
    have u0 := hEn.cell 0
    have u1 := hEn.cell 1
    have u2 := hEn.cell 2
    have u3 := hEn.cell 3
    simp only [List.getElem?_toArray, List.getElem?_cons_zero, List.getElem?_cons_succ] at u0 u1 u2 u3
    have hzc : ((w4.setCell ⟨w2.heap.size, 0, none⟩ (.int .i64 z))).heap.size = w4.heap.size := by simp
    have hqa : p ≤ q4 := by omega
    have hqb : q4 ≤ p + 200 := by omega
    clear hrd3 hgr3 hB3 hE3 hO3 hgr4' hrd4 hgr4 hB4 hE4 hO4 hEn
    have x0 := hB.cell 0
    have x1 := hB.cell 1
    have x2 := hB.cell 2
    have x3 := hB.cell 3
    have f0 := hB.frozen 0
    have f1 := hB.frozen 1
    have f2 := hB.frozen 2
    have f3 := hB.frozen 3
    simp only [List.getElem?_toArray, List.getElem?_cons_zero, List.getElem?_cons_succ] at x0 x1 x2 x3
    have HEND := Lib.hid (end_draw (v0 := .int .i64 z) (v1 := .int .i64 e.n) (v2 := .string e.s) (v3 := .slice A e.kids.length c) hrd hqa hqb hgr hgw hB)
    have hlo := hB.lt
    clear hrd hgr hB
    go_wp2_with fail
    obtain ⟨wn, hwn⟩ : ∃ wn, wn = ((((w4.setCell ⟨w2.heap.size, 0, none⟩ (.int .i64 z)).setCell ⟨w.heap.size, 0, none⟩ (.int .i64 z)).setCell ⟨w.heap.size, 1, none⟩ (.int .i64 e.n)).setCell ⟨w.heap.size, 2, none⟩ (.string e.s)).setCell ⟨w.heap.size, 3, none⟩ (.slice A e.kids.length c) := ⟨_, rfl⟩
    rw [← hwn]
    obtain ⟨hBn, hRn, hSn, hZn⟩ := HEND.out wn hwn
    have r0 := hBn.cell 0
    have r1 := hBn.cell 1
    have r2 := hBn.cell 2
    have r3 := hBn.cell 3
    simp only [List.getElem?_toArray, List.getElem?_cons_zero, List.getElem?_cons_succ] at r0 r1 r2 r3
    refine bodyPost_ret (v := .agg #[.int .i64 z, .int .i64 e.n, .string e.s, .slice A e.kids.length c]) (by simp [results, Tryz.results33, go_sem, r0, r1, r2, r3]) rfl ?_
    exact ⟨(.mk z e.n e.s e.kids), A, c, rfl, hc, own_wide (own_keep _ _ _ _ (fun k h1 h2 => hSn k (by omega)) HO.out) (by omega) (by omega), short_head HS.out (Ex.short_s HS.out), wt_head hwt (Ex.short_s HS.out), hRn⟩
  have pv0 : ((v : Int) == 0) = false := by rw [beq_eq_false_iff_ne]; omega
  by_cases hv1 : v = 1
  · subst hv1
    go_wp2_with fail
    refine (num_lit [1, -1, 1000001] B g A0 len cap q3 w3 hrd3 (by omega) (by simp) (by simp)).mono ?_
    rintro r w4 ⟨z, hz, rfl, q4, hq5, hq6, hrd4, hgr4'⟩
    have hgr4 := grown_trans hgr3 hgr4'
    have hB4 := blk_grown hB3 hgr4' (by omega)
    have hE4 := blk_grown hE3 hgr4' (by omega)
    have hO4 := own_keep _ _ _ _ (fun k h1 h2 => hgr4'.block k (by omega) (fun e => by injection e with e; omega)) hO3
    have hz4 := hgr4'.size

    have y0 := hE4.cell 0
    have y1 := hE4.cell 1
    have y2 := hE4.cell 2
    have y3 := hE4.cell 3
    have yf := hE4.frozen 1
    simp only [List.getElem?_toArray, List.getElem?_cons_zero, List.getElem?_cons_succ] at y0 y1 y2 y3
    have hsame : ∀ j, j ≠ w2.heap.size → ((w4.setCell ⟨w2.heap.size, 1, none⟩ (.int .i64 z))).heap[j]? = w4.heap[j]? := fun j hj => Below.heap_setCell _ _ _ j hj
    have hrd := rd_keep hrd4 (hsame g (by omega)) (fun k hk => hsame k (by have := hrd4.2.1; omega))
    have hgr : w.grownBy (w4.setCell ⟨w2.heap.size, 1, none⟩ (.int .i64 z)) (some g) := ⟨hgr4.os, hgr4.tape, hgr4.output, by simp [World.setCell]; exact hgr4.size, fun j hj hne => (hsame j (by omega)).trans (hgr4.block j hj hne)⟩
    have hB : Blk (w4.setCell ⟨w2.heap.size, 1, none⟩ (.int .i64 z)) w.heap.size #[.int .i64 0, .int .i64 0, .string { data := #[] }, .slice none 0 0] := (hsame w.heap.size (by omega)).trans hB4
    have hEn : Blk (w4.setCell ⟨w2.heap.size, 1, none⟩ (.int .i64 z)) w2.heap.size #[.int .i64 e.kind, .int .i64 z, .string e.s, .slice A e.kids.length c] := hE4.set 1 (.int .i64 z)
    have HO := Lib.hid (own_head (k := e.kind) (n := z) (s := e.s) (own_keep _ _ _ _ (fun k h1 h2 => hsame k (by omega)) hO4))
    have u0 := hEn.cell 0
    have u1 := hEn.cell 1
    have u2 := hEn.cell 2
    have u3 := hEn.cell 3
    simp only [List.getElem?_toArray, List.getElem?_cons_zero, List.getElem?_cons_succ] at u0 u1 u2 u3
    have hzc : ((w4.setCell ⟨w2.heap.size, 1, none⟩ (.int .i64 z))).heap.size = w4.heap.size := by simp
    have hqa : p ≤ q4 := by omega
    have hqb : q4 ≤ p + 200 := by omega
    clear hrd3 hgr3 hB3 hE3 hO3 hgr4' hrd4 hgr4 hB4 hE4 hO4 hEn
    have x0 := hB.cell 0
    have x1 := hB.cell 1
    have x2 := hB.cell 2
    have x3 := hB.cell 3
    have f0 := hB.frozen 0
    have f1 := hB.frozen 1
    have f2 := hB.frozen 2
    have f3 := hB.frozen 3
    simp only [List.getElem?_toArray, List.getElem?_cons_zero, List.getElem?_cons_succ] at x0 x1 x2 x3
    have HEND := Lib.hid (end_draw (v0 := .int .i64 e.kind) (v1 := .int .i64 z) (v2 := .string e.s) (v3 := .slice A e.kids.length c) hrd hqa hqb hgr hgw hB)
    have hlo := hB.lt
    clear hrd hgr hB
    go_wp2_with fail
    obtain ⟨wn, hwn⟩ : ∃ wn, wn = ((((w4.setCell ⟨w2.heap.size, 1, none⟩ (.int .i64 z)).setCell ⟨w.heap.size, 0, none⟩ (.int .i64 e.kind)).setCell ⟨w.heap.size, 1, none⟩ (.int .i64 z)).setCell ⟨w.heap.size, 2, none⟩ (.string e.s)).setCell ⟨w.heap.size, 3, none⟩ (.slice A e.kids.length c) := ⟨_, rfl⟩
    rw [← hwn]
    obtain ⟨hBn, hRn, hSn, hZn⟩ := HEND.out wn hwn
    have r0 := hBn.cell 0
    have r1 := hBn.cell 1
    have r2 := hBn.cell 2
    have r3 := hBn.cell 3
    simp only [List.getElem?_toArray, List.getElem?_cons_zero, List.getElem?_cons_succ] at r0 r1 r2 r3
    refine bodyPost_ret (v := .agg #[.int .i64 e.kind, .int .i64 z, .string e.s, .slice A e.kids.length c]) (by simp [results, Tryz.results33, go_sem, r0, r1, r2, r3]) rfl ?_
    exact ⟨(.mk e.kind z e.s e.kids), A, c, rfl, hc, own_wide (own_keep _ _ _ _ (fun k h1 h2 => hSn k (by omega)) HO.out) (by omega) (by omega), short_head HS.out (Ex.short_s HS.out), wt_head hwt (Ex.short_s HS.out), hRn⟩
  have pv1 : ((v : Int) == 1) = false := by rw [beq_eq_false_iff_ne]; omega
  by_cases hv2 : v = 2
  · subst hv2
    go_wp2_with fail
    refine (of_lit [⟨#[108, 101, 116]⟩, ⟨#[88]⟩, ⟨#[60]⟩, ⟨#[105, 110, 116]⟩, ⟨#[120]⟩] B g A0 len cap q3 w3 hrd3 (by omega) (by simp) (by simp)).mono ?_
    rintro r w4 ⟨s, hs, rfl, q4, hq5, hq6, hrd4, hgr4'⟩
    have hgr4 := grown_trans hgr3 hgr4'
    have hB4 := blk_grown hB3 hgr4' (by omega)
    have hE4 := blk_grown hE3 hgr4' (by omega)
    have hO4 := own_keep _ _ _ _ (fun k h1 h2 => hgr4'.block k (by omega) (fun e => by injection e with e; omega)) hO3
    have hz4 := hgr4'.size
    have hsz : s.size ≤ 4 := short_of (by decide) hs
    have y0 := hE4.cell 0
    have y1 := hE4.cell 1
    have y2 := hE4.cell 2
    have y3 := hE4.cell 3
    have yf := hE4.frozen 2
    simp only [List.getElem?_toArray, List.getElem?_cons_zero, List.getElem?_cons_succ] at y0 y1 y2 y3
    have hsame : ∀ j, j ≠ w2.heap.size → ((w4.setCell ⟨w2.heap.size, 2, none⟩ (.string s))).heap[j]? = w4.heap[j]? := fun j hj => Below.heap_setCell _ _ _ j hj
    have hrd := rd_keep hrd4 (hsame g (by omega)) (fun k hk => hsame k (by have := hrd4.2.1; omega))
    have hgr : w.grownBy (w4.setCell ⟨w2.heap.size, 2, none⟩ (.string s)) (some g) := ⟨hgr4.os, hgr4.tape, hgr4.output, by simp [World.setCell]; exact hgr4.size, fun j hj hne => (hsame j (by omega)).trans (hgr4.block j hj hne)⟩
    have hB : Blk (w4.setCell ⟨w2.heap.size, 2, none⟩ (.string s)) w.heap.size #[.int .i64 0, .int .i64 0, .string { data := #[] }, .slice none 0 0] := (hsame w.heap.size (by omega)).trans hB4
    have hEn : Blk (w4.setCell ⟨w2.heap.size, 2, none⟩ (.string s)) w2.heap.size #[.int .i64 e.kind, .int .i64 e.n, .string s, .slice A e.kids.length c] := hE4.set 2 (.string s)
    have HO := Lib.hid (own_head (k := e.kind) (n := e.n) (s := s) (own_keep _ _ _ _ (fun k h1 h2 => hsame k (by omega)) hO4))
    have u0 := hEn.cell 0
    have u1 := hEn.cell 1
    have u2 := hEn.cell 2
    have u3 := hEn.cell 3
    simp only [List.getElem?_toArray, List.getElem?_cons_zero, List.getElem?_cons_succ] at u0 u1 u2 u3
    have hzc : ((w4.setCell ⟨w2.heap.size, 2, none⟩ (.string s))).heap.size = w4.heap.size := by simp
    have hqa : p ≤ q4 := by omega
    have hqb : q4 ≤ p + 200 := by omega
    clear hrd3 hgr3 hB3 hE3 hO3 hgr4' hrd4 hgr4 hB4 hE4 hO4 hEn
    have x0 := hB.cell 0
    have x1 := hB.cell 1
    have x2 := hB.cell 2
    have x3 := hB.cell 3
    have f0 := hB.frozen 0
    have f1 := hB.frozen 1
    have f2 := hB.frozen 2
    have f3 := hB.frozen 3
    simp only [List.getElem?_toArray, List.getElem?_cons_zero, List.getElem?_cons_succ] at x0 x1 x2 x3
    have HEND := Lib.hid (end_draw (v0 := .int .i64 e.kind) (v1 := .int .i64 e.n) (v2 := .string s) (v3 := .slice A e.kids.length c) hrd hqa hqb hgr hgw hB)
    have hlo := hB.lt
    clear hrd hgr hB
    go_wp2_with fail
    obtain ⟨wn, hwn⟩ : ∃ wn, wn = ((((w4.setCell ⟨w2.heap.size, 2, none⟩ (.string s)).setCell ⟨w.heap.size, 0, none⟩ (.int .i64 e.kind)).setCell ⟨w.heap.size, 1, none⟩ (.int .i64 e.n)).setCell ⟨w.heap.size, 2, none⟩ (.string s)).setCell ⟨w.heap.size, 3, none⟩ (.slice A e.kids.length c) := ⟨_, rfl⟩
    rw [← hwn]
    obtain ⟨hBn, hRn, hSn, hZn⟩ := HEND.out wn hwn
    have r0 := hBn.cell 0
    have r1 := hBn.cell 1
    have r2 := hBn.cell 2
    have r3 := hBn.cell 3
    simp only [List.getElem?_toArray, List.getElem?_cons_zero, List.getElem?_cons_succ] at r0 r1 r2 r3
    refine bodyPost_ret (v := .agg #[.int .i64 e.kind, .int .i64 e.n, .string s, .slice A e.kids.length c]) (by simp [results, Tryz.results33, go_sem, r0, r1, r2, r3]) rfl ?_
    exact ⟨(.mk e.kind e.n s e.kids), A, c, rfl, hc, own_wide (own_keep _ _ _ _ (fun k h1 h2 => hSn k (by omega)) HO.out) (by omega) (by omega), short_head HS.out hsz, wt_head hwt hsz, hRn⟩
  have pv2 : ((v : Int) == 2) = false := by rw [beq_eq_false_iff_ne]; omega
  by_cases hv3 : v = 3
  · subst hv3
    have HKB := Lib.hid (show ∀ W' : World, (∀ k, k < w3.heap.size → k ≠ w2.heap.size → W'.heap[k]? = w3.heap[k]?) → OwnE W' e (w.heap.size + 1) w3.heap.size A from fun W' h => own_wide (own_keep _ _ _ _ (fun k h1 h2 => h k (by omega) (by omega)) hO3) (Nat.le_refl _) (by omega))
    have hl3 := hE3.lt
    clear hO3
    go_wp2_with fail
    go_loopw [4] (fun i wr => ∃ (j : Nat) (x : Ex) (Ax : Option Addr) (cx : Nat), j ≤ 5 ∧ i = .int .i64 (j : Int) ∧ Blk wr w2.heap.size #[.int .i64 x.kind, .int .i64 x.n, .string x.s, .slice Ax x.kids.length cx] ∧ x.kids.length ≤ cx ∧ Hid (∀ W' : World, (∀ k, k < wr.heap.size → k ≠ w2.heap.size → W'.heap[k]? = wr.heap[k]?) → OwnE W' x (w.heap.size + 1) wr.heap.size Ax) ∧ Hid x.short ∧ x.wt ≤ 1000 + 10 * j ∧ Rd wr B g A0 len cap q3 ∧ w.grownBy wr (some g) ∧ Blk wr w.heap.size #[.int .i64 0, .int .i64 0, .string { data := #[] }, .slice none 0 0])
      (fun i _ => 5 - (intOf i).toNat)
    case atStart => exact ⟨0, e, A, c, by omega, rfl, hE3, hc, HKB, HS, by omega, hrd3, hgr3, hB3⟩
    case round =>
      clear HKB HS hrd3 hgr3 hB3 hE3 hwt hc
      obtain ⟨j, x, Ax, cx, hj, rfl, hE, hcx, HKB, HSx, hwx, hrd, hgr, hB⟩ := hrel
      have hlr := hE.lt
      have y0 := hE.cell 0
      have y1 := hE.cell 1
      have y2 := hE.cell 2
      have y3 := hE.cell 3
      have z0 := hE.frozen 0
      have z1 := hE.frozen 1
      have z2 := hE.frozen 2
      have z3 := hE.frozen 3
      simp only [List.getElem?_toArray, List.getElem?_cons_zero, List.getElem?_cons_succ] at y0 y1 y2 y3
      by_cases hlt : j < 5
      · have hx : (j : Int) < 5 := by omega
        have HB := Lib.hid hB
        have HRD := Lib.hid hrd
        have HGR := Lib.hid hgr
        have HE := Lib.hid hE
        clear hB hrd hgr hE
        go_wp2_with fail
        go_roundw
        case rel =>
          obtain ⟨wa, hwa⟩ : ∃ wa, wa = (((wr.setCell ⟨w2.heap.size, 0, none⟩ (.int .i64 4)).setCell ⟨w2.heap.size, 1, none⟩ (.int .i64 0)).setCell ⟨w2.heap.size, 2, none⟩ (.string ⟨#[105, 110, 116]⟩)).setCell ⟨w2.heap.size, 3, none⟩ (.slice (some ⟨wr.heap.size, 0, none⟩) 1 1) := ⟨_, rfl⟩
          rw [← hwa]
          have hsame : ∀ k, k ≠ w2.heap.size → wa.heap[k]? = wr.heap[k]? := by
            intro k hk
            rw [hwa, Below.heap_setCell _ _ _ k hk, Below.heap_setCell _ _ _ k hk, Below.heap_setCell _ _ _ k hk, Below.heap_setCell _ _ _ k hk]
          have hza : wa.heap.size = wr.heap.size := by rw [hwa]; simp
          have hEa : Blk wa w2.heap.size #[.int .i64 4, .int .i64 0, .string ⟨#[105, 110, 116]⟩, .slice (some ⟨wr.heap.size, 0, none⟩) 1 1] := by rw [hwa]; exact (((HE.out.set 0 _).set 1 _).set 2 _).set 3 _
          obtain ⟨wn, hwn⟩ : ∃ wn, wn = wa.alloc (.cells #[.int .i64 x.kind, .int .i64 x.n, .string x.s, .slice Ax x.kids.length cx] 31) := ⟨_, rfl⟩
          rw [← hwn]
          have hbn : Below wa.heap.size wa wn := by rw [hwn]; exact (Below.refl _ wa).alloc (Nat.le_refl _) _
          have hzn : wn.heap.size = wr.heap.size + 1 := by rw [hwn]; simp [hza]
          have hK : Blk wn wr.heap.size #[.int .i64 x.kind, .int .i64 x.n, .string x.s, .slice Ax x.kids.length cx] := by rw [hwn, ← hza]; exact World.alloc_heap_new wa _
          have hEn : Blk wn w2.heap.size #[.int .i64 4, .int .i64 0, .string ⟨#[105, 110, 116]⟩, .slice (some ⟨wr.heap.size, 0, none⟩) 1 1] := (hbn.block _ hEa.lt).trans hEa
          have hga : w.grownBy wa (some g) := ⟨by rw [hwa]; exact HGR.out.os, by rw [hwa]; exact HGR.out.tape, by rw [hwa]; exact HGR.out.output, by rw [hza]; exact HGR.out.size, fun i hi hne => (hsame i (by omega)).trans (HGR.out.block i hi hne)⟩
          have hrda := rd_keep HRD.out (hsame g (by omega)) (fun k hk => hsame k (by have := HRD.out.2.1; omega))
          refine ⟨j + 1, .mk 4 0 ⟨#[105, 110, 116]⟩ [x], some ⟨wr.heap.size, 0, none⟩, 1, by omega, by go_num, hEn, Nat.le_refl _, ?_, ?_, ?_, ?_, ?_, ?_⟩
          · refine Lib.hid fun W' hW' => ?_
            refine own_wide (own_one (D := Ax) (c := cx) ((hW' wr.heap.size (by omega) (by omega)).trans hK) hcx (HKB.out W' (fun k h1 h2 => (hW' k (by omega) h2).trans ((hbn.block k (by omega)).trans (hsame k h2)))) (Nat.le_refl _) (Nat.lt_succ_self _)) (Nat.le_refl _) (by omega)
          · refine Lib.hid ?_
            rw [Ex.short, Ex.shorts, Ex.shorts]
            exact ⟨by decide, HSx.out, trivial⟩
          · rw [Ex.wt, Ex.wts, Ex.wts, show (ByteArray.mk #[105, 110, 116]).size = 3 from rfl]; omega
          · exact below_rd hrda hbn
          · exact grown_below' hga hbn
          · exact (hbn.block _ (by have := HB.out.lt; omega)).trans ((hsame _ (by omega)).trans HB.out)
        case measure => simp [intOf]; omega
      · have hx : ¬ (j : Int) < 5 := by omega
        have HO := Lib.hid (HKB.out wr (fun _ _ _ => rfl))
        have HS := Lib.hid HSx.out
        have hqa : p ≤ q3 := by omega
        have hqb : q3 ≤ p + 200 := by omega
        clear HKB HSx hE
        have x0 := hB.cell 0
        have x1 := hB.cell 1
        have x2 := hB.cell 2
        have x3 := hB.cell 3
        have f0 := hB.frozen 0
        have f1 := hB.frozen 1
        have f2 := hB.frozen 2
        have f3 := hB.frozen 3
        simp only [List.getElem?_toArray, List.getElem?_cons_zero, List.getElem?_cons_succ] at x0 x1 x2 x3
        have HEND := Lib.hid (end_draw (v0 := .int .i64 x.kind) (v1 := .int .i64 x.n) (v2 := .string x.s) (v3 := .slice Ax x.kids.length cx) hrd hqa hqb hgr hgw hB)
        have hlo := hB.lt
        clear hrd hgr hB
        go_wp2_with fail
        obtain ⟨wn, hwn⟩ : ∃ wn, wn = (((wr.setCell ⟨w.heap.size, 0, none⟩ (.int .i64 x.kind)).setCell ⟨w.heap.size, 1, none⟩ (.int .i64 x.n)).setCell ⟨w.heap.size, 2, none⟩ (.string x.s)).setCell ⟨w.heap.size, 3, none⟩ (.slice Ax x.kids.length cx) := ⟨_, rfl⟩
        rw [← hwn]
        obtain ⟨hBn, hRn, hSn, hZn⟩ := HEND.out wn hwn
        have r0 := hBn.cell 0
        have r1 := hBn.cell 1
        have r2 := hBn.cell 2
        have r3 := hBn.cell 3
        simp only [List.getElem?_toArray, List.getElem?_cons_zero, List.getElem?_cons_succ] at r0 r1 r2 r3
        refine bodyPost_ret (v := .agg #[.int .i64 x.kind, .int .i64 x.n, .string x.s, .slice Ax x.kids.length cx]) (by simp [results, Tryz.results33, go_sem, r0, r1, r2, r3]) rfl ?_
        exact ⟨x, Ax, cx, rfl, hcx, own_wide (own_keep _ _ _ _ (fun k h1 h2 => hSn k (by omega)) HO.out) (by omega) (by omega), HS.out, by omega, hRn⟩
  · have pv3 : ((v : Int) == 3) = false := by rw [beq_eq_false_iff_ne]; omega
    have y0 := hE3.cell 0
    have y1 := hE3.cell 1
    have y2 := hE3.cell 2
    have y3 := hE3.cell 3
    simp only [List.getElem?_toArray, List.getElem?_cons_zero, List.getElem?_cons_succ] at y0 y1 y2 y3
    have hrd := hrd3
    have hgr := hgr3
    have hB := hB3
    have HO := Lib.hid hO3
    have hqa : p ≤ q3 := by omega
    have hqb : q3 ≤ p + 200 := by omega
    clear hrd3 hgr3 hB3 hE3 hO3
    have x0 := hB.cell 0
    have x1 := hB.cell 1
    have x2 := hB.cell 2
    have x3 := hB.cell 3
    have f0 := hB.frozen 0
    have f1 := hB.frozen 1
    have f2 := hB.frozen 2
    have f3 := hB.frozen 3
    simp only [List.getElem?_toArray, List.getElem?_cons_zero, List.getElem?_cons_succ] at x0 x1 x2 x3
    have HEND := Lib.hid (end_draw (v0 := .int .i64 e.kind) (v1 := .int .i64 e.n) (v2 := .string e.s) (v3 := .slice A e.kids.length c) hrd hqa hqb hgr hgw hB)
    have hlo := hB.lt
    clear hrd hgr hB
    go_wp2_with fail
    obtain ⟨wn, hwn⟩ : ∃ wn, wn = (((w3.setCell ⟨w.heap.size, 0, none⟩ (.int .i64 e.kind)).setCell ⟨w.heap.size, 1, none⟩ (.int .i64 e.n)).setCell ⟨w.heap.size, 2, none⟩ (.string e.s)).setCell ⟨w.heap.size, 3, none⟩ (.slice A e.kids.length c) := ⟨_, rfl⟩
    rw [← hwn]
    obtain ⟨hBn, hRn, hSn, hZn⟩ := HEND.out wn hwn
    have r0 := hBn.cell 0
    have r1 := hBn.cell 1
    have r2 := hBn.cell 2
    have r3 := hBn.cell 3
    simp only [List.getElem?_toArray, List.getElem?_cons_zero, List.getElem?_cons_succ] at r0 r1 r2 r3
    refine bodyPost_ret (v := .agg #[.int .i64 e.kind, .int .i64 e.n, .string e.s, .slice A e.kids.length c]) (by simp [results, Tryz.results33, go_sem, r0, r1, r2, r3]) rfl ?_
    exact ⟨e, A, c, rfl, hc, own_wide (own_keep _ _ _ _ (fun k h1 h2 => hSn k (by omega)) HO.out) (by omega) (by omega), HS.out, by omega, hRn⟩

end Go.Proofs.YtaclndbilpaboaaGreatDoor
