/-
  The contracts of the model's DrawBareOf and DrawEmitLine: a line is drawn, in memory of its own.
-/
import Derived.Test.YtfknelkbdoiokaaGreatDoorDrawSt
namespace Go.Proofs.YtfknelkbdoiokaaGreatDoor
open Go.RowKit

set_option linter.unusedVariables false in
set_option linter.unusedSimpArgs false in
set_option maxRecDepth 100000 in
set_option maxHeartbeats 8000000 in
theorem drawBareOf_any (A : Option Addr) (len cap : Nat) (w : World) (h : InCode w A len cap) : Calls Tryz.prog 28 #[.slice A len cap] w (DrawnS w) := by
  obtain ⟨W0, hW0⟩ : ∃ W0, W0 = w.alloc (.cells #[.int .i64 0, .string { data := #[] }, .string { data := #[] }, .int .i64 0, .int .i64 0, .string { data := #[] }, .slice none 0 0, .int .i64 0, .int .i64 0, .string { data := #[] }, .slice none 0 0] 35) := ⟨_, rfl⟩
  have hb0 : Below w.heap.size w W0 := by rw [hW0]; exact (Below.refl _ w).alloc (Nat.le_refl _) _
  have hs0 : w.heap.size < W0.heap.size := by rw [hW0]; simp
  have hB0 : BlkS W0 w.heap.size #[.int .i64 0, .string { data := #[] }, .string { data := #[] }, .int .i64 0, .int .i64 0, .string { data := #[] }, .slice none 0 0, .int .i64 0, .int .i64 0, .string { data := #[] }, .slice none 0 0] := by rw [hW0]; exact World.alloc_heap_new w _
  have HO := Lib.hid (open_any A len cap W0 (h.below hb0))
  clear h
  go_enter Tryz.func28, Tryz.ntmps28
  go_wp2_with fail
  rw [← hW0]
  refine HO.out.mono ?_
  rintro r w1 ⟨A', len', cap', rfl, hrd, hb1⟩
  have HI := Lib.hid (l5Bent_any W0.heap.size W0.heap.size A' len' cap' 0 w1 hrd (by omega))
  have hB1 : BlkS w1 w.heap.size _ := (hb1.block _ hB0.lt).trans hB0
  have hz1 := hb1.size
  clear HO hrd hW0
  go_wp2_with fail
  refine HI.out.mono ?_
  rintro r w2 ⟨s, A1, A2, c1, c2, rfl, hc1, hc2, ⟨lo1, hi1, l1, l2, hO1⟩, ⟨lo2, hi2, l3, l4, hO2⟩, hwt, q, _, _, _, hgr⟩
  have hB2 := blkS_grown hB1 hgr (by omega)
  have hz2 := hgr.size
  unfold stV
  have x0 := hB2.cell 0
  have x1 := hB2.cell 1
  have x2 := hB2.cell 2
  have x3 := hB2.cell 3
  have x4 := hB2.cell 4
  have x5 := hB2.cell 5
  have x6 := hB2.cell 6
  have x7 := hB2.cell 7
  have x8 := hB2.cell 8
  have x9 := hB2.cell 9
  have x10 := hB2.cell 10
  simp only [List.getElem?_toArray, List.getElem?_cons_zero, List.getElem?_cons_succ] at x0 x1 x2 x3 x4 x5 x6 x7 x8 x9 x10
  have f0 := hB2.frozen 0
  have f1 := hB2.frozen 1
  have f2 := hB2.frozen 2
  have f3 := hB2.frozen 3
  have f4 := hB2.frozen 4
  have f5 := hB2.frozen 5
  have f6 := hB2.frozen 6
  have f7 := hB2.frozen 7
  have f8 := hB2.frozen 8
  have f9 := hB2.frozen 9
  have f10 := hB2.frozen 10
  have HO1 := Lib.hid hO1
  have HO2 := Lib.hid hO2
  have HB2 := Lib.hid hB2
  have hlB := hB2.lt
  have HBL := Lib.hid (show Below w.heap.size w w2 from hb0.trans ((hb1.mono hb0.size).trans (grown_below hgr (by omega) (by omega))))
  clear hO1 hO2 hB2 HI hgr hB1 hb0 hb1 hB0
  go_wp2_with fail
  obtain ⟨wn, hwn⟩ : ∃ wn, wn = (((((((((((w2.setCell ⟨w.heap.size, 0, none⟩ (.int .i64 s.kind)).setCell ⟨w.heap.size, 1, none⟩ (.string s.name)).setCell ⟨w.heap.size, 2, none⟩ (.string s.typ)).setCell ⟨w.heap.size, 3, none⟩ (.int .i64 s.e.kind)).setCell ⟨w.heap.size, 4, none⟩ (.int .i64 s.e.n)).setCell ⟨w.heap.size, 5, none⟩ (.string s.e.s)).setCell ⟨w.heap.size, 6, none⟩ (.slice A1 s.e.kids.length c1)).setCell ⟨w.heap.size, 7, none⟩ (.int .i64 s.t.kind)).setCell ⟨w.heap.size, 8, none⟩ (.int .i64 s.t.n)).setCell ⟨w.heap.size, 9, none⟩ (.string s.t.s)).setCell ⟨w.heap.size, 10, none⟩ (.slice A2 s.t.kids.length c2)) := ⟨_, rfl⟩
  have hwa : wn = setAll w2 w.heap.size 0 [.int .i64 s.kind, .string s.name, .string s.typ, .int .i64 s.e.kind, .int .i64 s.e.n, .string s.e.s, .slice A1 s.e.kids.length c1, .int .i64 s.t.kind, .int .i64 s.t.n, .string s.t.s, .slice A2 s.t.kids.length c2] := by rw [hwn]; rfl
  rw [← hwn]
  clear hwn
  have hBn : BlkS wn w.heap.size #[.int .i64 s.kind, .string s.name, .string s.typ, .int .i64 s.e.kind, .int .i64 s.e.n, .string s.e.s, .slice A1 s.e.kids.length c1, .int .i64 s.t.kind, .int .i64 s.t.n, .string s.t.s, .slice A2 s.t.kids.length c2] := by rw [hwa]; exact setAll_blk [.int .i64 s.kind, .string s.name, .string s.typ, .int .i64 s.e.kind, .int .i64 s.e.n, .string s.e.s, .slice A1 s.e.kids.length c1, .int .i64 s.t.kind, .int .i64 s.t.n, .string s.t.s, .slice A2 s.t.kids.length c2] 0 _ w2 HB2.out rfl
  have hsn : ∀ k, k ≠ w.heap.size → wn.heap[k]? = w2.heap[k]? := fun k hk => by rw [hwa]; exact setAll_other _ _ _ _ hk
  have hzn : wn.heap.size = w2.heap.size := by rw [hwa]; exact setAll_size _ _ _ _
  have hosn : wn.os = w2.os ∧ wn.tape = w2.tape ∧ wn.output = w2.output := by rw [hwa]; exact setAll_os _ _ _ _
  have r0 := hBn.cell 0
  have r1 := hBn.cell 1
  have r2 := hBn.cell 2
  have r3 := hBn.cell 3
  have r4 := hBn.cell 4
  have r5 := hBn.cell 5
  have r6 := hBn.cell 6
  have r7 := hBn.cell 7
  have r8 := hBn.cell 8
  have r9 := hBn.cell 9
  have r10 := hBn.cell 10
  simp only [List.getElem?_toArray, List.getElem?_cons_zero, List.getElem?_cons_succ] at r0 r1 r2 r3 r4 r5 r6 r7 r8 r9 r10
  refine bodyPost_ret (v := .agg #[.int .i64 s.kind, .string s.name, .string s.typ, .int .i64 s.e.kind, .int .i64 s.e.n, .string s.e.s, .slice A1 s.e.kids.length c1, .int .i64 s.t.kind, .int .i64 s.t.n, .string s.t.s, .slice A2 s.t.kids.length c2]) (by simp [results, Tryz.results28, go_sem, r0, r1, r2, r3, r4, r5, r6, r7, r8, r9, r10]) rfl ?_
  have hbl := HBL.out
  exact ⟨s, A1, A2, c1, c2, rfl, hc1, hc2, ⟨lo1, hi1, by omega, by omega, own_keep _ _ _ _ (fun k q1 q2 => hsn k (by omega)) HO1.out⟩, ⟨lo2, hi2, by omega, by omega, own_keep _ _ _ _ (fun k q1 q2 => hsn k (by omega)) HO2.out⟩, hwt, hbl.trans ⟨hosn.1, hosn.2.1, hosn.2.2, by omega, fun k hk => hsn k (by omega)⟩⟩
end Go.Proofs.YtfknelkbdoiokaaGreatDoor
