/-
  What is drawn to be reckoned, by a code alone: the model's DrawExprOk, DrawExprWords.
-/
import Derived.Test.YtaclndbilpaboaaDoorDrawEx2
namespace Go.Proofs.YtaclndbilpaboaaDoor
open Go.RowKit

/-- Something to be reckoned was drawn, in memory of its own. -/
def DrawnE (w : World) (r : Ending) (w' : World) : Prop :=
  ∃ (e : Ex) (A : Option Addr) (c : Nat), r = .returned (.agg #[.int .i64 e.kind, .int .i64 e.n, .string e.s, .slice A e.kids.length c]) ∧ e.kids.length ≤ c ∧ OwnE w' e w.heap.size w'.heap.size A ∧ e.short ∧ e.wt ≤ 2000 ∧ Below w.heap.size w w'
set_option maxRecDepth 100000 in
set_option maxHeartbeats 1000000 in
theorem drawExprOk_any (A : Option Addr) (len cap : Nat) (w : World) (h : InCode w A len cap) : Calls Tryd.prog 21 #[.slice A len cap] w (DrawnE w) := by
  obtain ⟨W0, hW0⟩ : ∃ W0, W0 = w.alloc (.cells #[.int .i64 0, .int .i64 0, .string { data := #[] }, .slice none 0 0] 29) := ⟨_, rfl⟩
  have hb0 : Below w.heap.size w W0 := by rw [hW0]; exact (Below.refl _ w).alloc (Nat.le_refl _) _
  have hs0 : w.heap.size < W0.heap.size := by rw [hW0]; simp
  have hB0 : Blk W0 w.heap.size #[.int .i64 0, .int .i64 0, .string { data := #[] }, .slice none 0 0] := by rw [hW0]; exact World.alloc_heap_new w _
  have HO := Lib.hid (open_any A len cap W0 (h.below hb0))
  clear h
  go_enter Tryd.func21, Tryd.ntmps21
  go_wp2_with fail
  rw [← hW0]
  refine HO.out.mono ?_
  rintro r w1 ⟨A', len', cap', rfl, hrd, hb1⟩
  have HI := Lib.hid (l4Bent_any W0.heap.size W0.heap.size A' len' cap' 0 w1 hrd (by omega))
  have hB1 : Blk w1 w.heap.size _ := (hb1.block _ hB0.lt).trans hB0
  have hz1 := hb1.size
  clear HO hrd hW0
  go_wp2_with fail
  refine HI.out.mono ?_
  rintro r w2 ⟨e, Ae, c, rfl, hc, hO, hS, hwt, q, _, _, _, hgr⟩
  have hB2 := blk_grown hB1 hgr (by omega)
  have hz2 := hgr.size
  have x0 := hB2.cell 0
  have x1 := hB2.cell 1
  have x2 := hB2.cell 2
  have x3 := hB2.cell 3
  have f0 := hB2.frozen 0
  have f1 := hB2.frozen 1
  have f2 := hB2.frozen 2
  have f3 := hB2.frozen 3
  simp only [List.getElem?_toArray, List.getElem?_cons_zero, List.getElem?_cons_succ] at x0 x1 x2 x3
  have HO := Lib.hid hO
  have HS := Lib.hid hS
  have HB2 := Lib.hid hB2
  have HBL := Lib.hid (show Below w.heap.size w w2 from hb0.trans ((hb1.mono hb0.size).trans (grown_below hgr (by omega) (by omega))))
  clear hO hS hB2 HI hgr hB1
  go_wp2_with fail
  obtain ⟨wn, hwn⟩ : ∃ wn, wn = (((w2.setCell ⟨w.heap.size, 0, none⟩ (.int .i64 e.kind)).setCell ⟨w.heap.size, 1, none⟩ (.int .i64 e.n)).setCell ⟨w.heap.size, 2, none⟩ (.string e.s)).setCell ⟨w.heap.size, 3, none⟩ (.slice Ae e.kids.length c) := ⟨_, rfl⟩
  rw [← hwn]
  have hBn : Blk wn w.heap.size #[.int .i64 e.kind, .int .i64 e.n, .string e.s, .slice Ae e.kids.length c] := by rw [hwn]; exact (((HB2.out.set 0 _).set 1 _).set 2 _).set 3 _
  have hsame : ∀ k, k ≠ w.heap.size → wn.heap[k]? = w2.heap[k]? := by
    intro k hk
    rw [hwn, Below.heap_setCell _ _ _ k hk, Below.heap_setCell _ _ _ k hk, Below.heap_setCell _ _ _ k hk, Below.heap_setCell _ _ _ k hk]
  have hzn : wn.heap.size = w2.heap.size := by rw [hwn]; simp
  have r0 := hBn.cell 0
  have r1 := hBn.cell 1
  have r2 := hBn.cell 2
  have r3 := hBn.cell 3
  simp only [List.getElem?_toArray, List.getElem?_cons_zero, List.getElem?_cons_succ] at r0 r1 r2 r3
  refine bodyPost_ret (v := .agg #[.int .i64 e.kind, .int .i64 e.n, .string e.s, .slice Ae e.kids.length c]) (by simp [results, Tryd.results21, go_sem, r0, r1, r2, r3]) rfl ?_
  refine ⟨e, Ae, c, rfl, hc, own_wide (own_keep _ _ _ _ (fun k h1 h2 => hsame k (by omega)) HO.out) (by omega) (by omega), HS.out, hwt, ?_⟩
  exact HBL.out.trans ⟨by rw [hwn]; rfl, by rw [hwn]; rfl, by rw [hwn]; rfl, by omega, fun b hb => hsame b (by omega)⟩
end Go.Proofs.YtaclndbilpaboaaDoor
