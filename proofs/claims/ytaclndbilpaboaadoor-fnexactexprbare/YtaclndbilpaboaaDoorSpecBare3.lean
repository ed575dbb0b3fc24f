/-
  The contract of the model's ExprBare, for all that can be read.
-/
import Derived.Test.YtaclndbilpaboaaDoorSpecBare2
import Derived.Test.YtaclndbilpaboaaDoorExprBare
namespace Go.Proofs.YtaclndbilpaboaaDoor
open Go.RowKit

set_option maxRecDepth 100000 in
set_option maxHeartbeats 2000000 in
theorem specExprBare_any (e : Ex) (A : Option Addr) (c B : Nat) (w : World) (hA : KidsAt w B A e.kids) (hc : e.kids.length ≤ c) (hB : B ≤ w.heap.size) (hw : e.wt ≤ 2 ^ 40) :
    Calls Tryd.prog 18 #[.agg #[.int .i64 e.kind, .int .i64 e.n, .string e.s, .slice A e.kids.length c]] w (GivesS (bareE e) w) := by
  obtain ⟨W0, hW0⟩ : ∃ W0, W0 = (w.alloc (.cells #[.int .i64 e.kind, .int .i64 e.n, .string e.s, .slice A e.kids.length c] 29)).alloc (.cells #[.int .i64 0, .int .i64 0, .string { data := #[] }, .slice none 0 0] 29) := ⟨_, rfl⟩
  have hb0 : Below w.heap.size w W0 := by rw [hW0]; exact ((Below.refl _ w).alloc (Nat.le_refl _) _).alloc (by simp) _
  have hs0 : w.heap.size + 1 < W0.heap.size := by rw [hW0]; simp
  have hB0 : Blk W0 (w.heap.size + 1) #[.int .i64 0, .int .i64 0, .string { data := #[] }, .slice none 0 0] := by
    have := World.alloc_heap_new (w.alloc (.cells #[.int .i64 e.kind, .int .i64 e.n, .string e.s, .slice A e.kids.length c] 29)) (.cells #[.int .i64 0, .int .i64 0, .string { data := #[] }, .slice none 0 0] 29)
    rw [World.size_alloc] at this
    rw [hW0]; exact this
  have a0 : W0.cell? ⟨w.heap.size, 0, none⟩ = some (.int .i64 e.kind) := by rw [hW0]; exact (cell_alloc (by simp)).trans (cell_made4 w _ _ 0 _ rfl)
  have a1 : W0.cell? ⟨w.heap.size, 1, none⟩ = some (.int .i64 e.n) := by rw [hW0]; exact (cell_alloc (by simp)).trans (cell_made4 w _ _ 1 _ rfl)
  have a2 : W0.cell? ⟨w.heap.size, 2, none⟩ = some (.string e.s) := by rw [hW0]; exact (cell_alloc (by simp)).trans (cell_made4 w _ _ 2 _ rfl)
  have a3 : W0.cell? ⟨w.heap.size, 3, none⟩ = some (.slice A e.kids.length c) := by rw [hW0]; exact (cell_alloc (by simp)).trans (cell_made4 w _ _ 3 _ rfl)
  have HC := Lib.hid (specExprOk_any e A c B W0 (hA.keep (hb0.mono hB)) hc (Nat.le_trans hB hb0.size) hw)
  have HA := Lib.hid hA
  clear hA hw
  cases hok : okE e
  · have HF := Lib.hid (show bareE e = Ex.zero by unfold bareE; rw [show okP e = none from by cases h : okP e with | none => rfl | some p => rw [← okP_isSome, h] at hok; cases hok])
    rw [hok] at HC
    clear hok
    go_enter Tryd.func18, Tryd.ntmps18
    go_wp2_with fail
    rw [← hW0]
    refine HC.out.mono ?_
    rintro r w1 ⟨rfl, hb1⟩
    have hB1 : Blk w1 (w.heap.size + 1) #[.int .i64 0, .int .i64 0, .string { data := #[] }, .slice none 0 0] := (hb1.block _ hs0).trans hB0
    have x0 := hB1.cell 0
    have x1 := hB1.cell 1
    have x2 := hB1.cell 2
    have x3 := hB1.cell 3
    have q0 := hB1.frozen 0
    have q1 := hB1.frozen 1
    have q2 := hB1.frozen 2
    have q3 := hB1.frozen 3
    simp only [List.getElem?_toArray, List.getElem?_cons_zero, List.getElem?_cons_succ] at x0 x1 x2 x3
    have HBN := Lib.hid (blk_set4 (.int .i64 0) (.int .i64 0) (.string { data := #[] }) (.slice none 0 0) hB1)
    have hz0 := hb0.size
    have hz1 := hb1.size
    clear hB1 hB0 HC
    go_wp2_with fail
    obtain ⟨wn, hwn⟩ : ∃ wn, wn = (((w1.setCell ⟨w.heap.size + 1, 0, none⟩ (.int .i64 0)).setCell ⟨w.heap.size + 1, 1, none⟩ (.int .i64 0)).setCell ⟨w.heap.size + 1, 2, none⟩ (.string { data := #[] })).setCell ⟨w.heap.size + 1, 3, none⟩ (.slice none 0 0) := ⟨_, rfl⟩
    have hBn := HBN.out
    have hsame : ∀ k, k ≠ w.heap.size + 1 → wn.heap[k]? = w1.heap[k]? := fun k hk => by rw [hwn]; exact heap_set4 _ _ _ _ _ _ _ hk
    have hzn : wn.heap.size = w1.heap.size := by rw [hwn]; exact size_set4 _ _ _ _ _ _
    rw [← hwn] at hBn ⊢
    have r0 := hBn.cell 0
    have r1 := hBn.cell 1
    have r2 := hBn.cell 2
    have r3 := hBn.cell 3
    simp only [List.getElem?_toArray, List.getElem?_cons_zero, List.getElem?_cons_succ] at r0 r1 r2 r3
    refine bodyPost_ret (v := .agg #[.int .i64 0, .int .i64 0, .string { data := #[] }, .slice none 0 0]) (by simp [results, Tryd.results18, go_sem, r0, r1, r2, r3]) rfl ?_
    rw [HF.out]
    exact ⟨none, 0, rfl, Nat.le_refl _, .nil, hb0.trans ((hb1.mono hz0).trans ⟨by rw [hwn]; rfl, by rw [hwn]; rfl, by rw [hwn]; rfl, by omega, fun k hk => hsame k (by omega)⟩)⟩
  · obtain ⟨p, hp⟩ : ∃ p, okP e = some p := by
      cases h : okP e with
      | none => rw [← okP_isSome, h] at hok; cases hok
      | some p => exact ⟨p, rfl⟩
    have HF := Lib.hid (show bareE e = p.bare.ex by unfold bareE; rw [hp])
    obtain ⟨hex, _⟩ := okP_some hp
    have HW := Lib.hid (fun (W : World) (hW : Below w.heap.size w W) => (show Calls Tryd.prog 32 #[.agg #[.int .i64 e.kind, .int .i64 e.n, .string e.s, .slice A e.kids.length c]] W (GivesS p.bare.ex W) by
      have hA := HA.out.keep (hW.mono hB)
      rw [hex] at hA hc ⊢
      exact l4Bare_any p A c B W hA hc (Nat.le_trans hB hW.size)))
    rw [hok] at HC
    generalize p.bare.ex = x at *
    clear hok hp hex
    go_enter Tryd.func18, Tryd.ntmps18
    go_wp2_with fail
    rw [← hW0]
    refine HC.out.mono ?_
    rintro r w1 ⟨rfl, hb1⟩
    have hs1 : w.heap.size < W0.heap.size := by omega
    have c0 := (hb1.cell (p := ⟨w.heap.size, 0, none⟩) hs1).trans a0
    have c1 := (hb1.cell (p := ⟨w.heap.size, 1, none⟩) hs1).trans a1
    have c2 := (hb1.cell (p := ⟨w.heap.size, 2, none⟩) hs1).trans a2
    have c3 := (hb1.cell (p := ⟨w.heap.size, 3, none⟩) hs1).trans a3
    clear hW0 a0 a1 a2 a3 HC
    go_wp2_with fail
    refine (HW.out w1 (hb0.trans (hb1.mono hb0.size))).mono ?_
    rintro r w3 ⟨A3, c3', rfl, hc3, hK3, hb3'⟩
    have hb3 := hb1.trans (hb3'.mono hb1.size)
    have hB1 : Blk w3 (w.heap.size + 1) #[.int .i64 0, .int .i64 0, .string { data := #[] }, .slice none 0 0] := (hb3.block _ hs0).trans hB0
    have x0 := hB1.cell 0
    have x1 := hB1.cell 1
    have x2 := hB1.cell 2
    have x3 := hB1.cell 3
    have q0 := hB1.frozen 0
    have q1 := hB1.frozen 1
    have q2 := hB1.frozen 2
    have q3 := hB1.frozen 3
    simp only [List.getElem?_toArray, List.getElem?_cons_zero, List.getElem?_cons_succ] at x0 x1 x2 x3
    have HBN := Lib.hid (blk_set4 (.int .i64 x.kind) (.int .i64 x.n) (.string x.s) (.slice A3 x.kids.length c3') hB1)
    have hz0 := hb0.size
    have hz1 := hb1.size
    have hz3 := hb3'.size
    have HK := Lib.hid hK3
    clear hB1 hB0 hK3 c0 c1 c2 c3
    go_wp2_with fail
    obtain ⟨wn, hwn⟩ : ∃ wn, wn = (((w3.setCell ⟨w.heap.size + 1, 0, none⟩ (.int .i64 x.kind)).setCell ⟨w.heap.size + 1, 1, none⟩ (.int .i64 x.n)).setCell ⟨w.heap.size + 1, 2, none⟩ (.string x.s)).setCell ⟨w.heap.size + 1, 3, none⟩ (.slice A3 x.kids.length c3') := ⟨_, rfl⟩
    have hBn := HBN.out
    have hsame : ∀ k, k ≠ w.heap.size + 1 → wn.heap[k]? = w3.heap[k]? := fun k hk => by rw [hwn]; exact heap_set4 _ _ _ _ _ _ _ hk
    have hzn : wn.heap.size = w3.heap.size := by rw [hwn]; exact size_set4 _ _ _ _ _ _
    rw [← hwn] at hBn ⊢
    have r0 := hBn.cell 0
    have r1 := hBn.cell 1
    have r2 := hBn.cell 2
    have r3 := hBn.cell 3
    simp only [List.getElem?_toArray, List.getElem?_cons_zero, List.getElem?_cons_succ] at r0 r1 r2 r3
    refine bodyPost_ret (v := .agg #[.int .i64 x.kind, .int .i64 x.n, .string x.s, .slice A3 x.kids.length c3']) (by simp [results, Tryd.results18, go_sem, r0, r1, r2, r3]) rfl ?_
    rw [HF.out]
    exact ⟨A3, c3', rfl, hc3, HK.out.keep (fun b h => ⟨by omega, by omega⟩) (fun b h => hsame b (by omega)), hb0.trans ((hb3.mono hz0).trans ⟨by rw [hwn]; rfl, by rw [hwn]; rfl, by rw [hwn]; rfl, by omega, fun k hk => hsame k (by omega)⟩)⟩
end Go.Proofs.YtaclndbilpaboaaDoor
