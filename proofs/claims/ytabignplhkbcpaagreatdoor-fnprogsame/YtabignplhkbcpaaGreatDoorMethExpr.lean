/-
  The contract of the program's method expr, for all parts: what is reckoned, in memory of its own.
-/
import Derived.Test.YtabignplhkbcpaaGreatDoorMeth
import Derived.Test.YtabignplhkbcpaaGreatDoorGD
namespace Go.Proofs.YtabignplhkbcpaaGreatDoor
open Go.RowKit

/-- What is reckoned is handed back, in memory of its own. -/
def Gives (e : Ex) (w : World) (r : Ending) (w' : World) : Prop :=
  ∃ A c, r = .returned (.agg #[.int .i64 e.kind, .int .i64 e.n, .string e.s, .slice A e.kids.length c]) ∧ e.kids.length ≤ c ∧ OwnE w' e w.heap.size w'.heap.size A ∧ Below w.heap.size w w'
theorem cell_alloc {w : World} {k j : Nat} {o : Obj} (h : k < w.heap.size) : (w.alloc o).cell? ⟨k, j, none⟩ = w.cell? ⟨k, j, none⟩ := World.cell?_alloc_lt w o ⟨k, j, none⟩ h
set_option maxRecDepth 100000 in
set_option maxHeartbeats 4000000 in
theorem expr_any (p : Pt) : ∀ w : World, Calls Tryz.prog (fExpr p) #[ptU p] w (Gives p.ex w) := by
  induction p with
  | num n =>
    intro w
    show Calls Tryz.prog 167 #[.agg #[.int .i64 n]] w _
    go_enter Tryz.func167, Tryz.ntmps167
    go_wp2_with fail
    refine bodyPost_ret (v := .agg #[.int .i64 1, .int .i64 n, .string { data := #[] }, .slice none 0 0]) (by simp [results, Tryz.results167, go_sem]) rfl ?_
    exact ⟨none, 0, rfl, Nat.le_refl _, own_nil _ _ _ _ _ _ _ (by simp; omega), ((Below.refl _ w).alloc (Nat.le_refl _) _).alloc (by simp) _⟩
  | name s =>
    intro w
    show Calls Tryz.prog 173 #[.agg #[.string s]] w _
    go_enter Tryz.func173, Tryz.ntmps173
    go_wp2_with fail
    refine bodyPost_ret (v := .agg #[.int .i64 2, .int .i64 0, .string s, .slice none 0 0]) (by simp [results, Tryz.results173, go_sem]) rfl ?_
    exact ⟨none, 0, rfl, Nat.le_refl _, own_nil _ _ _ _ _ _ _ (by simp; omega), ((Below.refl _ w).alloc (Nat.le_refl _) _).alloc (by simp) _⟩
  | «as» s a ia =>
    intro w
    show Calls Tryz.prog 188 #[.agg #[.string s, partV a]] w (Gives (.mk 4 0 s [a.ex]) w)
    obtain ⟨m1, n1, k1⟩ := meth_expr a
    have HA := Lib.hid ia
    rw [partV_at a]
    generalize ptT a = t1 at *
    generalize ptU a = u1 at *
    generalize fExpr a = f1 at *
    generalize a.ex = x at *
    clear ia
    obtain ⟨W0, hW0⟩ : ∃ W0, W0 = (w.alloc (.cells #[.string s, .iface t1 u1] 139)).alloc (.cells #[.int .i64 0, .int .i64 0, .string { data := #[] }, .slice none 0 0] 34) := ⟨_, rfl⟩
    have hb0 : Below w.heap.size w W0 := by rw [hW0]; exact ((Below.refl _ w).alloc (Nat.le_refl _) _).alloc (by simp) _
    have hs0 : w.heap.size + 1 < W0.heap.size := by rw [hW0]; simp
    have hs1 : w.heap.size < W0.heap.size := by omega
    have hB0 : Blk W0 (w.heap.size + 1) #[.int .i64 0, .int .i64 0, .string { data := #[] }, .slice none 0 0] := by
      have := World.alloc_heap_new (w.alloc (.cells #[.string s, .iface t1 u1] 139)) (.cells #[.int .i64 0, .int .i64 0, .string { data := #[] }, .slice none 0 0] 34)
      rw [World.size_alloc] at this
      rw [hW0]; exact this
    have c0 : W0.cell? ⟨w.heap.size, 0, none⟩ = some (.string s) := by rw [hW0]; exact (cell_alloc (by simp)).trans (cell_made4 w _ _ 0 _ rfl)
    have c1 : W0.cell? ⟨w.heap.size, 1, none⟩ = some (.iface t1 u1) := by rw [hW0]; exact (cell_alloc (by simp)).trans (cell_made4 w _ _ 1 _ rfl)
    have hne : w.heap.size ≠ w.heap.size + 1 := by omega
    go_enter Tryz.func188, Tryz.ntmps188
    go_wp2_with fail
    rw [← hW0]
    clear hW0
    go_region_held3 (fun w' => w'.cell? ⟨w.heap.size, 0, none⟩ = some (.string s) ∧ w'.cell? ⟨w.heap.size, 1, none⟩ = some (.iface t1 u1))
      (first | with_reducible exact ⟨z0, z1⟩ | with_reducible exact ⟨(cell_drew0 _ _).trans c0, (cell_drew0 _ _).trans c1⟩ | with_reducible exact ⟨(cell_alloc hl1).trans z0, (cell_alloc hl1).trans z1⟩ | with_reducible exact ⟨(kept1 hne hl1 0).trans z0, (kept1 hne hl1 1).trans z1⟩)
      (first | (refine (HA.out _).mono ?_; rintro r w1 ⟨A1, d1, rfl, hc1, hO1, hb1'⟩; have hb1 : Below W0.heap.size W0 w1 := (Below.refl _ W0).drew.trans hb1'; have z0 := (hb1.cell (p := ⟨w.heap.size, 0, none⟩) hs1).trans c0; have z1 := (hb1.cell (p := ⟨w.heap.size, 1, none⟩) hs1).trans c1; have hl1 := cell_lt0 z0; have hB1 : Blk w1 (w.heap.size + 1) #[.int .i64 0, .int .i64 0, .string { data := #[] }, .slice none 0 0] := (hb1.block _ hs0).trans hB0; have x0 := hB1.cell 0; have x1 := hB1.cell 1; have x2 := hB1.cell 2; have x3 := hB1.cell 3; have q0 := hB1.frozen 0; have q1 := hB1.frozen 1; have q2 := hB1.frozen 2; have q3 := hB1.frozen 3; simp only [List.getElem?_toArray, List.getElem?_cons_zero, List.getElem?_cons_succ] at x0 x1 x2 x3; have hl2 := hB1.lt))
    all_goals (try go_wp2_with fail)
    have hbe := behind1 w1 (w.heap.size + 1) (.int .i64 4) (.int .i64 0) (.string s) (.slice (some ⟨w1.heap.size, 0, none⟩) 1 1) (.cells #[.int .i64 x.kind, .int .i64 x.n, .string x.s, .slice A1 x.kids.length d1] 34)
    have hBn := blk1 (.int .i64 4) (.int .i64 0) (.string s) (.slice (some ⟨w1.heap.size, 0, none⟩) 1 1) (.cells #[.int .i64 x.kind, .int .i64 x.n, .string x.s, .slice A1 x.kids.length d1] 34) hB1
    have hat := at1 w1 (w.heap.size + 1) (.int .i64 4) (.int .i64 0) (.string s) (.slice (some ⟨w1.heap.size, 0, none⟩) 1 1) (.cells #[.int .i64 x.kind, .int .i64 x.n, .string x.s, .slice A1 x.kids.length d1] 34)
    obtain ⟨wn, hwn⟩ : ∃ wn, wn = (((((w1.setCell ⟨w.heap.size + 1, 0, none⟩ (.int .i64 4)).setCell ⟨w.heap.size + 1, 1, none⟩ (.int .i64 0)).setCell ⟨w.heap.size + 1, 2, none⟩ (.string s)).setCell ⟨w.heap.size + 1, 3, none⟩ (.slice (some ⟨w1.heap.size, 0, none⟩) 1 1)).alloc (.cells #[.int .i64 x.kind, .int .i64 x.n, .string x.s, .slice A1 x.kids.length d1] 34)) := ⟨_, rfl⟩
    rw [← hwn] at hbe hBn hat ⊢
    have hzn : wn.heap.size = w1.heap.size + 1 := by rw [hwn]; simp
    obtain ⟨g1, g2, g3, g4, g5⟩ := hbe
    have r0 := hBn.cell 0
    have r1 := hBn.cell 1
    have r2 := hBn.cell 2
    have r3 := hBn.cell 3
    simp only [List.getElem?_toArray, List.getElem?_cons_zero, List.getElem?_cons_succ] at r0 r1 r2 r3
    refine bodyPost_ret (v := .agg #[.int .i64 4, .int .i64 0, .string s, .slice (some ⟨w1.heap.size, 0, none⟩) 1 1]) (by simp [results, Tryz.results188, go_sem, r0, r1, r2, r3]) rfl ?_
    have hz0 := hb0.size
    refine ⟨some ⟨w1.heap.size, 0, none⟩, 1, rfl, Nat.le_refl _, own_wide (own_one (D := A1) (c := d1) hat hc1 (own_keep _ _ _ _ (fun k q1 q2 => g1 k (by omega) (by have : W0.heap.size ≤ k := q1; omega)) hO1) (Nat.le_refl _) (show w1.heap.size < wn.heap.size by omega)) (show w.heap.size ≤ W0.heap.size from hz0) (Nat.le_refl _), ?_⟩
    exact hb0.trans ((hb1.mono hb0.size).trans ⟨g2, g3, g4, g5, fun k hk => g1 k (by have := hb1.size; omega) (by omega)⟩)
  | two s a b ia ib =>
    intro w
    show Calls Tryz.prog 180 #[.agg #[.string s, partV a, partV b]] w (Gives (.mk 3 0 s [a.ex, b.ex]) w)
    obtain ⟨m1, n1, k1⟩ := meth_expr a
    obtain ⟨m2, n2, k2⟩ := meth_expr b
    have HA := Lib.hid ia
    have HB := Lib.hid ib
    rw [partV_at a, partV_at b]
    generalize ptT a = t1 at *
    generalize ptU a = u1 at *
    generalize fExpr a = f1 at *
    generalize a.ex = x at *
    generalize ptT b = t2 at *
    generalize ptU b = u2 at *
    generalize fExpr b = f2 at *
    generalize b.ex = y at *
    clear ia ib
    obtain ⟨W0, hW0⟩ : ∃ W0, W0 = (w.alloc (.cells #[.string s, .iface t1 u1, .iface t2 u2] 137)).alloc (.cells #[.int .i64 0, .int .i64 0, .string { data := #[] }, .slice none 0 0] 34) := ⟨_, rfl⟩
    have hb0 : Below w.heap.size w W0 := by rw [hW0]; exact ((Below.refl _ w).alloc (Nat.le_refl _) _).alloc (by simp) _
    have hs0 : w.heap.size + 1 < W0.heap.size := by rw [hW0]; simp
    have hs1 : w.heap.size < W0.heap.size := by omega
    have hB0 : Blk W0 (w.heap.size + 1) #[.int .i64 0, .int .i64 0, .string { data := #[] }, .slice none 0 0] := by
      have := World.alloc_heap_new (w.alloc (.cells #[.string s, .iface t1 u1, .iface t2 u2] 137)) (.cells #[.int .i64 0, .int .i64 0, .string { data := #[] }, .slice none 0 0] 34)
      rw [World.size_alloc] at this
      rw [hW0]; exact this
    have c0 : W0.cell? ⟨w.heap.size, 0, none⟩ = some (.string s) := by rw [hW0]; exact (cell_alloc (by simp)).trans (cell_made4 w _ _ 0 _ rfl)
    have c1 : W0.cell? ⟨w.heap.size, 1, none⟩ = some (.iface t1 u1) := by rw [hW0]; exact (cell_alloc (by simp)).trans (cell_made4 w _ _ 1 _ rfl)
    have c2 : W0.cell? ⟨w.heap.size, 2, none⟩ = some (.iface t2 u2) := by rw [hW0]; exact (cell_alloc (by simp)).trans (cell_made4 w _ _ 2 _ rfl)
    have hne : w.heap.size ≠ w.heap.size + 1 := by omega
    go_enter Tryz.func180, Tryz.ntmps180
    go_wp2_with fail
    rw [← hW0]
    clear hW0
    go_region_held3 (fun w' => w'.cell? ⟨w.heap.size, 0, none⟩ = some (.string s) ∧ w'.cell? ⟨w.heap.size, 1, none⟩ = some (.iface t1 u1) ∧ w'.cell? ⟨w.heap.size, 2, none⟩ = some (.iface t2 u2))
      (first | with_reducible exact ⟨y0, y1, y2⟩ | with_reducible exact ⟨z0, z1, z2⟩ | with_reducible exact ⟨(cell_drew0 _ _).trans c0, (cell_drew0 _ _).trans c1, (cell_drew0 _ _).trans c2⟩ | with_reducible exact ⟨(cell_alloc hl2).trans y0, (cell_alloc hl2).trans y1, (cell_alloc hl2).trans y2⟩ | with_reducible exact ⟨(kept1 hne hl2 0).trans y0, (kept1 hne hl2 1).trans y1, (kept1 hne hl2 2).trans y2⟩)
      (first | (refine (HA.out _).mono ?_; rintro r w1 ⟨A1, d1, rfl, hc1, hO1, hb1'⟩; have hb1 : Below W0.heap.size W0 w1 := (Below.refl _ W0).drew.trans hb1'; have z0 := (hb1.cell (p := ⟨w.heap.size, 0, none⟩) hs1).trans c0; have z1 := (hb1.cell (p := ⟨w.heap.size, 1, none⟩) hs1).trans c1; have z2 := (hb1.cell (p := ⟨w.heap.size, 2, none⟩) hs1).trans c2) | (refine (HB.out _).mono ?_; rintro r w2 ⟨A2, d2, rfl, hc2, hO2, hb2'⟩; have hb2 : Below W0.heap.size W0 w2 := hb1.trans (hb2'.mono hb1.size); have y0 := (hb2.cell (p := ⟨w.heap.size, 0, none⟩) hs1).trans c0; have y1 := (hb2.cell (p := ⟨w.heap.size, 1, none⟩) hs1).trans c1; have y2 := (hb2.cell (p := ⟨w.heap.size, 2, none⟩) hs1).trans c2; have hl2 := cell_lt0 y0; have hB2 : Blk w2 (w.heap.size + 1) #[.int .i64 0, .int .i64 0, .string { data := #[] }, .slice none 0 0] := (hb2.block _ hs0).trans hB0; have x0 := hB2.cell 0; have x1 := hB2.cell 1; have x2 := hB2.cell 2; have x3 := hB2.cell 3; have q0 := hB2.frozen 0; have q1 := hB2.frozen 1; have q2 := hB2.frozen 2; have q3 := hB2.frozen 3; simp only [List.getElem?_toArray, List.getElem?_cons_zero, List.getElem?_cons_succ] at x0 x1 x2 x3; have hl3 := hB2.lt))
    all_goals (try go_wp2_with fail)
    have hz1 := hb1.size
    have hz2 := hb2'.size
    have hbe := behind1 w2 (w.heap.size + 1) (.int .i64 3) (.int .i64 0) (.string s) (.slice (some ⟨w2.heap.size, 0, none⟩) 2 2) (.cells #[.int .i64 x.kind, .int .i64 x.n, .string x.s, .slice A1 x.kids.length d1, .int .i64 y.kind, .int .i64 y.n, .string y.s, .slice A2 y.kids.length d2] 34)
    have hBn := blk1 (.int .i64 3) (.int .i64 0) (.string s) (.slice (some ⟨w2.heap.size, 0, none⟩) 2 2) (.cells #[.int .i64 x.kind, .int .i64 x.n, .string x.s, .slice A1 x.kids.length d1, .int .i64 y.kind, .int .i64 y.n, .string y.s, .slice A2 y.kids.length d2] 34) hB2
    have hat := at1 w2 (w.heap.size + 1) (.int .i64 3) (.int .i64 0) (.string s) (.slice (some ⟨w2.heap.size, 0, none⟩) 2 2) (.cells #[.int .i64 x.kind, .int .i64 x.n, .string x.s, .slice A1 x.kids.length d1, .int .i64 y.kind, .int .i64 y.n, .string y.s, .slice A2 y.kids.length d2] 34)
    obtain ⟨wn, hwn⟩ : ∃ wn, wn = (((((w2.setCell ⟨w.heap.size + 1, 0, none⟩ (.int .i64 3)).setCell ⟨w.heap.size + 1, 1, none⟩ (.int .i64 0)).setCell ⟨w.heap.size + 1, 2, none⟩ (.string s)).setCell ⟨w.heap.size + 1, 3, none⟩ (.slice (some ⟨w2.heap.size, 0, none⟩) 2 2)).alloc (.cells #[.int .i64 x.kind, .int .i64 x.n, .string x.s, .slice A1 x.kids.length d1, .int .i64 y.kind, .int .i64 y.n, .string y.s, .slice A2 y.kids.length d2] 34)) := ⟨_, rfl⟩
    rw [← hwn] at hbe hBn hat ⊢
    have hzn : wn.heap.size = w2.heap.size + 1 := by rw [hwn]; simp
    obtain ⟨g1, g2, g3, g4, g5⟩ := hbe
    have r0 := hBn.cell 0
    have r1 := hBn.cell 1
    have r2 := hBn.cell 2
    have r3 := hBn.cell 3
    simp only [List.getElem?_toArray, List.getElem?_cons_zero, List.getElem?_cons_succ] at r0 r1 r2 r3
    refine bodyPost_ret (v := .agg #[.int .i64 3, .int .i64 0, .string s, .slice (some ⟨w2.heap.size, 0, none⟩) 2 2]) (by simp [results, Tryz.results180, go_sem, r0, r1, r2, r3]) rfl ?_
    have hz0 := hb0.size
    refine ⟨some ⟨w2.heap.size, 0, none⟩, 2, rfl, Nat.le_refl _, own_wide (own_two (D := A1) (c := d1) (E := A2) (d := d2) hat hc1 hc2 (own_keep _ _ _ _ (fun k q1 q2 => (g1 k (by omega) (by have : W0.heap.size ≤ k := q1; omega)).trans (hb2'.block k q2)) hO1) (own_keep _ _ _ _ (fun k q1 q2 => g1 k (by omega) (by omega)) hO2) (Nat.le_refl _) (show w2.heap.size < wn.heap.size by omega)) (show w.heap.size ≤ W0.heap.size from hz0) (Nat.le_refl _), ?_⟩
    exact hb0.trans ((hb2.mono hb0.size).trans ⟨g2, g3, g4, g5, fun k hk => g1 k (by have := hb2.size; omega) (by omega)⟩)
end Go.Proofs.YtabignplhkbcpaaGreatDoor
