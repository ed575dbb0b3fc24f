/-
  Deeds as the program holds them, and the contract of their method stmt.
-/
import Derived.Test.YtabignplhkbcpaaGreatDoorGP
import Derived.Test.YtabignplhkbcpaaGreatDoorMethExpr
import Derived.Test.YtabignplhkbcpaaGreatDoorGN
import Derived.Test.YtabignplhkbcpaaGreatDoorMethWrite
namespace Go.Proofs.YtabignplhkbcpaaGreatDoor
open Go.RowKit Go.Shelf

def deT : De → TypeId
  | .noD => 93
  | .letD _ _ _ => 61
  | .sayD _ => 78
  | .whenD _ _ => 80
def deU : De → Value
  | .noD => .agg #[]
  | .letD n t p => .agg #[.string n, .string t, partV p]
  | .sayD p => .agg #[partV p]
  | .whenD p q => .agg #[partV p, partV q]
def deV (d : De) : Value := .iface (deT d) (deU d)
def fStmt : De → Nat
  | .noD => 151
  | .letD _ _ _ => 142
  | .sayD _ => 145
  | .whenD _ _ => 148
theorem meth_stmt (d : De) : Meth "loop.example/interlinear/impl.stmt" (deT d) (deU d) (fStmt d) := by
  cases d
  · exact ⟨fun n w => by kernel_rfl, fun n w => by kernel_rfl, enters_of Tryz.func151 (by kernel_rfl) rfl⟩
  · exact ⟨fun n w => by kernel_rfl, fun n w => by kernel_rfl, enters_of Tryz.func142 (by kernel_rfl) rfl⟩
  · exact ⟨fun n w => by kernel_rfl, fun n w => by kernel_rfl, enters_of Tryz.func145 (by kernel_rfl) rfl⟩
  · exact ⟨fun n w => by kernel_rfl, fun n w => by kernel_rfl, enters_of Tryz.func148 (by kernel_rfl) rfl⟩
def fDWrite : De → Nat
  | .noD => 152
  | .letD _ _ _ => 143
  | .sayD _ => 146
  | .whenD _ _ => 149
theorem meth_dwrite (d : De) : Meth "loop.example/interlinear/impl.write" (deT d) (deU d) (fDWrite d) := by
  cases d
  · exact ⟨fun n w => by kernel_rfl, fun n w => by kernel_rfl, enters_of Tryz.func152 (by kernel_rfl) rfl⟩
  · exact ⟨fun n w => by kernel_rfl, fun n w => by kernel_rfl, enters_of Tryz.func143 (by kernel_rfl) rfl⟩
  · exact ⟨fun n w => by kernel_rfl, fun n w => by kernel_rfl, enters_of Tryz.func146 (by kernel_rfl) rfl⟩
  · exact ⟨fun n w => by kernel_rfl, fun n w => by kernel_rfl, enters_of Tryz.func149 (by kernel_rfl) rfl⟩

/-- A line, as Go holds it. -/
def stV (s : St) (A1 A2 : Option Addr) (c1 c2 : Nat) : Value := .agg #[.int .i64 s.kind, .string s.name, .string s.typ, .int .i64 s.e.kind, .int .i64 s.e.n, .string s.e.s, .slice A1 s.e.kids.length c1, .int .i64 s.t.kind, .int .i64 s.t.n, .string s.t.s, .slice A2 s.t.kids.length c2]
/-- The line is handed back, in memory of its own. -/
def GivesSt (s : St) (w : World) (r : Ending) (w' : World) : Prop :=
  ∃ A1 c1 A2 c2 mid, r = .returned (stV s A1 A2 c1 c2) ∧ s.e.kids.length ≤ c1 ∧ s.t.kids.length ≤ c2 ∧ OwnE w' s.e w.heap.size mid A1 ∧ OwnE w' s.t mid w'.heap.size A2 ∧ mid ≤ w'.heap.size ∧ Below w.heap.size w w'

theorem kept11 {w1 : World} {b k : Nat} {v0 v1 v2 v3 v4 v5 v6 v7 v8 v9 v10 : Value} (h : k ≠ b) (j : Nat) : ((((((((((((w1.setCell ⟨b, 0, none⟩ v0).setCell ⟨b, 1, none⟩ v1).setCell ⟨b, 2, none⟩ v2).setCell ⟨b, 3, none⟩ v3).setCell ⟨b, 4, none⟩ v4).setCell ⟨b, 5, none⟩ v5).setCell ⟨b, 6, none⟩ v6).setCell ⟨b, 7, none⟩ v7).setCell ⟨b, 8, none⟩ v8).setCell ⟨b, 9, none⟩ v9).setCell ⟨b, 10, none⟩ v10)).cell? ⟨k, j, none⟩ = w1.cell? ⟨k, j, none⟩ :=
  cell_same (setAll_other b [v0, v1, v2, v3, v4, v5, v6, v7, v8, v9, v10] 0 w1 h) j
set_option linter.unusedVariables false in
set_option linter.unusedSimpArgs false in
set_option maxRecDepth 100000 in
set_option maxHeartbeats 8000000 in
theorem stmt_any (d : De) (w : World) : Calls Tryz.prog (fStmt d) #[deU d] w (GivesSt d.st w) := by
  cases d with
  | noD =>
    show Calls Tryz.prog 151 #[.agg #[]] w _
    go_enter Tryz.func151, Tryz.ntmps151
    go_wp2_with fail
    refine bodyPost_ret (v := .agg #[.int .i64 0, .string { data := #[] }, .string { data := #[] }, .int .i64 0, .int .i64 0, .string { data := #[] }, .slice none 0 0, .int .i64 0, .int .i64 0, .string { data := #[] }, .slice none 0 0]) (by simp [results, Tryz.results151, go_sem]) rfl ?_
    exact ⟨none, 0, none, 0, w.heap.size, rfl, Nat.le_refl _, Nat.le_refl _, own_nil _ _ _ _ _ _ _ (Nat.le_refl _), own_nil _ _ _ _ _ _ _ (by simp; omega), by simp; omega, ((Below.refl _ w).alloc (Nat.le_refl _) _).alloc (by simp) _⟩
  | letD n t p =>
    show Calls Tryz.prog 142 #[.agg #[.string n, .string t, partV p]] w (GivesSt ⟨1, n, t, p.ex, Ex.zero⟩ w)
    obtain ⟨m1, n1, k1⟩ := meth_expr p
    have HA := Lib.hid (fun W => expr_any p W)
    rw [partV_at p]
    generalize ptT p = t1 at *
    generalize ptU p = u1 at *
    generalize fExpr p = f1 at *
    generalize p.ex = x at *
    obtain ⟨W0, hW0⟩ : ∃ W0, W0 = (w.alloc (.cells #[.string n, .string t, .iface t1 u1] 61)).alloc (.cells #[.int .i64 0, .string { data := #[] }, .string { data := #[] }, .int .i64 0, .int .i64 0, .string { data := #[] }, .slice none 0 0, .int .i64 0, .int .i64 0, .string { data := #[] }, .slice none 0 0] 36) := ⟨_, rfl⟩
    have hb0 : Below w.heap.size w W0 := by rw [hW0]; exact ((Below.refl _ w).alloc (Nat.le_refl _) _).alloc (by simp) _
    have hs0 : w.heap.size + 1 < W0.heap.size := by rw [hW0]; simp
    have hs1 : w.heap.size < W0.heap.size := by omega
    have hne : w.heap.size ≠ w.heap.size + 1 := by omega
    have hB0 : BlkS W0 (w.heap.size + 1) #[.int .i64 0, .string { data := #[] }, .string { data := #[] }, .int .i64 0, .int .i64 0, .string { data := #[] }, .slice none 0 0, .int .i64 0, .int .i64 0, .string { data := #[] }, .slice none 0 0] := by
      have := World.alloc_heap_new (w.alloc (.cells #[.string n, .string t, .iface t1 u1] 61)) (.cells #[.int .i64 0, .string { data := #[] }, .string { data := #[] }, .int .i64 0, .int .i64 0, .string { data := #[] }, .slice none 0 0, .int .i64 0, .int .i64 0, .string { data := #[] }, .slice none 0 0] 36)
      rw [World.size_alloc] at this
      rw [hW0]; exact this
    have c0 : W0.cell? ⟨w.heap.size, 0, none⟩ = some (.string n) := by rw [hW0]; exact (cell_alloc (by simp)).trans (cell_made4 w _ _ 0 _ rfl)
    have c1 : W0.cell? ⟨w.heap.size, 1, none⟩ = some (.string t) := by rw [hW0]; exact (cell_alloc (by simp)).trans (cell_made4 w _ _ 1 _ rfl)
    have c2 : W0.cell? ⟨w.heap.size, 2, none⟩ = some (.iface t1 u1) := by rw [hW0]; exact (cell_alloc (by simp)).trans (cell_made4 w _ _ 2 _ rfl)
    go_enter Tryz.func142, Tryz.ntmps142
    go_wp2_with fail
    rw [← hW0]
    clear hW0
    go_region_held3 (fun w' => w'.cell? ⟨w.heap.size, 0, none⟩ = some (.string n) ∧ w'.cell? ⟨w.heap.size, 1, none⟩ = some (.string t) ∧ w'.cell? ⟨w.heap.size, 2, none⟩ = some (.iface t1 u1))
      (first | with_reducible exact ⟨z0, z1, z2⟩ | with_reducible exact ⟨(cell_drew0 _ _).trans c0, (cell_drew0 _ _).trans c1, (cell_drew0 _ _).trans c2⟩ | with_reducible exact ⟨(kept11 hne 0).trans z0, (kept11 hne 1).trans z1, (kept11 hne 2).trans z2⟩)
      (first | (refine (HA.out _).mono ?_; rintro r w1 ⟨A1, d1, rfl, hc1, hO1, hb1'⟩; have hb1 : Below W0.heap.size W0 w1 := (Below.refl _ W0).drew.trans hb1'; have z0 := (hb1.cell (p := ⟨w.heap.size, 0, none⟩) hs1).trans c0; have z1 := (hb1.cell (p := ⟨w.heap.size, 1, none⟩) hs1).trans c1; have z2 := (hb1.cell (p := ⟨w.heap.size, 2, none⟩) hs1).trans c2; have hB1 : BlkS w1 (w.heap.size + 1) #[.int .i64 0, .string { data := #[] }, .string { data := #[] }, .int .i64 0, .int .i64 0, .string { data := #[] }, .slice none 0 0, .int .i64 0, .int .i64 0, .string { data := #[] }, .slice none 0 0] := (hb1.block _ hs0).trans hB0; have x0 := hB1.cell 0; have q0 := hB1.frozen 0; have x1 := hB1.cell 1; have q1 := hB1.frozen 1; have x2 := hB1.cell 2; have q2 := hB1.frozen 2; have x3 := hB1.cell 3; have q3 := hB1.frozen 3; have x4 := hB1.cell 4; have q4 := hB1.frozen 4; have x5 := hB1.cell 5; have q5 := hB1.frozen 5; have x6 := hB1.cell 6; have q6 := hB1.frozen 6; have x7 := hB1.cell 7; have q7 := hB1.frozen 7; have x8 := hB1.cell 8; have q8 := hB1.frozen 8; have x9 := hB1.cell 9; have q9 := hB1.frozen 9; have x10 := hB1.cell 10; have q10 := hB1.frozen 10; simp only [List.getElem?_toArray, List.getElem?_cons_zero, List.getElem?_cons_succ] at x0 x1 x2 x3 x4 x5 x6 x7 x8 x9 x10; have hlB := hB1.lt))
    all_goals (try go_wp2_with fail)
    have hz1 := hb1.size
    obtain ⟨wn, hwn⟩ : ∃ wn, wn = (((((((((((w1.setCell ⟨w.heap.size + 1, 0, none⟩ (.int .i64 1)).setCell ⟨w.heap.size + 1, 1, none⟩ (.string n)).setCell ⟨w.heap.size + 1, 2, none⟩ (.string t)).setCell ⟨w.heap.size + 1, 3, none⟩ (.int .i64 x.kind)).setCell ⟨w.heap.size + 1, 4, none⟩ (.int .i64 x.n)).setCell ⟨w.heap.size + 1, 5, none⟩ (.string x.s)).setCell ⟨w.heap.size + 1, 6, none⟩ (.slice A1 x.kids.length d1)).setCell ⟨w.heap.size + 1, 7, none⟩ (.int .i64 0)).setCell ⟨w.heap.size + 1, 8, none⟩ (.int .i64 0)).setCell ⟨w.heap.size + 1, 9, none⟩ (.string { data := #[] })).setCell ⟨w.heap.size + 1, 10, none⟩ (.slice none 0 0)) := ⟨_, rfl⟩
    have hwa : wn = setAll w1 (w.heap.size + 1) 0 [.int .i64 1, .string n, .string t, .int .i64 x.kind, .int .i64 x.n, .string x.s, .slice A1 x.kids.length d1, .int .i64 0, .int .i64 0, .string { data := #[] }, .slice none 0 0] := by rw [hwn]; rfl
    have hRn : BlkS wn (w.heap.size + 1) #[.int .i64 1, .string n, .string t, .int .i64 x.kind, .int .i64 x.n, .string x.s, .slice A1 x.kids.length d1, .int .i64 0, .int .i64 0, .string { data := #[] }, .slice none 0 0] := by rw [hwa]; exact setAll_blk [.int .i64 1, .string n, .string t, .int .i64 x.kind, .int .i64 x.n, .string x.s, .slice A1 x.kids.length d1, .int .i64 0, .int .i64 0, .string { data := #[] }, .slice none 0 0] 0 _ w1 hB1 rfl
    have hsn : ∀ k, k ≠ w.heap.size + 1 → wn.heap[k]? = w1.heap[k]? := fun k hk => by rw [hwa]; exact setAll_other _ _ _ _ hk
    have hzn : wn.heap.size = w1.heap.size := by rw [hwa]; exact setAll_size _ _ _ _
    have hosn : wn.os = w1.os ∧ wn.tape = w1.tape ∧ wn.output = w1.output := by rw [hwa]; exact setAll_os _ _ _ _
    rw [← hwn]
    clear hwn hwa
    have r0 := hRn.cell 0
    have r1 := hRn.cell 1
    have r2 := hRn.cell 2
    have r3 := hRn.cell 3
    have r4 := hRn.cell 4
    have r5 := hRn.cell 5
    have r6 := hRn.cell 6
    have r7 := hRn.cell 7
    have r8 := hRn.cell 8
    have r9 := hRn.cell 9
    have r10 := hRn.cell 10
    simp only [List.getElem?_toArray, List.getElem?_cons_zero, List.getElem?_cons_succ] at r0 r1 r2 r3 r4 r5 r6 r7 r8 r9 r10
    refine bodyPost_ret (v := .agg #[.int .i64 1, .string n, .string t, .int .i64 x.kind, .int .i64 x.n, .string x.s, .slice A1 x.kids.length d1, .int .i64 0, .int .i64 0, .string { data := #[] }, .slice none 0 0]) (by simp [results, Tryz.results142, go_sem, r0, r1, r2, r3, r4, r5, r6, r7, r8, r9, r10]) rfl ?_
    have hz0 := hb0.size
    exact ⟨A1, d1, none, 0, wn.heap.size, rfl, hc1, Nat.le_refl _, own_wide (own_keep _ _ _ _ (fun k q1 q2 => hsn k (by have : W0.heap.size ≤ k := q1; omega)) hO1) (show w.heap.size ≤ W0.heap.size from hz0) (by omega), own_nil _ _ _ _ _ _ _ (Nat.le_refl _), Nat.le_refl _, hb0.trans ((hb1.mono hb0.size).trans ⟨hosn.1, hosn.2.1, hosn.2.2, by omega, fun k hk => hsn k (by omega)⟩)⟩
  | sayD p =>
    show Calls Tryz.prog 145 #[.agg #[partV p]] w (GivesSt ⟨2, ByteArray.empty, ByteArray.empty, p.ex, Ex.zero⟩ w)
    obtain ⟨m1, n1, k1⟩ := meth_expr p
    have HA := Lib.hid (fun W => expr_any p W)
    rw [partV_at p]
    generalize ptT p = t1 at *
    generalize ptU p = u1 at *
    generalize fExpr p = f1 at *
    generalize p.ex = x at *
    obtain ⟨W0, hW0⟩ : ∃ W0, W0 = (w.alloc (.cells #[.iface t1 u1] 78)).alloc (.cells #[.int .i64 0, .string { data := #[] }, .string { data := #[] }, .int .i64 0, .int .i64 0, .string { data := #[] }, .slice none 0 0, .int .i64 0, .int .i64 0, .string { data := #[] }, .slice none 0 0] 36) := ⟨_, rfl⟩
    have hb0 : Below w.heap.size w W0 := by rw [hW0]; exact ((Below.refl _ w).alloc (Nat.le_refl _) _).alloc (by simp) _
    have hs0 : w.heap.size + 1 < W0.heap.size := by rw [hW0]; simp
    have hs1 : w.heap.size < W0.heap.size := by omega
    have hne : w.heap.size ≠ w.heap.size + 1 := by omega
    have hB0 : BlkS W0 (w.heap.size + 1) #[.int .i64 0, .string { data := #[] }, .string { data := #[] }, .int .i64 0, .int .i64 0, .string { data := #[] }, .slice none 0 0, .int .i64 0, .int .i64 0, .string { data := #[] }, .slice none 0 0] := by
      have := World.alloc_heap_new (w.alloc (.cells #[.iface t1 u1] 78)) (.cells #[.int .i64 0, .string { data := #[] }, .string { data := #[] }, .int .i64 0, .int .i64 0, .string { data := #[] }, .slice none 0 0, .int .i64 0, .int .i64 0, .string { data := #[] }, .slice none 0 0] 36)
      rw [World.size_alloc] at this
      rw [hW0]; exact this
    have c0 : W0.cell? ⟨w.heap.size, 0, none⟩ = some (.iface t1 u1) := by rw [hW0]; exact (cell_alloc (by simp)).trans (cell_made4 w _ _ 0 _ rfl)
    go_enter Tryz.func145, Tryz.ntmps145
    go_wp2_with fail
    rw [← hW0]
    clear hW0
    refine (HA.out _).mono ?_
    rintro r w1 ⟨A1, d1, rfl, hc1, hO1, hb1⟩
    have hB1 : BlkS w1 (w.heap.size + 1) #[.int .i64 0, .string { data := #[] }, .string { data := #[] }, .int .i64 0, .int .i64 0, .string { data := #[] }, .slice none 0 0, .int .i64 0, .int .i64 0, .string { data := #[] }, .slice none 0 0] := (hb1.block _ hs0).trans hB0; have x0 := hB1.cell 0; have q0 := hB1.frozen 0; have x1 := hB1.cell 1; have q1 := hB1.frozen 1; have x2 := hB1.cell 2; have q2 := hB1.frozen 2; have x3 := hB1.cell 3; have q3 := hB1.frozen 3; have x4 := hB1.cell 4; have q4 := hB1.frozen 4; have x5 := hB1.cell 5; have q5 := hB1.frozen 5; have x6 := hB1.cell 6; have q6 := hB1.frozen 6; have x7 := hB1.cell 7; have q7 := hB1.frozen 7; have x8 := hB1.cell 8; have q8 := hB1.frozen 8; have x9 := hB1.cell 9; have q9 := hB1.frozen 9; have x10 := hB1.cell 10; have q10 := hB1.frozen 10; simp only [List.getElem?_toArray, List.getElem?_cons_zero, List.getElem?_cons_succ] at x0 x1 x2 x3 x4 x5 x6 x7 x8 x9 x10; have hlB := hB1.lt
    have hz1 := hb1.size
    go_wp2_with fail
    obtain ⟨wn, hwn⟩ : ∃ wn, wn = (((((((((((w1.setCell ⟨w.heap.size + 1, 0, none⟩ (.int .i64 2)).setCell ⟨w.heap.size + 1, 1, none⟩ (.string { data := #[] })).setCell ⟨w.heap.size + 1, 2, none⟩ (.string { data := #[] })).setCell ⟨w.heap.size + 1, 3, none⟩ (.int .i64 x.kind)).setCell ⟨w.heap.size + 1, 4, none⟩ (.int .i64 x.n)).setCell ⟨w.heap.size + 1, 5, none⟩ (.string x.s)).setCell ⟨w.heap.size + 1, 6, none⟩ (.slice A1 x.kids.length d1)).setCell ⟨w.heap.size + 1, 7, none⟩ (.int .i64 0)).setCell ⟨w.heap.size + 1, 8, none⟩ (.int .i64 0)).setCell ⟨w.heap.size + 1, 9, none⟩ (.string { data := #[] })).setCell ⟨w.heap.size + 1, 10, none⟩ (.slice none 0 0)) := ⟨_, rfl⟩
    have hwa : wn = setAll w1 (w.heap.size + 1) 0 [.int .i64 2, .string { data := #[] }, .string { data := #[] }, .int .i64 x.kind, .int .i64 x.n, .string x.s, .slice A1 x.kids.length d1, .int .i64 0, .int .i64 0, .string { data := #[] }, .slice none 0 0] := by rw [hwn]; rfl
    have hRn : BlkS wn (w.heap.size + 1) #[.int .i64 2, .string { data := #[] }, .string { data := #[] }, .int .i64 x.kind, .int .i64 x.n, .string x.s, .slice A1 x.kids.length d1, .int .i64 0, .int .i64 0, .string { data := #[] }, .slice none 0 0] := by rw [hwa]; exact setAll_blk [.int .i64 2, .string { data := #[] }, .string { data := #[] }, .int .i64 x.kind, .int .i64 x.n, .string x.s, .slice A1 x.kids.length d1, .int .i64 0, .int .i64 0, .string { data := #[] }, .slice none 0 0] 0 _ w1 hB1 rfl
    have hsn : ∀ k, k ≠ w.heap.size + 1 → wn.heap[k]? = w1.heap[k]? := fun k hk => by rw [hwa]; exact setAll_other _ _ _ _ hk
    have hzn : wn.heap.size = w1.heap.size := by rw [hwa]; exact setAll_size _ _ _ _
    have hosn : wn.os = w1.os ∧ wn.tape = w1.tape ∧ wn.output = w1.output := by rw [hwa]; exact setAll_os _ _ _ _
    rw [← hwn]
    clear hwn hwa
    have r0 := hRn.cell 0
    have r1 := hRn.cell 1
    have r2 := hRn.cell 2
    have r3 := hRn.cell 3
    have r4 := hRn.cell 4
    have r5 := hRn.cell 5
    have r6 := hRn.cell 6
    have r7 := hRn.cell 7
    have r8 := hRn.cell 8
    have r9 := hRn.cell 9
    have r10 := hRn.cell 10
    simp only [List.getElem?_toArray, List.getElem?_cons_zero, List.getElem?_cons_succ] at r0 r1 r2 r3 r4 r5 r6 r7 r8 r9 r10
    refine bodyPost_ret (v := .agg #[.int .i64 2, .string { data := #[] }, .string { data := #[] }, .int .i64 x.kind, .int .i64 x.n, .string x.s, .slice A1 x.kids.length d1, .int .i64 0, .int .i64 0, .string { data := #[] }, .slice none 0 0]) (by simp [results, Tryz.results145, go_sem, r0, r1, r2, r3, r4, r5, r6, r7, r8, r9, r10]) rfl ?_
    have hz0 := hb0.size
    exact ⟨A1, d1, none, 0, wn.heap.size, rfl, hc1, Nat.le_refl _, own_wide (own_keep _ _ _ _ (fun k q1 q2 => hsn k (by have : W0.heap.size ≤ k := q1; omega)) hO1) (show w.heap.size ≤ W0.heap.size from hz0) (by omega), own_nil _ _ _ _ _ _ _ (Nat.le_refl _), Nat.le_refl _, hb0.trans ((hb1.mono hb0.size).trans ⟨hosn.1, hosn.2.1, hosn.2.2, by omega, fun k hk => hsn k (by omega)⟩)⟩
  | whenD p q =>
    show Calls Tryz.prog 148 #[.agg #[partV p, partV q]] w (GivesSt ⟨3, ByteArray.empty, ByteArray.empty, p.ex, q.ex⟩ w)
    obtain ⟨m1, n1, k1⟩ := meth_expr p
    obtain ⟨m2, n2, k2⟩ := meth_expr q
    have HA := Lib.hid (fun W => expr_any p W)
    have HB := Lib.hid (fun W => expr_any q W)
    rw [partV_at p, partV_at q]
    generalize ptT p = t1 at *
    generalize ptU p = u1 at *
    generalize fExpr p = f1 at *
    generalize p.ex = x at *
    generalize ptT q = t2 at *
    generalize ptU q = u2 at *
    generalize fExpr q = f2 at *
    generalize q.ex = y at *
    obtain ⟨W0, hW0⟩ : ∃ W0, W0 = (w.alloc (.cells #[.iface t1 u1, .iface t2 u2] 80)).alloc (.cells #[.int .i64 0, .string { data := #[] }, .string { data := #[] }, .int .i64 0, .int .i64 0, .string { data := #[] }, .slice none 0 0, .int .i64 0, .int .i64 0, .string { data := #[] }, .slice none 0 0] 36) := ⟨_, rfl⟩
    have hb0 : Below w.heap.size w W0 := by rw [hW0]; exact ((Below.refl _ w).alloc (Nat.le_refl _) _).alloc (by simp) _
    have hs0 : w.heap.size + 1 < W0.heap.size := by rw [hW0]; simp
    have hs1 : w.heap.size < W0.heap.size := by omega
    have hne : w.heap.size ≠ w.heap.size + 1 := by omega
    have hB0 : BlkS W0 (w.heap.size + 1) #[.int .i64 0, .string { data := #[] }, .string { data := #[] }, .int .i64 0, .int .i64 0, .string { data := #[] }, .slice none 0 0, .int .i64 0, .int .i64 0, .string { data := #[] }, .slice none 0 0] := by
      have := World.alloc_heap_new (w.alloc (.cells #[.iface t1 u1, .iface t2 u2] 80)) (.cells #[.int .i64 0, .string { data := #[] }, .string { data := #[] }, .int .i64 0, .int .i64 0, .string { data := #[] }, .slice none 0 0, .int .i64 0, .int .i64 0, .string { data := #[] }, .slice none 0 0] 36)
      rw [World.size_alloc] at this
      rw [hW0]; exact this
    have c0 : W0.cell? ⟨w.heap.size, 0, none⟩ = some (.iface t1 u1) := by rw [hW0]; exact (cell_alloc (by simp)).trans (cell_made4 w _ _ 0 _ rfl)
    have c1 : W0.cell? ⟨w.heap.size, 1, none⟩ = some (.iface t2 u2) := by rw [hW0]; exact (cell_alloc (by simp)).trans (cell_made4 w _ _ 1 _ rfl)
    go_enter Tryz.func148, Tryz.ntmps148
    go_wp2_with fail
    rw [← hW0]
    clear hW0
    go_region_held3 (fun w' => w'.cell? ⟨w.heap.size, 0, none⟩ = some (.iface t1 u1) ∧ w'.cell? ⟨w.heap.size, 1, none⟩ = some (.iface t2 u2))
      (first | with_reducible exact ⟨y0, y1⟩ | with_reducible exact ⟨z0, z1⟩ | with_reducible exact ⟨(cell_drew0 _ _).trans c0, (cell_drew0 _ _).trans c1⟩ | with_reducible exact ⟨(kept11 hne 0).trans y0, (kept11 hne 1).trans y1⟩)
      (first | (refine (HA.out _).mono ?_; rintro r w1 ⟨A1, d1, rfl, hc1, hO1, hb1'⟩; have hb1 : Below W0.heap.size W0 w1 := (Below.refl _ W0).drew.trans hb1'; have z0 := (hb1.cell (p := ⟨w.heap.size, 0, none⟩) hs1).trans c0; have z1 := (hb1.cell (p := ⟨w.heap.size, 1, none⟩) hs1).trans c1) | (refine (HB.out _).mono ?_; rintro r w2 ⟨A2, d2, rfl, hc2, hO2, hb2'⟩; have hb2 : Below W0.heap.size W0 w2 := hb1.trans (hb2'.mono hb1.size); have y0 := (hb2.cell (p := ⟨w.heap.size, 0, none⟩) hs1).trans c0; have y1 := (hb2.cell (p := ⟨w.heap.size, 1, none⟩) hs1).trans c1; have hB2 : BlkS w2 (w.heap.size + 1) #[.int .i64 0, .string { data := #[] }, .string { data := #[] }, .int .i64 0, .int .i64 0, .string { data := #[] }, .slice none 0 0, .int .i64 0, .int .i64 0, .string { data := #[] }, .slice none 0 0] := (hb2.block _ hs0).trans hB0; have x0 := hB2.cell 0; have q0 := hB2.frozen 0; have x1 := hB2.cell 1; have q1 := hB2.frozen 1; have x2 := hB2.cell 2; have q2 := hB2.frozen 2; have x3 := hB2.cell 3; have q3 := hB2.frozen 3; have x4 := hB2.cell 4; have q4 := hB2.frozen 4; have x5 := hB2.cell 5; have q5 := hB2.frozen 5; have x6 := hB2.cell 6; have q6 := hB2.frozen 6; have x7 := hB2.cell 7; have q7 := hB2.frozen 7; have x8 := hB2.cell 8; have q8 := hB2.frozen 8; have x9 := hB2.cell 9; have q9 := hB2.frozen 9; have x10 := hB2.cell 10; have q10 := hB2.frozen 10; simp only [List.getElem?_toArray, List.getElem?_cons_zero, List.getElem?_cons_succ] at x0 x1 x2 x3 x4 x5 x6 x7 x8 x9 x10; have hlB := hB2.lt))
    all_goals (try go_wp2_with fail)
    have hz1 := hb1.size
    have hz2 := hb2'.size
    obtain ⟨wn, hwn⟩ : ∃ wn, wn = (((((((((((w2.setCell ⟨w.heap.size + 1, 0, none⟩ (.int .i64 3)).setCell ⟨w.heap.size + 1, 1, none⟩ (.string { data := #[] })).setCell ⟨w.heap.size + 1, 2, none⟩ (.string { data := #[] })).setCell ⟨w.heap.size + 1, 3, none⟩ (.int .i64 x.kind)).setCell ⟨w.heap.size + 1, 4, none⟩ (.int .i64 x.n)).setCell ⟨w.heap.size + 1, 5, none⟩ (.string x.s)).setCell ⟨w.heap.size + 1, 6, none⟩ (.slice A1 x.kids.length d1)).setCell ⟨w.heap.size + 1, 7, none⟩ (.int .i64 y.kind)).setCell ⟨w.heap.size + 1, 8, none⟩ (.int .i64 y.n)).setCell ⟨w.heap.size + 1, 9, none⟩ (.string y.s)).setCell ⟨w.heap.size + 1, 10, none⟩ (.slice A2 y.kids.length d2)) := ⟨_, rfl⟩
    have hwa : wn = setAll w2 (w.heap.size + 1) 0 [.int .i64 3, .string { data := #[] }, .string { data := #[] }, .int .i64 x.kind, .int .i64 x.n, .string x.s, .slice A1 x.kids.length d1, .int .i64 y.kind, .int .i64 y.n, .string y.s, .slice A2 y.kids.length d2] := by rw [hwn]; rfl
    have hRn : BlkS wn (w.heap.size + 1) #[.int .i64 3, .string { data := #[] }, .string { data := #[] }, .int .i64 x.kind, .int .i64 x.n, .string x.s, .slice A1 x.kids.length d1, .int .i64 y.kind, .int .i64 y.n, .string y.s, .slice A2 y.kids.length d2] := by rw [hwa]; exact setAll_blk [.int .i64 3, .string { data := #[] }, .string { data := #[] }, .int .i64 x.kind, .int .i64 x.n, .string x.s, .slice A1 x.kids.length d1, .int .i64 y.kind, .int .i64 y.n, .string y.s, .slice A2 y.kids.length d2] 0 _ w2 hB2 rfl
    have hsn : ∀ k, k ≠ w.heap.size + 1 → wn.heap[k]? = w2.heap[k]? := fun k hk => by rw [hwa]; exact setAll_other _ _ _ _ hk
    have hzn : wn.heap.size = w2.heap.size := by rw [hwa]; exact setAll_size _ _ _ _
    have hosn : wn.os = w2.os ∧ wn.tape = w2.tape ∧ wn.output = w2.output := by rw [hwa]; exact setAll_os _ _ _ _
    rw [← hwn]
    clear hwn hwa
    have r0 := hRn.cell 0
    have r1 := hRn.cell 1
    have r2 := hRn.cell 2
    have r3 := hRn.cell 3
    have r4 := hRn.cell 4
    have r5 := hRn.cell 5
    have r6 := hRn.cell 6
    have r7 := hRn.cell 7
    have r8 := hRn.cell 8
    have r9 := hRn.cell 9
    have r10 := hRn.cell 10
    simp only [List.getElem?_toArray, List.getElem?_cons_zero, List.getElem?_cons_succ] at r0 r1 r2 r3 r4 r5 r6 r7 r8 r9 r10
    refine bodyPost_ret (v := .agg #[.int .i64 3, .string { data := #[] }, .string { data := #[] }, .int .i64 x.kind, .int .i64 x.n, .string x.s, .slice A1 x.kids.length d1, .int .i64 y.kind, .int .i64 y.n, .string y.s, .slice A2 y.kids.length d2]) (by simp [results, Tryz.results148, go_sem, r0, r1, r2, r3, r4, r5, r6, r7, r8, r9, r10]) rfl ?_
    have hz0 := hb0.size
    exact ⟨A1, d1, A2, d2, w1.heap.size, rfl, hc1, hc2, own_wide (own_keep _ _ _ _ (fun k q1 q2 => (hsn k (by have : W0.heap.size ≤ k := q1; omega)).trans (hb2'.block k q2)) hO1) (show w.heap.size ≤ W0.heap.size from hz0) (Nat.le_refl _), own_wide (own_keep _ _ _ _ (fun k q1 q2 => hsn k (by have : w1.heap.size ≤ k := q1; omega)) hO2) (Nat.le_refl _) (by omega), by omega, hb0.trans ((hb2.mono hb0.size).trans ⟨hosn.1, hosn.2.1, hosn.2.2, by omega, fun k hk => hsn k (by omega)⟩)⟩
end Go.Proofs.YtabignplhkbcpaaGreatDoor
