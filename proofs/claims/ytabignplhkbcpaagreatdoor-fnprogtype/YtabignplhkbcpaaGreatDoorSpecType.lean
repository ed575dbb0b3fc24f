/-
  The contracts of the model's l6Fits and ProgType.
-/
import Derived.Test.YtabignplhkbcpaaGreatDoorGR
import Derived.Test.YtabignplhkbcpaaGreatDoorSpecOf2
import Derived.Test.YtabignplhkbcpaaGreatDoorSpecProg
import Derived.Test.YtabignplhkbcpaaGreatDoorGQ
import Derived.Test.YtabignplhkbcpaaGreatDoorGM
namespace Go.Proofs.YtabignplhkbcpaaGreatDoor
open Go.RowKit

set_option linter.unusedVariables false in
set_option linter.unusedSimpArgs false in
set_option maxRecDepth 100000 in
set_option maxHeartbeats 8000000 in
theorem l6Fits_any (d : De) (hd : d.fine = true) (A1 A2 An Av : Option Addr) (c1 c2 cn cv B : Nat) (ss vs : List ByteArray) (w : World) (hl : ss.length ≤ 2 ^ 40) (hlen : ss.length = vs.length) (hA1 : KidsAt w B A1 d.st.e.kids) (hA2 : KidsAt w B A2 d.st.t.kids) (hc1 : d.st.e.kids.length ≤ c1) (hc2 : d.st.t.kids.length ≤ c2) (hB : B ≤ w.heap.size) (hN : SlIs w An (ss.map strV)) (hV : SlIs w Av (vs.map strV)) :
    Calls Tryz.prog 28 #[stV d.st A1 A2 c1 c2, .slice An ss.length cn, .slice Av vs.length cv] w fun r w' => r = .returned (.bool (fitsD ss vs d)) ∧ Below w.heap.size w w' := by
  cases d with
  | noD =>
    show Calls Tryz.prog 28 #[.agg #[.int .i64 0, .string ByteArray.empty, .string ByteArray.empty, .int .i64 0, .int .i64 0, .string ByteArray.empty, .slice A1 0 c1, .int .i64 0, .int .i64 0, .string ByteArray.empty, .slice A2 0 c2], .slice An ss.length cn, .slice Av vs.length cv] w fun r w' => r = .returned (.bool (true)) ∧ Below w.heap.size w w'
    obtain ⟨W0, hW0⟩ : ∃ W0, W0 = w.alloc (.cells #[.int .i64 0, .string ByteArray.empty, .string ByteArray.empty, .int .i64 0, .int .i64 0, .string ByteArray.empty, .slice A1 0 c1, .int .i64 0, .int .i64 0, .string ByteArray.empty, .slice A2 0 c2] 36) := ⟨_, rfl⟩
    have hb0 : Below w.heap.size w W0 := by rw [hW0]; exact (Below.refl _ w).alloc (Nat.le_refl _) _
    have hs0 : w.heap.size < W0.heap.size := by rw [hW0]; simp
    have a0 : W0.cell? ⟨w.heap.size, 0, none⟩ = some (.int .i64 0) := by rw [hW0]; exact cell_marked w _ _ 0 _ rfl
    have a1 : W0.cell? ⟨w.heap.size, 1, none⟩ = some (.string ByteArray.empty) := by rw [hW0]; exact cell_marked w _ _ 1 _ rfl
    have a2 : W0.cell? ⟨w.heap.size, 2, none⟩ = some (.string ByteArray.empty) := by rw [hW0]; exact cell_marked w _ _ 2 _ rfl
    have a3 : W0.cell? ⟨w.heap.size, 3, none⟩ = some (.int .i64 0) := by rw [hW0]; exact cell_marked w _ _ 3 _ rfl
    have a4 : W0.cell? ⟨w.heap.size, 4, none⟩ = some (.int .i64 0) := by rw [hW0]; exact cell_marked w _ _ 4 _ rfl
    have a5 : W0.cell? ⟨w.heap.size, 5, none⟩ = some (.string ByteArray.empty) := by rw [hW0]; exact cell_marked w _ _ 5 _ rfl
    have a6 : W0.cell? ⟨w.heap.size, 6, none⟩ = some (.slice A1 0 c1) := by rw [hW0]; exact cell_marked w _ _ 6 _ rfl
    have a7 : W0.cell? ⟨w.heap.size, 7, none⟩ = some (.int .i64 0) := by rw [hW0]; exact cell_marked w _ _ 7 _ rfl
    have a8 : W0.cell? ⟨w.heap.size, 8, none⟩ = some (.int .i64 0) := by rw [hW0]; exact cell_marked w _ _ 8 _ rfl
    have a9 : W0.cell? ⟨w.heap.size, 9, none⟩ = some (.string ByteArray.empty) := by rw [hW0]; exact cell_marked w _ _ 9 _ rfl
    have a10 : W0.cell? ⟨w.heap.size, 10, none⟩ = some (.slice A2 0 c2) := by rw [hW0]; exact cell_marked w _ _ 10 _ rfl
    clear hA1 hA2 hN hV hlen
    rw [hW0] at hb0
    go_enter Tryz.func28, Tryz.ntmps28
    go_wp2_with fail
    go_ret
    exact ⟨rfl, hb0⟩
  | letD n t p =>
    show Calls Tryz.prog 28 #[.agg #[.int .i64 1, .string n, .string t, .int .i64 p.ex.kind, .int .i64 p.ex.n, .string p.ex.s, .slice A1 p.ex.kids.length c1, .int .i64 0, .int .i64 0, .string ByteArray.empty, .slice A2 0 c2], .slice An ss.length cn, .slice Av vs.length cv] w fun r w' => r = .returned (.bool (decide (p.typ ss vs = t))) ∧ Below w.heap.size w w'
    obtain ⟨W0, hW0⟩ : ∃ W0, W0 = w.alloc (.cells #[.int .i64 1, .string n, .string t, .int .i64 p.ex.kind, .int .i64 p.ex.n, .string p.ex.s, .slice A1 p.ex.kids.length c1, .int .i64 0, .int .i64 0, .string ByteArray.empty, .slice A2 0 c2] 36) := ⟨_, rfl⟩
    have hb0 : Below w.heap.size w W0 := by rw [hW0]; exact (Below.refl _ w).alloc (Nat.le_refl _) _
    have hs0 : w.heap.size < W0.heap.size := by rw [hW0]; simp
    have a0 : W0.cell? ⟨w.heap.size, 0, none⟩ = some (.int .i64 1) := by rw [hW0]; exact cell_marked w _ _ 0 _ rfl
    have a1 : W0.cell? ⟨w.heap.size, 1, none⟩ = some (.string n) := by rw [hW0]; exact cell_marked w _ _ 1 _ rfl
    have a2 : W0.cell? ⟨w.heap.size, 2, none⟩ = some (.string t) := by rw [hW0]; exact cell_marked w _ _ 2 _ rfl
    have a3 : W0.cell? ⟨w.heap.size, 3, none⟩ = some (.int .i64 p.ex.kind) := by rw [hW0]; exact cell_marked w _ _ 3 _ rfl
    have a4 : W0.cell? ⟨w.heap.size, 4, none⟩ = some (.int .i64 p.ex.n) := by rw [hW0]; exact cell_marked w _ _ 4 _ rfl
    have a5 : W0.cell? ⟨w.heap.size, 5, none⟩ = some (.string p.ex.s) := by rw [hW0]; exact cell_marked w _ _ 5 _ rfl
    have a6 : W0.cell? ⟨w.heap.size, 6, none⟩ = some (.slice A1 p.ex.kids.length c1) := by rw [hW0]; exact cell_marked w _ _ 6 _ rfl
    have a7 : W0.cell? ⟨w.heap.size, 7, none⟩ = some (.int .i64 0) := by rw [hW0]; exact cell_marked w _ _ 7 _ rfl
    have a8 : W0.cell? ⟨w.heap.size, 8, none⟩ = some (.int .i64 0) := by rw [hW0]; exact cell_marked w _ _ 8 _ rfl
    have a9 : W0.cell? ⟨w.heap.size, 9, none⟩ = some (.string ByteArray.empty) := by rw [hW0]; exact cell_marked w _ _ 9 _ rfl
    have a10 : W0.cell? ⟨w.heap.size, 10, none⟩ = some (.slice A2 0 c2) := by rw [hW0]; exact cell_marked w _ _ 10 _ rfl
    simp only [De.fine, Bool.and_eq_true] at hd
    have HA := Lib.hid (fun (W : World) (hW : Below W0.heap.size W0 W) => l4TypeOf_any (cn := cn) (cv := cv) hl hlen p (ok_fine hd.2.2) A1 c1 B W (show KidsAt W B A1 p.ex.kids from hA1.keep ((hb0.trans (hW.mono hb0.size)).mono hB)) hc1 (Nat.le_trans hB (Nat.le_trans hb0.size hW.size)) (hN.below (hb0.trans (hW.mono hb0.size))) (hV.below (hb0.trans (hW.mono hb0.size))))
    clear hA1 hA2 hN hV hlen
    unfold Types at HA
    generalize p.ex = x at *
    generalize p.typ ss vs = r1 at *
    have HD := Lib.hid (show decide (r1 = t) = (r1.toList == t.toList) by
      by_cases h : r1 = t
      · subst h; simp
      · rw [decide_eq_false h, eq_comm, beq_eq_false_iff_ne]
        intro e; rw [ByteArray.toList_eq, ByteArray.toList_eq] at e; exact h (ByteArray.ext (Array.toList_inj.1 e)))
    go_enter Tryz.func28, Tryz.ntmps28
    go_wp2_with fail
    rw [← hW0]
    clear hW0
    refine (HA.out W0 (Below.refl _ W0)).mono ?_
    rintro r w1 ⟨rfl, hb1⟩
    have x0 := (hb1.cell (p := ⟨w.heap.size, 0, none⟩) hs0).trans a0
    have x1 := (hb1.cell (p := ⟨w.heap.size, 1, none⟩) hs0).trans a1
    have x2 := (hb1.cell (p := ⟨w.heap.size, 2, none⟩) hs0).trans a2
    have x3 := (hb1.cell (p := ⟨w.heap.size, 3, none⟩) hs0).trans a3
    have x4 := (hb1.cell (p := ⟨w.heap.size, 4, none⟩) hs0).trans a4
    have x5 := (hb1.cell (p := ⟨w.heap.size, 5, none⟩) hs0).trans a5
    have x6 := (hb1.cell (p := ⟨w.heap.size, 6, none⟩) hs0).trans a6
    have x7 := (hb1.cell (p := ⟨w.heap.size, 7, none⟩) hs0).trans a7
    have x8 := (hb1.cell (p := ⟨w.heap.size, 8, none⟩) hs0).trans a8
    have x9 := (hb1.cell (p := ⟨w.heap.size, 9, none⟩) hs0).trans a9
    have x10 := (hb1.cell (p := ⟨w.heap.size, 10, none⟩) hs0).trans a10
    have HX := Lib.hid (hb0.trans (hb1.mono hb0.size))
    clear a0 a1 a2 a3 a4 a5 a6 a7 a8 a9 a10
    go_wp2_with fail
    go_ret
    exact ⟨ret_bool HD.out.symm, HX.out⟩
  | sayD p =>
    show Calls Tryz.prog 28 #[.agg #[.int .i64 2, .string ByteArray.empty, .string ByteArray.empty, .int .i64 p.ex.kind, .int .i64 p.ex.n, .string p.ex.s, .slice A1 p.ex.kids.length c1, .int .i64 0, .int .i64 0, .string ByteArray.empty, .slice A2 0 c2], .slice An ss.length cn, .slice Av vs.length cv] w fun r w' => r = .returned (.bool (decide (¬ p.typ ss vs = ByteArray.empty))) ∧ Below w.heap.size w w'
    obtain ⟨W0, hW0⟩ : ∃ W0, W0 = w.alloc (.cells #[.int .i64 2, .string ByteArray.empty, .string ByteArray.empty, .int .i64 p.ex.kind, .int .i64 p.ex.n, .string p.ex.s, .slice A1 p.ex.kids.length c1, .int .i64 0, .int .i64 0, .string ByteArray.empty, .slice A2 0 c2] 36) := ⟨_, rfl⟩
    have hb0 : Below w.heap.size w W0 := by rw [hW0]; exact (Below.refl _ w).alloc (Nat.le_refl _) _
    have hs0 : w.heap.size < W0.heap.size := by rw [hW0]; simp
    have a0 : W0.cell? ⟨w.heap.size, 0, none⟩ = some (.int .i64 2) := by rw [hW0]; exact cell_marked w _ _ 0 _ rfl
    have a1 : W0.cell? ⟨w.heap.size, 1, none⟩ = some (.string ByteArray.empty) := by rw [hW0]; exact cell_marked w _ _ 1 _ rfl
    have a2 : W0.cell? ⟨w.heap.size, 2, none⟩ = some (.string ByteArray.empty) := by rw [hW0]; exact cell_marked w _ _ 2 _ rfl
    have a3 : W0.cell? ⟨w.heap.size, 3, none⟩ = some (.int .i64 p.ex.kind) := by rw [hW0]; exact cell_marked w _ _ 3 _ rfl
    have a4 : W0.cell? ⟨w.heap.size, 4, none⟩ = some (.int .i64 p.ex.n) := by rw [hW0]; exact cell_marked w _ _ 4 _ rfl
    have a5 : W0.cell? ⟨w.heap.size, 5, none⟩ = some (.string p.ex.s) := by rw [hW0]; exact cell_marked w _ _ 5 _ rfl
    have a6 : W0.cell? ⟨w.heap.size, 6, none⟩ = some (.slice A1 p.ex.kids.length c1) := by rw [hW0]; exact cell_marked w _ _ 6 _ rfl
    have a7 : W0.cell? ⟨w.heap.size, 7, none⟩ = some (.int .i64 0) := by rw [hW0]; exact cell_marked w _ _ 7 _ rfl
    have a8 : W0.cell? ⟨w.heap.size, 8, none⟩ = some (.int .i64 0) := by rw [hW0]; exact cell_marked w _ _ 8 _ rfl
    have a9 : W0.cell? ⟨w.heap.size, 9, none⟩ = some (.string ByteArray.empty) := by rw [hW0]; exact cell_marked w _ _ 9 _ rfl
    have a10 : W0.cell? ⟨w.heap.size, 10, none⟩ = some (.slice A2 0 c2) := by rw [hW0]; exact cell_marked w _ _ 10 _ rfl
    have HA := Lib.hid (fun (W : World) (hW : Below W0.heap.size W0 W) => l4TypeOf_any (cn := cn) (cv := cv) hl hlen p (ok_fine hd) A1 c1 B W (show KidsAt W B A1 p.ex.kids from hA1.keep ((hb0.trans (hW.mono hb0.size)).mono hB)) hc1 (Nat.le_trans hB (Nat.le_trans hb0.size hW.size)) (hN.below (hb0.trans (hW.mono hb0.size))) (hV.below (hb0.trans (hW.mono hb0.size))))
    clear hA1 hA2 hN hV hlen
    unfold Types at HA
    generalize p.ex = x at *
    generalize p.typ ss vs = r1 at *
    have HD := Lib.hid (show decide (¬ r1 = ByteArray.empty) = (!r1.toList.isEmpty) by
      rw [show r1.toList.isEmpty = (r1.toList == []) by cases r1.toList <;> rfl, isS]; simp; rfl)
    go_enter Tryz.func28, Tryz.ntmps28
    go_wp2_with fail
    rw [← hW0]
    clear hW0
    refine (HA.out W0 (Below.refl _ W0)).mono ?_
    rintro r w1 ⟨rfl, hb1⟩
    have x0 := (hb1.cell (p := ⟨w.heap.size, 0, none⟩) hs0).trans a0
    have x1 := (hb1.cell (p := ⟨w.heap.size, 1, none⟩) hs0).trans a1
    have x2 := (hb1.cell (p := ⟨w.heap.size, 2, none⟩) hs0).trans a2
    have x3 := (hb1.cell (p := ⟨w.heap.size, 3, none⟩) hs0).trans a3
    have x4 := (hb1.cell (p := ⟨w.heap.size, 4, none⟩) hs0).trans a4
    have x5 := (hb1.cell (p := ⟨w.heap.size, 5, none⟩) hs0).trans a5
    have x6 := (hb1.cell (p := ⟨w.heap.size, 6, none⟩) hs0).trans a6
    have x7 := (hb1.cell (p := ⟨w.heap.size, 7, none⟩) hs0).trans a7
    have x8 := (hb1.cell (p := ⟨w.heap.size, 8, none⟩) hs0).trans a8
    have x9 := (hb1.cell (p := ⟨w.heap.size, 9, none⟩) hs0).trans a9
    have x10 := (hb1.cell (p := ⟨w.heap.size, 10, none⟩) hs0).trans a10
    have HX := Lib.hid (hb0.trans (hb1.mono hb0.size))
    clear a0 a1 a2 a3 a4 a5 a6 a7 a8 a9 a10
    go_wp2_with fail
    go_ret
    exact ⟨ret_bool HD.out.symm, HX.out⟩
  | whenD p q =>
    show Calls Tryz.prog 28 #[.agg #[.int .i64 3, .string ByteArray.empty, .string ByteArray.empty, .int .i64 p.ex.kind, .int .i64 p.ex.n, .string p.ex.s, .slice A1 p.ex.kids.length c1, .int .i64 q.ex.kind, .int .i64 q.ex.n, .string q.ex.s, .slice A2 q.ex.kids.length c2], .slice An ss.length cn, .slice Av vs.length cv] w fun r w' => r = .returned (.bool (decide (p.typ ss vs = sBool) && decide (¬ q.typ ss vs = ByteArray.empty))) ∧ Below w.heap.size w w'
    obtain ⟨W0, hW0⟩ : ∃ W0, W0 = w.alloc (.cells #[.int .i64 3, .string ByteArray.empty, .string ByteArray.empty, .int .i64 p.ex.kind, .int .i64 p.ex.n, .string p.ex.s, .slice A1 p.ex.kids.length c1, .int .i64 q.ex.kind, .int .i64 q.ex.n, .string q.ex.s, .slice A2 q.ex.kids.length c2] 36) := ⟨_, rfl⟩
    have hb0 : Below w.heap.size w W0 := by rw [hW0]; exact (Below.refl _ w).alloc (Nat.le_refl _) _
    have hs0 : w.heap.size < W0.heap.size := by rw [hW0]; simp
    have a0 : W0.cell? ⟨w.heap.size, 0, none⟩ = some (.int .i64 3) := by rw [hW0]; exact cell_marked w _ _ 0 _ rfl
    have a1 : W0.cell? ⟨w.heap.size, 1, none⟩ = some (.string ByteArray.empty) := by rw [hW0]; exact cell_marked w _ _ 1 _ rfl
    have a2 : W0.cell? ⟨w.heap.size, 2, none⟩ = some (.string ByteArray.empty) := by rw [hW0]; exact cell_marked w _ _ 2 _ rfl
    have a3 : W0.cell? ⟨w.heap.size, 3, none⟩ = some (.int .i64 p.ex.kind) := by rw [hW0]; exact cell_marked w _ _ 3 _ rfl
    have a4 : W0.cell? ⟨w.heap.size, 4, none⟩ = some (.int .i64 p.ex.n) := by rw [hW0]; exact cell_marked w _ _ 4 _ rfl
    have a5 : W0.cell? ⟨w.heap.size, 5, none⟩ = some (.string p.ex.s) := by rw [hW0]; exact cell_marked w _ _ 5 _ rfl
    have a6 : W0.cell? ⟨w.heap.size, 6, none⟩ = some (.slice A1 p.ex.kids.length c1) := by rw [hW0]; exact cell_marked w _ _ 6 _ rfl
    have a7 : W0.cell? ⟨w.heap.size, 7, none⟩ = some (.int .i64 q.ex.kind) := by rw [hW0]; exact cell_marked w _ _ 7 _ rfl
    have a8 : W0.cell? ⟨w.heap.size, 8, none⟩ = some (.int .i64 q.ex.n) := by rw [hW0]; exact cell_marked w _ _ 8 _ rfl
    have a9 : W0.cell? ⟨w.heap.size, 9, none⟩ = some (.string q.ex.s) := by rw [hW0]; exact cell_marked w _ _ 9 _ rfl
    have a10 : W0.cell? ⟨w.heap.size, 10, none⟩ = some (.slice A2 q.ex.kids.length c2) := by rw [hW0]; exact cell_marked w _ _ 10 _ rfl
    simp only [De.fine, Bool.and_eq_true] at hd
    have HA := Lib.hid (fun (W : World) (hW : Below W0.heap.size W0 W) => l4TypeOf_any (cn := cn) (cv := cv) hl hlen p (ok_fine hd.1) A1 c1 B W (show KidsAt W B A1 p.ex.kids from hA1.keep ((hb0.trans (hW.mono hb0.size)).mono hB)) hc1 (Nat.le_trans hB (Nat.le_trans hb0.size hW.size)) (hN.below (hb0.trans (hW.mono hb0.size))) (hV.below (hb0.trans (hW.mono hb0.size))))
    have HB := Lib.hid (fun (W : World) (hW : Below W0.heap.size W0 W) => l4TypeOf_any (cn := cn) (cv := cv) hl hlen q (ok_fine hd.2) A2 c2 B W (show KidsAt W B A2 q.ex.kids from hA2.keep ((hb0.trans (hW.mono hb0.size)).mono hB)) hc2 (Nat.le_trans hB (Nat.le_trans hb0.size hW.size)) (hN.below (hb0.trans (hW.mono hb0.size))) (hV.below (hb0.trans (hW.mono hb0.size))))
    clear hA1 hA2 hN hV hlen
    unfold Types at HA HB
    generalize p.ex = x at *
    generalize q.ex = y at *
    generalize p.typ ss vs = r1 at *
    generalize q.typ ss vs = r2 at *
    have HD := Lib.hid (show decide (¬ r2 = ByteArray.empty) = (!r2.toList.isEmpty) by
      rw [show r2.toList.isEmpty = (r2.toList == []) by cases r2.toList <;> rfl, isS]; simp; rfl)
    go_enter Tryz.func28, Tryz.ntmps28
    go_wp2_with fail
    rw [← hW0]
    clear hW0
    refine (HA.out W0 (Below.refl _ W0)).mono ?_
    rintro r w1 ⟨rfl, hb1⟩
    have x0 := (hb1.cell (p := ⟨w.heap.size, 0, none⟩) hs0).trans a0
    have x1 := (hb1.cell (p := ⟨w.heap.size, 1, none⟩) hs0).trans a1
    have x2 := (hb1.cell (p := ⟨w.heap.size, 2, none⟩) hs0).trans a2
    have x3 := (hb1.cell (p := ⟨w.heap.size, 3, none⟩) hs0).trans a3
    have x4 := (hb1.cell (p := ⟨w.heap.size, 4, none⟩) hs0).trans a4
    have x5 := (hb1.cell (p := ⟨w.heap.size, 5, none⟩) hs0).trans a5
    have x6 := (hb1.cell (p := ⟨w.heap.size, 6, none⟩) hs0).trans a6
    have x7 := (hb1.cell (p := ⟨w.heap.size, 7, none⟩) hs0).trans a7
    have x8 := (hb1.cell (p := ⟨w.heap.size, 8, none⟩) hs0).trans a8
    have x9 := (hb1.cell (p := ⟨w.heap.size, 9, none⟩) hs0).trans a9
    have x10 := (hb1.cell (p := ⟨w.heap.size, 10, none⟩) hs0).trans a10
    have HX := Lib.hid (hb0.trans (hb1.mono hb0.size))
    clear a0 a1 a2 a3 a4 a5 a6 a7 a8 a9 a10
    have HW1 := Lib.hid hb1
    by_cases h1 : r1 = sBool
    · have q1 : (r1.toList == [98, 111, 111, 108]) = true := by rw [isS, decide_eq_true_eq]; exact h1
      have H1 := Lib.hid h1
      clear h1
      go_wp2_with fail
      refine (HB.out w1 HW1.out).mono ?_
      rintro r w2 ⟨rfl, hb2⟩
      go_wp2_with fail
      go_ret
      exact ⟨ret_bool (by rw [decide_eq_true H1.out, Bool.true_and, HD.out]), HX.out.trans (hb2.mono HX.out.size)⟩
    · have q1 : (r1.toList == [98, 111, 111, 108]) = false := by rw [isS, decide_eq_false_iff_not]; exact h1
      have H1 := Lib.hid h1
      clear h1
      go_wp2_with fail
      go_ret
      exact ⟨ret_bool (by rw [decide_eq_false H1.out, Bool.false_and]), HX.out⟩
theorem toldS_eq (ss : List ByteArray) (d : De) : toldS ss d = (if d.st.kind = 1 then ss ++ [d.st.name] else ss) ∧ ∀ vs, toldV vs d = (if d.st.kind = 1 then vs ++ [d.st.typ] else vs) := by
  cases d <;> exact ⟨rfl, fun _ => rfl⟩
set_option linter.unusedVariables false in
set_option linter.unusedSimpArgs false in
set_option maxRecDepth 100000 in
set_option maxHeartbeats 8000000 in
theorem specProgType_any (xs : List St) (A : Option Addr) (c B : Nat) (w : World) (hA : LinesAt w B A xs) (hB : B ≤ w.heap.size) (hwt : stWts xs ≤ 2 ^ 29) :
    Calls Tryz.prog 16 #[.slice A xs.length c] w fun r w' => r = .returned (.int .i64 (typeP xs)) ∧ Below w.heap.size w w' := by
  have HD := Lib.hid (specProgOk_any xs A c B w hA hB hwt)
  have HA := Lib.hid hA
  have hl : xs.length ≤ 2 ^ 29 := Nat.le_trans (stWts_length xs) hwt
  cases hds : doP xs with
  | none =>
    rw [hds] at HD
    have HT := Lib.hid (show typeP xs = -2 by unfold typeP; rw [hds])
    simp only [Option.isSome_none] at HD
    clear hds hA
    go_enter Tryz.func16, Tryz.ntmps16
    go_wp2_with fail
    refine HD.out.mono ?_
    rintro r w1 ⟨rfl, hb1⟩
    go_wp2_with fail
    go_ret
    exact ⟨ret_int HT.out.symm, hb1⟩
  | some ds =>
    rw [hds] at HD
    have HT := Lib.hid (show typeP xs = typeFrom ds [] [] 0 by unfold typeP; rw [hds])
    have hfin := doP_fine hds
    have h16 : ds.length ≤ 16 := by have h1 := doP_some hds; have h2 := hfin.1; omega
    have HDS := Lib.hid (fun j (h1 : j < xs.length) (h2 : j < ds.length) => ((deedsL_some xs ds).1 (doP_some hds).1).2 j h1 h2)
    have HFI := Lib.hid hfin.2
    have HLN := Lib.hid hfin.1
    simp only [Option.isSome_some] at HD
    clear hds hA hfin
    go_enter Tryz.func16, Tryz.ntmps16
    go_wp2_with fail
    refine HD.out.mono ?_
    rintro r w1 ⟨rfl, hb1⟩
    have R1 := rowB_empty w1 9
    obtain ⟨X, hX⟩ : ∃ X, X = (w1.alloc (.cells #[] 9)).alloc (.cells #[] 9) := ⟨_, rfl⟩
    have R2 := rowB_empty (w1.alloc (.cells #[] 9)) 9
    rw [World.size_alloc, ← hX] at R2
    have HR1 := Lib.hid (show RowB X w1.heap.size w1.heap.size 9 (.slice (some ⟨w1.heap.size, 0, none⟩) 0 0) (([] : List ByteArray).map strV) by
      rw [hX]; exact R1.below ((Below.refl _ _).alloc (Nat.le_refl _) _))
    have HR2 := Lib.hid (show RowB X w1.heap.size (w1.heap.size + 1) 9 (.slice (some ⟨w1.heap.size + 1, 0, none⟩) 0 0) (([] : List ByteArray).map strV) from R2.base (Nat.le_succ _))
    have HBX := Lib.hid (show Below w1.heap.size w1 X by rw [hX]; exact ((Below.refl _ w1).alloc (Nat.le_refl _) _).alloc (by simp) _)
    have HB1 := Lib.hid hb1
    clear R1 R2 hb1
    go_wp2_with fail
    rw [← hX]
    clear hX
    go_loopw [3, 4, 5] (fun v3 v4 i wr => ∃ (j : Nat) (ss vs : List ByteArray) (b3 b4 : Nat), j ≤ xs.length ∧ i = .int .i64 j ∧ Hid (ss.length = vs.length ∧ vs.length ≤ j) ∧ Hid (typeFrom (ds.drop j) ss vs j = typeFrom ds [] [] 0) ∧ Hid (RowB wr w1.heap.size b3 9 v3 (ss.map strV) ∧ RowB wr w1.heap.size b4 9 v4 (vs.map strV) ∧ b3 ≠ b4) ∧ Below w1.heap.size w1 wr)
      (fun _ _ i _ => xs.length - (intOf i).toNat)
    case atStart => exact ⟨0, [], [], _, _, Nat.zero_le _, rfl, Lib.hid ⟨rfl, Nat.le_refl _⟩, Lib.hid rfl, Lib.hid ⟨HR1.out, HR2.out, by omega⟩, HBX.out⟩
    case round =>
      obtain ⟨j, ss, vs, b3, b4, hj, rfl, HSV, HR, HRW, hbw⟩ := hrel
      by_cases hlt : j < xs.length
      · have hltd : j < ds.length := by rw [HLN.out]; exact hlt
        have hx : (j : Int) < (xs.length : Int) := by omega
        have hbW := HB1.out.trans (hbw.mono HB1.out.size)
        obtain ⟨g, off, D1, m1, D2, m2, eA, hg, hC, hk1, hk2⟩ := LinesK.at_ (HA.out.keep (hbW.mono hB)) hlt
        subst eA
        obtain ⟨⟨c0, c1, c2, c3, c4, c5, c6, c7, c8, c9, c10⟩, hm1, hm2⟩ := hC
        have hdo := HDS.out j hlt hltd
        have hst := (doS_some hdo).2.1
        have hfd := (doS_some hdo).1
        have hstep := typeFrom_at hltd ss vs
        have htold := toldS_eq ss ds[j]
        rw [← hst] at c0 c1 c2 c3 c4 c5 c6 c7 c8 c9 c10 hk1 hk2 hm1 hm2
        generalize ds[j] = d at *
        obtain ⟨N3, k3, e3, hk3, hN3⟩ := HRW.out.1.slice
        obtain ⟨N4, k4, e4, hk4, hN4⟩ := HRW.out.2.1.slice
        rw [List.length_map] at e3 e4
        subst e3 e4
        have HF := Lib.hid (l6Fits_any d hfd D1 D2 N3 N4 m1 m2 k3 k4 B ss vs wr (by have := HSV.out; omega) HSV.out.1 hk1 hk2 hm1 hm2 (Nat.le_trans hB hbW.size) hN3 hN4)
        unfold stV at HF
        have hgl : g < wr.heap.size := by have := hbW.size; omega
        cases hf : fitsD ss vs d with
        | false =>
          rw [hf] at HF
          have HE := Lib.hid (show (j : Int) = typeP xs by rw [HT.out, ← HR.out, hstep, if_neg (by rw [hf]; decide)])
          clear hf hstep hdo hst hfd hk1 hk2 hm1 hm2 hN3 hN4 htold
          generalize d.st = s at *
          go_wp2_with fail
          refine HF.out.mono ?_
          rintro r w2 ⟨rfl, hb2⟩
          go_wp2_with fail
          go_ret
          exact ⟨ret_int HE.out, hbW.trans (hb2.mono hbW.size)⟩
        | true =>
          rw [hf] at HF
          have HE := Lib.hid (show typeFrom (ds.drop (j + 1)) (toldS ss d) (toldV vs d) (j + 1) = typeFrom ds [] [] 0 by rw [← HR.out, hstep, if_pos hf])
          have HTS := Lib.hid htold
          clear hf hstep hdo hst hfd hk1 hk2 hm1 hm2 hN3 hN4 htold
          generalize d.st = s at *
          go_wp2_with fail
          refine HF.out.mono ?_
          rintro r w2 ⟨rfl, hb2⟩
          have z0 := (hb2.cell (p := ⟨g, off + j * 11, none⟩) hgl).trans c0
          have z1 := (hb2.cell (p := ⟨g, off + j * 11 + 1, none⟩) hgl).trans c1
          have z2 := (hb2.cell (p := ⟨g, off + j * 11 + 2, none⟩) hgl).trans c2
          have HR3 := Lib.hid (HRW.out.1.below hb2)
          have HR4 := Lib.hid (HRW.out.2.1.below hb2)
          have HNE := Lib.hid HRW.out.2.2
          have HB2 := Lib.hid (hbw.trans (hb2.mono hbw.size))
          have hgl2 : g < w2.heap.size := by have := hb2.size; omega
          have hgB : g < w1.heap.size := by have := HB1.out.size; omega
          clear c0 c1 c2 c3 c4 c5 c6 c7 c8 c9 c10 hb2 HRW hbw
          by_cases hk : s.kind = 1
          · have qk : (s.kind == 1) = true := by simpa using hk
            have HK := Lib.hid (show toldS ss d = ss ++ [s.name] ∧ toldV vs d = vs ++ [s.typ] by
              constructor
              · rw [HTS.out.1, if_pos hk]
              · rw [HTS.out.2 vs, if_pos hk])
            clear hk
            have hb3 := HR3.out.lt
            have hb4 := HR4.out.lt
            have q63 : ss.length ≤ 100000 ∧ vs.length ≤ 100000 := by have := HSV.out; omega
            have HRA := Lib.hid (show RowB (w2.alloc (.cells #[.string s.name] 9)) w1.heap.size b3 9 (.slice N3 ss.length k3) (ss.map strV) from HR3.out.below ((Below.refl _ w2).alloc (Nat.le_refl _) _))
            have HRB := Lib.hid (show RowB (w2.alloc (.cells #[.string s.name] 9)) w1.heap.size b4 9 (.slice N4 vs.length k4) (vs.map strV) from HR4.out.below ((Below.refl _ w2).alloc (Nat.le_refl _) _))
            have HG1 := Lib.hid (show (w2.alloc (.cells #[.string s.name] 9)).cell? ⟨w2.heap.size, 0, none⟩ = some (.string s.name) from cell_made4 w2 _ _ 0 _ rfl)
            have HZ2 := Lib.hid z2
            clear HTS
            go_wp2_with (first | (at_builtin; refine wpList_app1S rfl _ _ rfl w1.heap.size b3 _ ss rfl HRA.out w2.heap.size s.name rfl HG1.out (by omega) (by simp <;> omega) ?_; intro v3 w3 b3' r1 g1 o1; have HR1' := Lib.hid r1; have HO1 := Lib.hid o1; have HRB2 := Lib.hid (HRB.out.keep g1 (fun e => HNE.out (by injection e))); have z2' := (World.cell?_of_block (a := ⟨g, off + j * 11 + 2, none⟩) ((g1.block g (by simp <;> omega) (fun e => by injection e with e; omega)).trans (Below.heap_alloc w2 _ g hgl2))).trans HZ2.out; have HB3 := Lib.hid ((HB2.out.trans (((Below.refl w2.heap.size w2).alloc (Nat.le_refl _) (.cells #[.string s.name] 9)).mono HB2.out.size)).trans (HRA.out.grown_below (Nat.le_refl _) g1)); have hz3 := g1.size; rw [World.size_alloc] at hz3; have hgl3 : g < w3.heap.size := (by omega); have HRC := Lib.hid (show RowB (w3.alloc (.cells #[.string s.typ] 9)) w1.heap.size b4 9 (.slice N4 vs.length k4) (vs.map strV) from HRB2.out.below ((Below.refl _ w3).alloc (Nat.le_refl _) _)); have HRD := Lib.hid (show RowB (w3.alloc (.cells #[.string s.typ] 9)) w1.heap.size b3' 9 v3 ((ss ++ [s.name]).map strV) from HR1'.out.below ((Below.refl _ w3).alloc (Nat.le_refl _) _)); have HG2 := Lib.hid (show (w3.alloc (.cells #[.string s.typ] 9)).cell? ⟨w3.heap.size, 0, none⟩ = some (.string s.typ) from cell_made4 w3 _ _ 0 _ rfl); have hb4' := HRB2.out.lt; clear r1 g1 o1 z0 z1 z2) | (at_builtin; refine wpList_app1S rfl _ _ rfl w1.heap.size b4 _ vs rfl HRC.out w3.heap.size s.typ rfl HG2.out (by omega) (by simp <;> omega) ?_; intro v4 w4 b4' r2 g2 o2; have HR2' := Lib.hid r2; have HO2 := Lib.hid o2; have HG4 := Lib.hid g2; clear r2 g2 o2))
            go_roundw
            case rel =>
              have hne : b3' ≠ b4 := by
                rcases HO1.out with h | h
                · rw [h]; exact HNE.out
                · rw [World.size_alloc] at h; omega
              have hb3' := HR1'.out.lt
              refine ⟨j + 1, ss ++ [s.name], vs ++ [s.typ], b3', b4', by omega, by go_num, Lib.hid ⟨by simp [HSV.out.1], by have := HSV.out; simp; omega⟩, Lib.hid (by rw [← HE.out, HK.out.1, HK.out.2]), Lib.hid ⟨HRD.out.keep HG4.out (fun e => hne (by injection e with e; exact e.symm)), HR2'.out, ?_⟩, ?_⟩
              · rcases HO2.out with h | h
                · rw [h]; exact hne
                · rw [World.size_alloc] at h; omega
              · exact (HB3.out.trans (((Below.refl w3.heap.size w3).alloc (Nat.le_refl _) (.cells #[.string s.typ] 9)).mono HB3.out.size)).trans (HRC.out.grown_below (Nat.le_refl _) HG4.out)
            case measure => simp [intOf]; omega
          · have qk : (s.kind == 1) = false := by simpa using hk
            have HK := Lib.hid (show toldS ss d = ss ∧ toldV vs d = vs by
              constructor
              · rw [HTS.out.1, if_neg hk]
              · rw [HTS.out.2 vs, if_neg hk])
            clear hk
            go_wp2_with fail
            go_roundw
            case rel => exact ⟨j + 1, ss, vs, b3, b4, by omega, by go_num, Lib.hid ⟨HSV.out.1, by have := HSV.out; omega⟩, Lib.hid (by rw [← HE.out, HK.out.1, HK.out.2]), Lib.hid ⟨HR3.out, HR4.out, HNE.out⟩, HB2.out⟩
            case measure => simp [intOf]; omega
      · have HE := Lib.hid (show (-1 : Int) = typeP xs by rw [HT.out, ← HR.out, typeFrom_end (by have := HLN.out; omega)])
        go_wp2_with fail
        go_ret
        exact ⟨ret_int HE.out, HB1.out.trans (hbw.mono HB1.out.size)⟩
end Go.Proofs.YtabignplhkbcpaaGreatDoor
