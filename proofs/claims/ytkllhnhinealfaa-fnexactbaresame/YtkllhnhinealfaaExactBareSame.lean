/-
  'laws.FnExactBareSame' returns true at whatever two lines without types: impl.BareSame and the model's BareSame answer the same, and nothing is written into an argument.
  Conditions: every two values of laws.Bare.
-/
import Derived.Test.YtkllhnhinealfaaBareSame
import Derived.Test.YtkllhnhinealfaaBareLaws
import Derived.Test.YtkllhnhinealfaaOpenBr
import Derived.Test.YtkllhnhinealfaaRows
import Derived.WalkKit
import Derived.ProofKit
import Derived.OpenShut
import Derived.ShutString
import Derived.ChangeOld
import Derived.Below
import Derived.Lib.SmallJoins
import Derived.SliceStrings
namespace Go.Proofs.Ytkllhnhinealfaa.fnExactBareSame
open Go.ChangeShapes Go.WideShapes Go.ChangeAt Go.RowKit Go.Joins
open Go.ChangeMaps (open_string shut_string)


theorem kids_both {w : World} {s : Br} {X1 X2 : Option Addr} {lo mid hi : Nat} (h1 : OwnE w s.e lo mid X1) (h2 : OwnE w s.t mid hi X2) : KidsU w hi X1 s.e.kids ∧ KidsU w hi X2 s.t.kids :=
  ⟨own_kidsU s.e _ _ _ _ h1 (own_le w s.t _ _ _ h2), own_kidsU s.t _ _ _ _ h2 (Nat.le_refl _)⟩
set_option linter.unusedVariables false in
set_option maxRecDepth 100000 in
set_option maxHeartbeats 8000000 in
theorem walk (a : Br) (A1 : Option Addr) (c1 : Nat) (A2 : Option Addr) (c2 : Nat) (b : Br) (B1 : Option Addr) (d1 : Nat) (B2 : Option Addr) (d2 : Nat) (w : World) (hE : InBr w A1 c1 A2 c2 a) (hE' : InBr w B1 d1 B2 d2 b) :
    Calls Try.prog 3 #[.agg #[.int .i64 a.kind, .string a.name, .int .i64 a.e.kind, .int .i64 a.e.n, .string a.e.s, .slice A1 a.e.kids.length c1, .int .i64 a.t.kind, .int .i64 a.t.n, .string a.t.s, .slice A2 a.t.kids.length c2], .agg #[.int .i64 b.kind, .string b.name, .int .i64 b.e.kind, .int .i64 b.e.n, .string b.e.s, .slice B1 b.e.kids.length d1, .int .i64 b.t.kind, .int .i64 b.t.n, .string b.t.s, .slice B2 b.t.kids.length d2]] w fun r w' => r = .returned (.bool true) ∧ Below w.heap.size w w' := by
  obtain ⟨hfit, hA1, hA2, hc1, hc2⟩ := hE
  obtain ⟨hfit', hB1, hB2, hd1, hd2⟩ := hE'
  obtain ⟨W0, hW0⟩ : ∃ W0, W0 = (w.alloc (.cells #[.int .i64 a.kind, .string a.name, .int .i64 a.e.kind, .int .i64 a.e.n, .string a.e.s, .slice A1 a.e.kids.length c1, .int .i64 a.t.kind, .int .i64 a.t.n, .string a.t.s, .slice A2 a.t.kids.length c2] 26)).alloc (.cells #[.int .i64 b.kind, .string b.name, .int .i64 b.e.kind, .int .i64 b.e.n, .string b.e.s, .slice B1 b.e.kids.length d1, .int .i64 b.t.kind, .int .i64 b.t.n, .string b.t.s, .slice B2 b.t.kids.length d2] 26) := ⟨_, rfl⟩
  have hb0 : Below w.heap.size w W0 := by rw [hW0]; exact ((Below.refl _ w).alloc (Nat.le_refl _) _).alloc (by simp) _
  have hs0 : W0.heap.size = w.heap.size + 2 := by rw [hW0]; simp
  have a0 : W0.cell? ⟨w.heap.size, 0, none⟩ = some (.int .i64 a.kind) := by rw [hW0]; exact cell_new2a w _ _ _ _ 0 _ rfl
  have a1 : W0.cell? ⟨w.heap.size, 1, none⟩ = some (.string a.name) := by rw [hW0]; exact cell_new2a w _ _ _ _ 1 _ rfl
  have a2 : W0.cell? ⟨w.heap.size, 2, none⟩ = some (.int .i64 a.e.kind) := by rw [hW0]; exact cell_new2a w _ _ _ _ 2 _ rfl
  have a3 : W0.cell? ⟨w.heap.size, 3, none⟩ = some (.int .i64 a.e.n) := by rw [hW0]; exact cell_new2a w _ _ _ _ 3 _ rfl
  have a4 : W0.cell? ⟨w.heap.size, 4, none⟩ = some (.string a.e.s) := by rw [hW0]; exact cell_new2a w _ _ _ _ 4 _ rfl
  have a5 : W0.cell? ⟨w.heap.size, 5, none⟩ = some (.slice A1 a.e.kids.length c1) := by rw [hW0]; exact cell_new2a w _ _ _ _ 5 _ rfl
  have a6 : W0.cell? ⟨w.heap.size, 6, none⟩ = some (.int .i64 a.t.kind) := by rw [hW0]; exact cell_new2a w _ _ _ _ 6 _ rfl
  have a7 : W0.cell? ⟨w.heap.size, 7, none⟩ = some (.int .i64 a.t.n) := by rw [hW0]; exact cell_new2a w _ _ _ _ 7 _ rfl
  have a8 : W0.cell? ⟨w.heap.size, 8, none⟩ = some (.string a.t.s) := by rw [hW0]; exact cell_new2a w _ _ _ _ 8 _ rfl
  have a9 : W0.cell? ⟨w.heap.size, 9, none⟩ = some (.slice A2 a.t.kids.length c2) := by rw [hW0]; exact cell_new2a w _ _ _ _ 9 _ rfl
  have b0 : W0.cell? ⟨w.heap.size + 1, 0, none⟩ = some (.int .i64 b.kind) := by rw [hW0]; exact cell_new2b w _ _ _ _ 0 _ rfl
  have b1 : W0.cell? ⟨w.heap.size + 1, 1, none⟩ = some (.string b.name) := by rw [hW0]; exact cell_new2b w _ _ _ _ 1 _ rfl
  have b2 : W0.cell? ⟨w.heap.size + 1, 2, none⟩ = some (.int .i64 b.e.kind) := by rw [hW0]; exact cell_new2b w _ _ _ _ 2 _ rfl
  have b3 : W0.cell? ⟨w.heap.size + 1, 3, none⟩ = some (.int .i64 b.e.n) := by rw [hW0]; exact cell_new2b w _ _ _ _ 3 _ rfl
  have b4 : W0.cell? ⟨w.heap.size + 1, 4, none⟩ = some (.string b.e.s) := by rw [hW0]; exact cell_new2b w _ _ _ _ 4 _ rfl
  have b5 : W0.cell? ⟨w.heap.size + 1, 5, none⟩ = some (.slice B1 b.e.kids.length d1) := by rw [hW0]; exact cell_new2b w _ _ _ _ 5 _ rfl
  have b6 : W0.cell? ⟨w.heap.size + 1, 6, none⟩ = some (.int .i64 b.t.kind) := by rw [hW0]; exact cell_new2b w _ _ _ _ 6 _ rfl
  have b7 : W0.cell? ⟨w.heap.size + 1, 7, none⟩ = some (.int .i64 b.t.n) := by rw [hW0]; exact cell_new2b w _ _ _ _ 7 _ rfl
  have b8 : W0.cell? ⟨w.heap.size + 1, 8, none⟩ = some (.string b.t.s) := by rw [hW0]; exact cell_new2b w _ _ _ _ 8 _ rfl
  have b9 : W0.cell? ⟨w.heap.size + 1, 9, none⟩ = some (.slice B2 b.t.kids.length d2) := by rw [hW0]; exact cell_new2b w _ _ _ _ 9 _ rfl

  have HSz := Lib.hid (szBare_any a A1 A2 c1 c2 w.heap.size 1048576 W0 hfit (hA1.keep hb0) (hA2.keep hb0) hc1 hc2 hb0.size (by omega) (by omega))
  have HSz' := Lib.hid (fun (z : Int) (W : World) (hW : Below W0.heap.size W0 W) (h0 : 0 ≤ z) (h1 : z ≤ 1048576) => szBare_any b B1 B2 d1 d2 w.heap.size z W hfit' ((hB1.keep hb0).keep (hW.mono hb0.size)) ((hB2.keep hb0).keep (hW.mono hb0.size)) hd1 hd2 (Nat.le_trans hb0.size hW.size) h0 (by omega))
  have HTo := Lib.hid (fun (W : World) (hW : Below W0.heap.size W0 W) (hw : a.wt ≤ 2 ^ 29) => toBare_any a A1 A2 c1 c2 w.heap.size W ((hA1.keep hb0).keep (hW.mono hb0.size)) ((hA2.keep hb0).keep (hW.mono hb0.size)) hc1 hc2 (Nat.le_trans hb0.size hW.size) hw)
  have HTo' := Lib.hid (fun (W : World) (hW : Below W0.heap.size W0 W) (hw : b.wt ≤ 2 ^ 29) => toBare_any b B1 B2 d1 d2 w.heap.size W ((hB1.keep hb0).keep (hW.mono hb0.size)) ((hB2.keep hb0).keep (hW.mono hb0.size)) hd1 hd2 (Nat.le_trans hb0.size hW.size) hw)
  clear hfit hfit' hA1 hA2 hB1 hB2
  go_enter Try.func3, Try.ntmps3
  go_wp2_with fail
  rw [← hW0]
  refine HSz.out.mono ?_
  rintro r w1 ⟨z, rfl, hz, hzl, hb1⟩
  have p0 := (hb1.cell (p := ⟨w.heap.size, 0, none⟩) (by show w.heap.size < _; omega)).trans a0
  have p1 := (hb1.cell (p := ⟨w.heap.size, 1, none⟩) (by show w.heap.size < _; omega)).trans a1
  have p2 := (hb1.cell (p := ⟨w.heap.size, 2, none⟩) (by show w.heap.size < _; omega)).trans a2
  have p3 := (hb1.cell (p := ⟨w.heap.size, 3, none⟩) (by show w.heap.size < _; omega)).trans a3
  have p4 := (hb1.cell (p := ⟨w.heap.size, 4, none⟩) (by show w.heap.size < _; omega)).trans a4
  have p5 := (hb1.cell (p := ⟨w.heap.size, 5, none⟩) (by show w.heap.size < _; omega)).trans a5
  have p6 := (hb1.cell (p := ⟨w.heap.size, 6, none⟩) (by show w.heap.size < _; omega)).trans a6
  have p7 := (hb1.cell (p := ⟨w.heap.size, 7, none⟩) (by show w.heap.size < _; omega)).trans a7
  have p8 := (hb1.cell (p := ⟨w.heap.size, 8, none⟩) (by show w.heap.size < _; omega)).trans a8
  have p9 := (hb1.cell (p := ⟨w.heap.size, 9, none⟩) (by show w.heap.size < _; omega)).trans a9
  have r0 := (hb1.cell (p := ⟨w.heap.size + 1, 0, none⟩) (by show w.heap.size + 1 < _; omega)).trans b0
  have r1 := (hb1.cell (p := ⟨w.heap.size + 1, 1, none⟩) (by show w.heap.size + 1 < _; omega)).trans b1
  have r2 := (hb1.cell (p := ⟨w.heap.size + 1, 2, none⟩) (by show w.heap.size + 1 < _; omega)).trans b2
  have r3 := (hb1.cell (p := ⟨w.heap.size + 1, 3, none⟩) (by show w.heap.size + 1 < _; omega)).trans b3
  have r4 := (hb1.cell (p := ⟨w.heap.size + 1, 4, none⟩) (by show w.heap.size + 1 < _; omega)).trans b4
  have r5 := (hb1.cell (p := ⟨w.heap.size + 1, 5, none⟩) (by show w.heap.size + 1 < _; omega)).trans b5
  have r6 := (hb1.cell (p := ⟨w.heap.size + 1, 6, none⟩) (by show w.heap.size + 1 < _; omega)).trans b6
  have r7 := (hb1.cell (p := ⟨w.heap.size + 1, 7, none⟩) (by show w.heap.size + 1 < _; omega)).trans b7
  have r8 := (hb1.cell (p := ⟨w.heap.size + 1, 8, none⟩) (by show w.heap.size + 1 < _; omega)).trans b8
  have r9 := (hb1.cell (p := ⟨w.heap.size + 1, 9, none⟩) (by show w.heap.size + 1 < _; omega)).trans b9

  by_cases hneg : z < 0
  · have q : decide (z < 0) = true := by simpa using hneg
    go_wp2_with fail
    go_ret
    exact ⟨rfl, hb0.trans (hb1.mono hb0.size)⟩
  have q : decide (z < 0) = false := by simpa using hneg
  have HZ := Lib.hid (hz (by omega))
  clear hz
  go_wp2_with fail
  refine (HSz'.out z w1 hb1 (by omega) (by omega)).mono ?_
  rintro r w2 ⟨z2, rfl, hz2, hzl2, hb2'⟩
  have hb2 := hb1.trans (hb2'.mono hb1.size)
  clear p0 p1 p2 p3 p4 p5 p6 p7 p8 p9 r0 r1 r2 r3 r4 r5 r6 r7 r8 r9 hb2'
  have p0 := (hb2.cell (p := ⟨w.heap.size, 0, none⟩) (by show w.heap.size < _; omega)).trans a0
  have p1 := (hb2.cell (p := ⟨w.heap.size, 1, none⟩) (by show w.heap.size < _; omega)).trans a1
  have p2 := (hb2.cell (p := ⟨w.heap.size, 2, none⟩) (by show w.heap.size < _; omega)).trans a2
  have p3 := (hb2.cell (p := ⟨w.heap.size, 3, none⟩) (by show w.heap.size < _; omega)).trans a3
  have p4 := (hb2.cell (p := ⟨w.heap.size, 4, none⟩) (by show w.heap.size < _; omega)).trans a4
  have p5 := (hb2.cell (p := ⟨w.heap.size, 5, none⟩) (by show w.heap.size < _; omega)).trans a5
  have p6 := (hb2.cell (p := ⟨w.heap.size, 6, none⟩) (by show w.heap.size < _; omega)).trans a6
  have p7 := (hb2.cell (p := ⟨w.heap.size, 7, none⟩) (by show w.heap.size < _; omega)).trans a7
  have p8 := (hb2.cell (p := ⟨w.heap.size, 8, none⟩) (by show w.heap.size < _; omega)).trans a8
  have p9 := (hb2.cell (p := ⟨w.heap.size, 9, none⟩) (by show w.heap.size < _; omega)).trans a9
  have r0 := (hb2.cell (p := ⟨w.heap.size + 1, 0, none⟩) (by show w.heap.size + 1 < _; omega)).trans b0
  have r1 := (hb2.cell (p := ⟨w.heap.size + 1, 1, none⟩) (by show w.heap.size + 1 < _; omega)).trans b1
  have r2 := (hb2.cell (p := ⟨w.heap.size + 1, 2, none⟩) (by show w.heap.size + 1 < _; omega)).trans b2
  have r3 := (hb2.cell (p := ⟨w.heap.size + 1, 3, none⟩) (by show w.heap.size + 1 < _; omega)).trans b3
  have r4 := (hb2.cell (p := ⟨w.heap.size + 1, 4, none⟩) (by show w.heap.size + 1 < _; omega)).trans b4
  have r5 := (hb2.cell (p := ⟨w.heap.size + 1, 5, none⟩) (by show w.heap.size + 1 < _; omega)).trans b5
  have r6 := (hb2.cell (p := ⟨w.heap.size + 1, 6, none⟩) (by show w.heap.size + 1 < _; omega)).trans b6
  have r7 := (hb2.cell (p := ⟨w.heap.size + 1, 7, none⟩) (by show w.heap.size + 1 < _; omega)).trans b7
  have r8 := (hb2.cell (p := ⟨w.heap.size + 1, 8, none⟩) (by show w.heap.size + 1 < _; omega)).trans b8
  have r9 := (hb2.cell (p := ⟨w.heap.size + 1, 9, none⟩) (by show w.heap.size + 1 < _; omega)).trans b9

  by_cases hneg2 : z2 < 0
  · have q : decide (z2 < 0) = true := by simpa using hneg2
    go_wp2_with fail
    go_ret
    exact ⟨rfl, hb0.trans (hb2.mono hb0.size)⟩
  have qq : decide (z2 < 0) = false := by simpa using hneg2
  have hwa : a.wt ≤ 1048576 := by have := HZ.out; omega
  have hwb : b.wt ≤ 1048576 := by have := hz2 (by omega); omega
  have HT := Lib.hid (fun (W : World) (hW : Below W0.heap.size W0 W) => HTo.out W hW (by omega))
  have HT' := Lib.hid (fun (W : World) (hW : Below W0.heap.size W0 W) => HTo'.out W hW (by omega))
  have HS := Lib.hid (fun (A1 A2 B1 B2 : Option Addr) (c1 c2 d1 d2 B : Nat) (W : World) (h1 : KidsAt W B A1 a.e.kids) (h2 : KidsAt W B A2 a.t.kids) (h3 : KidsAt W B B1 b.e.kids) (h4 : KidsAt W B B2 b.t.kids) (k1 : a.e.kids.length ≤ c1) (k2 : a.t.kids.length ≤ c2) (k3 : b.e.kids.length ≤ d1) (k4 : b.t.kids.length ≤ d2) (h5 : B ≤ W.heap.size) => specBareSame_any a b A1 A2 B1 B2 c1 c2 d1 d2 B W h1 h2 h3 h4 k1 k2 k3 k4 h5 (by omega))
  have HI := Lib.hid (fun (A1 A2 B1 B2 : Option Addr) (c1 c2 d1 d2 B : Nat) (W : World) (h1 : KidsU W B A1 a.e.kids) (h2 : KidsU W B A2 a.t.kids) (h3 : KidsU W B B1 b.e.kids) (h4 : KidsU W B B2 b.t.kids) (k1 : a.e.kids.length ≤ c1) (k2 : a.t.kids.length ≤ c2) (k3 : b.e.kids.length ≤ d1) (k4 : b.t.kids.length ≤ d2) (h5 : B ≤ W.heap.size) => bareSame_any a b A1 A2 B1 B2 c1 c2 d1 d2 B W h1 h2 h3 h4 k1 k2 k3 k4 h5 (by omega))
  have HQ := Lib.hid (fun (A1 A2 B1 B2 : Option Addr) (c1 c2 d1 d2 B : Nat) (W : World) (h1 : KidsAt W B A1 a.e.kids) (h2 : KidsAt W B A2 a.t.kids) (h3 : KidsAt W B B1 a.e.kids) (h4 : KidsAt W B B2 a.t.kids) (k1 : a.e.kids.length ≤ c1) (k2 : a.t.kids.length ≤ c2) (k3 : a.e.kids.length ≤ d1) (k4 : a.t.kids.length ≤ d2) (h5 : B ≤ W.heap.size) => eqBare_same a A1 A2 B1 B2 c1 c2 d1 d2 B W h1 h2 h3 h4 k1 k2 k3 k4 h5 (by omega))
  have HQ' := Lib.hid (fun (A1 A2 B1 B2 : Option Addr) (c1 c2 d1 d2 B : Nat) (W : World) (h1 : KidsAt W B A1 b.e.kids) (h2 : KidsAt W B A2 b.t.kids) (h3 : KidsAt W B B1 b.e.kids) (h4 : KidsAt W B B2 b.t.kids) (k1 : b.e.kids.length ≤ c1) (k2 : b.t.kids.length ≤ c2) (k3 : b.e.kids.length ≤ d1) (k4 : b.t.kids.length ≤ d2) (h5 : B ≤ W.heap.size) => eqBare_same b A1 A2 B1 B2 c1 c2 d1 d2 B W h1 h2 h3 h4 k1 k2 k3 k4 h5 (by omega))
  generalize sameB a b = R at *
  have qR : (R != R) = false := by simp
  clear HTo HTo' HSz HSz' hz2 HZ
  go_wp2_with fail
  have l1 : w.heap.size < w2.heap.size := by have := hb2.size; omega
  have l2 : w.heap.size + 1 < w2.heap.size := by have := hb2.size; omega
  go_region_held3 (fun w' => w'.cell? ⟨w.heap.size, 0, none⟩ = some (.int .i64 a.kind) ∧ w'.cell? ⟨w.heap.size, 1, none⟩ = some (.string a.name) ∧ w'.cell? ⟨w.heap.size, 2, none⟩ = some (.int .i64 a.e.kind) ∧ w'.cell? ⟨w.heap.size, 3, none⟩ = some (.int .i64 a.e.n) ∧ w'.cell? ⟨w.heap.size, 4, none⟩ = some (.string a.e.s) ∧ w'.cell? ⟨w.heap.size, 5, none⟩ = some (.slice A1 a.e.kids.length c1) ∧ w'.cell? ⟨w.heap.size, 6, none⟩ = some (.int .i64 a.t.kind) ∧ w'.cell? ⟨w.heap.size, 7, none⟩ = some (.int .i64 a.t.n) ∧ w'.cell? ⟨w.heap.size, 8, none⟩ = some (.string a.t.s) ∧ w'.cell? ⟨w.heap.size, 9, none⟩ = some (.slice A2 a.t.kids.length c2) ∧ w'.cell? ⟨w.heap.size + 1, 0, none⟩ = some (.int .i64 b.kind) ∧ w'.cell? ⟨w.heap.size + 1, 1, none⟩ = some (.string b.name) ∧ w'.cell? ⟨w.heap.size + 1, 2, none⟩ = some (.int .i64 b.e.kind) ∧ w'.cell? ⟨w.heap.size + 1, 3, none⟩ = some (.int .i64 b.e.n) ∧ w'.cell? ⟨w.heap.size + 1, 4, none⟩ = some (.string b.e.s) ∧ w'.cell? ⟨w.heap.size + 1, 5, none⟩ = some (.slice B1 b.e.kids.length d1) ∧ w'.cell? ⟨w.heap.size + 1, 6, none⟩ = some (.int .i64 b.t.kind) ∧ w'.cell? ⟨w.heap.size + 1, 7, none⟩ = some (.int .i64 b.t.n) ∧ w'.cell? ⟨w.heap.size + 1, 8, none⟩ = some (.string b.t.s) ∧ w'.cell? ⟨w.heap.size + 1, 9, none⟩ = some (.slice B2 b.t.kids.length d2) ∧ Below w2.heap.size w2 w')
    (first | exact ⟨p0, p1, p2, p3, p4, p5, p6, p7, p8, p9, r0, r1, r2, r3, r4, r5, r6, r7, r8, r9, (Below.refl _ w2).drew⟩ | exact ⟨(hb5.cell (p := ⟨w.heap.size, 0, none⟩) l1).trans p0, (hb5.cell (p := ⟨w.heap.size, 1, none⟩) l1).trans p1, (hb5.cell (p := ⟨w.heap.size, 2, none⟩) l1).trans p2, (hb5.cell (p := ⟨w.heap.size, 3, none⟩) l1).trans p3, (hb5.cell (p := ⟨w.heap.size, 4, none⟩) l1).trans p4, (hb5.cell (p := ⟨w.heap.size, 5, none⟩) l1).trans p5, (hb5.cell (p := ⟨w.heap.size, 6, none⟩) l1).trans p6, (hb5.cell (p := ⟨w.heap.size, 7, none⟩) l1).trans p7, (hb5.cell (p := ⟨w.heap.size, 8, none⟩) l1).trans p8, (hb5.cell (p := ⟨w.heap.size, 9, none⟩) l1).trans p9, (hb5.cell (p := ⟨w.heap.size + 1, 0, none⟩) l2).trans r0, (hb5.cell (p := ⟨w.heap.size + 1, 1, none⟩) l2).trans r1, (hb5.cell (p := ⟨w.heap.size + 1, 2, none⟩) l2).trans r2, (hb5.cell (p := ⟨w.heap.size + 1, 3, none⟩) l2).trans r3, (hb5.cell (p := ⟨w.heap.size + 1, 4, none⟩) l2).trans r4, (hb5.cell (p := ⟨w.heap.size + 1, 5, none⟩) l2).trans r5, (hb5.cell (p := ⟨w.heap.size + 1, 6, none⟩) l2).trans r6, (hb5.cell (p := ⟨w.heap.size + 1, 7, none⟩) l2).trans r7, (hb5.cell (p := ⟨w.heap.size + 1, 8, none⟩) l2).trans r8, (hb5.cell (p := ⟨w.heap.size + 1, 9, none⟩) l2).trans r9, hb5⟩ | exact ⟨(hb4.cell (p := ⟨w.heap.size, 0, none⟩) l1).trans p0, (hb4.cell (p := ⟨w.heap.size, 1, none⟩) l1).trans p1, (hb4.cell (p := ⟨w.heap.size, 2, none⟩) l1).trans p2, (hb4.cell (p := ⟨w.heap.size, 3, none⟩) l1).trans p3, (hb4.cell (p := ⟨w.heap.size, 4, none⟩) l1).trans p4, (hb4.cell (p := ⟨w.heap.size, 5, none⟩) l1).trans p5, (hb4.cell (p := ⟨w.heap.size, 6, none⟩) l1).trans p6, (hb4.cell (p := ⟨w.heap.size, 7, none⟩) l1).trans p7, (hb4.cell (p := ⟨w.heap.size, 8, none⟩) l1).trans p8, (hb4.cell (p := ⟨w.heap.size, 9, none⟩) l1).trans p9, (hb4.cell (p := ⟨w.heap.size + 1, 0, none⟩) l2).trans r0, (hb4.cell (p := ⟨w.heap.size + 1, 1, none⟩) l2).trans r1, (hb4.cell (p := ⟨w.heap.size + 1, 2, none⟩) l2).trans r2, (hb4.cell (p := ⟨w.heap.size + 1, 3, none⟩) l2).trans r3, (hb4.cell (p := ⟨w.heap.size + 1, 4, none⟩) l2).trans r4, (hb4.cell (p := ⟨w.heap.size + 1, 5, none⟩) l2).trans r5, (hb4.cell (p := ⟨w.heap.size + 1, 6, none⟩) l2).trans r6, (hb4.cell (p := ⟨w.heap.size + 1, 7, none⟩) l2).trans r7, (hb4.cell (p := ⟨w.heap.size + 1, 8, none⟩) l2).trans r8, (hb4.cell (p := ⟨w.heap.size + 1, 9, none⟩) l2).trans r9, hb4⟩ | exact ⟨(hb3.cell (p := ⟨w.heap.size, 0, none⟩) l1).trans p0, (hb3.cell (p := ⟨w.heap.size, 1, none⟩) l1).trans p1, (hb3.cell (p := ⟨w.heap.size, 2, none⟩) l1).trans p2, (hb3.cell (p := ⟨w.heap.size, 3, none⟩) l1).trans p3, (hb3.cell (p := ⟨w.heap.size, 4, none⟩) l1).trans p4, (hb3.cell (p := ⟨w.heap.size, 5, none⟩) l1).trans p5, (hb3.cell (p := ⟨w.heap.size, 6, none⟩) l1).trans p6, (hb3.cell (p := ⟨w.heap.size, 7, none⟩) l1).trans p7, (hb3.cell (p := ⟨w.heap.size, 8, none⟩) l1).trans p8, (hb3.cell (p := ⟨w.heap.size, 9, none⟩) l1).trans p9, (hb3.cell (p := ⟨w.heap.size + 1, 0, none⟩) l2).trans r0, (hb3.cell (p := ⟨w.heap.size + 1, 1, none⟩) l2).trans r1, (hb3.cell (p := ⟨w.heap.size + 1, 2, none⟩) l2).trans r2, (hb3.cell (p := ⟨w.heap.size + 1, 3, none⟩) l2).trans r3, (hb3.cell (p := ⟨w.heap.size + 1, 4, none⟩) l2).trans r4, (hb3.cell (p := ⟨w.heap.size + 1, 5, none⟩) l2).trans r5, (hb3.cell (p := ⟨w.heap.size + 1, 6, none⟩) l2).trans r6, (hb3.cell (p := ⟨w.heap.size + 1, 7, none⟩) l2).trans r7, (hb3.cell (p := ⟨w.heap.size + 1, 8, none⟩) l2).trans r8, (hb3.cell (p := ⟨w.heap.size + 1, 9, none⟩) l2).trans r9, hb3⟩)
    (first | (go_at_call 6; ((with_reducible refine (HT.out _ (hb2.trans ((Below.refl _ w2).drew.mono hb2.size))).mono ?_); rintro r w3 ⟨P1, f1, P2, f2, m3, rfl, hf1, hf2, hP3, hQ3, hb3'⟩; have hb3 : Below w2.heap.size w2 w3 := (Below.refl _ w2).drew.trans hb3'; have K3 := Lib.hid (kids_both hP3 hQ3); clear hP3 hQ3 hb3')) | (go_at_call 6; ((with_reducible refine (HT'.out _ (hb2.trans (hb3.mono hb2.size))).mono ?_); rintro r w4 ⟨Q1, i1, Q2, i2, m4, rfl, hi1, hi2, hP4, hQ4, hb4'⟩; have hb4 : Below w2.heap.size w2 w4 := hb3.trans (hb4'.mono hb3.size); have K4 := Lib.hid (kids_both hP4 hQ4); have K34 := Lib.hid (And.intro ((K3.out.1.keep hb4').wide hb4'.size) ((K3.out.2.keep hb4').wide hb4'.size)); clear hP4 hQ4 hb4')) | (go_at_call 5; refine (HS.out P1 P2 Q1 Q2 f1 f2 i1 i2 w4.heap.size w4 K34.out.1.kids K34.out.2.kids K4.out.1.kids K4.out.2.kids hf1 hf2 hi1 hi2 (Nat.le_refl _)).mono ?_; rintro r w5 ⟨rfl, hb5'⟩; have hb5 : Below w2.heap.size w2 w5 := hb4.trans (hb5'.mono hb4.size)))
  rename_i hh1
  have hb5w := hb2.trans (hb5.mono hb2.size)
  have u0 := (hb5w.cell (p := ⟨w.heap.size, 0, none⟩) (by show w.heap.size < _; omega)).trans a0
  have u1 := (hb5w.cell (p := ⟨w.heap.size, 1, none⟩) (by show w.heap.size < _; omega)).trans a1
  have u2 := (hb5w.cell (p := ⟨w.heap.size, 2, none⟩) (by show w.heap.size < _; omega)).trans a2
  have u3 := (hb5w.cell (p := ⟨w.heap.size, 3, none⟩) (by show w.heap.size < _; omega)).trans a3
  have u4 := (hb5w.cell (p := ⟨w.heap.size, 4, none⟩) (by show w.heap.size < _; omega)).trans a4
  have u5 := (hb5w.cell (p := ⟨w.heap.size, 5, none⟩) (by show w.heap.size < _; omega)).trans a5
  have u6 := (hb5w.cell (p := ⟨w.heap.size, 6, none⟩) (by show w.heap.size < _; omega)).trans a6
  have u7 := (hb5w.cell (p := ⟨w.heap.size, 7, none⟩) (by show w.heap.size < _; omega)).trans a7
  have u8 := (hb5w.cell (p := ⟨w.heap.size, 8, none⟩) (by show w.heap.size < _; omega)).trans a8
  have u9 := (hb5w.cell (p := ⟨w.heap.size, 9, none⟩) (by show w.heap.size < _; omega)).trans a9
  have v0 := (hb5w.cell (p := ⟨w.heap.size + 1, 0, none⟩) (by show w.heap.size + 1 < _; omega)).trans b0
  have v1 := (hb5w.cell (p := ⟨w.heap.size + 1, 1, none⟩) (by show w.heap.size + 1 < _; omega)).trans b1
  have v2 := (hb5w.cell (p := ⟨w.heap.size + 1, 2, none⟩) (by show w.heap.size + 1 < _; omega)).trans b2
  have v3 := (hb5w.cell (p := ⟨w.heap.size + 1, 3, none⟩) (by show w.heap.size + 1 < _; omega)).trans b3
  have v4 := (hb5w.cell (p := ⟨w.heap.size + 1, 4, none⟩) (by show w.heap.size + 1 < _; omega)).trans b4
  have v5 := (hb5w.cell (p := ⟨w.heap.size + 1, 5, none⟩) (by show w.heap.size + 1 < _; omega)).trans b5
  have v6 := (hb5w.cell (p := ⟨w.heap.size + 1, 6, none⟩) (by show w.heap.size + 1 < _; omega)).trans b6
  have v7 := (hb5w.cell (p := ⟨w.heap.size + 1, 7, none⟩) (by show w.heap.size + 1 < _; omega)).trans b7
  have v8 := (hb5w.cell (p := ⟨w.heap.size + 1, 8, none⟩) (by show w.heap.size + 1 < _; omega)).trans b8
  have v9 := (hb5w.cell (p := ⟨w.heap.size + 1, 9, none⟩) (by show w.heap.size + 1 < _; omega)).trans b9
  clear p0 p1 p2 p3 p4 p5 p6 p7 p8 p9 r0 r1 r2 r3 r4 r5 r6 r7 r8 r9
  go_wp2_with fail
  refine (HT.out w5 hb5w).mono ?_
  rintro r w6 ⟨X1, k1, X2, k2, m6, rfl, hk1, hk2, hP6, hQ6, hb6'⟩
  have HB6 := Lib.hid (hb5w.trans (hb6'.mono hb5w.size))
  have HU6 := Lib.hid (kids_both hP6 hQ6)
  obtain ⟨W7, hW7⟩ : ∃ W7, W7 = w6.alloc (.cells #[.int .i64 a.kind, .string a.name, .int .i64 a.e.kind, .int .i64 a.e.n, .string a.e.s, .slice X1 a.e.kids.length k1, .int .i64 a.t.kind, .int .i64 a.t.n, .string a.t.s, .slice X2 a.t.kids.length k2] 33) := ⟨_, rfl⟩
  have hb7 : Below w6.heap.size w6 W7 := by rw [hW7]; exact (Below.refl _ w6).alloc (Nat.le_refl _) _
  have hs7 : W7.heap.size = w6.heap.size + 1 := by rw [hW7]; simp
  have x0 : W7.cell? ⟨w6.heap.size, 0, none⟩ = some (.int .i64 a.kind) := by rw [hW7]; exact cell_made4 w6 _ _ 0 _ rfl
  have x1 : W7.cell? ⟨w6.heap.size, 1, none⟩ = some (.string a.name) := by rw [hW7]; exact cell_made4 w6 _ _ 1 _ rfl
  have x2 : W7.cell? ⟨w6.heap.size, 2, none⟩ = some (.int .i64 a.e.kind) := by rw [hW7]; exact cell_made4 w6 _ _ 2 _ rfl
  have x3 : W7.cell? ⟨w6.heap.size, 3, none⟩ = some (.int .i64 a.e.n) := by rw [hW7]; exact cell_made4 w6 _ _ 3 _ rfl
  have x4 : W7.cell? ⟨w6.heap.size, 4, none⟩ = some (.string a.e.s) := by rw [hW7]; exact cell_made4 w6 _ _ 4 _ rfl
  have x5 : W7.cell? ⟨w6.heap.size, 5, none⟩ = some (.slice X1 a.e.kids.length k1) := by rw [hW7]; exact cell_made4 w6 _ _ 5 _ rfl
  have x6 : W7.cell? ⟨w6.heap.size, 6, none⟩ = some (.int .i64 a.t.kind) := by rw [hW7]; exact cell_made4 w6 _ _ 6 _ rfl
  have x7 : W7.cell? ⟨w6.heap.size, 7, none⟩ = some (.int .i64 a.t.n) := by rw [hW7]; exact cell_made4 w6 _ _ 7 _ rfl
  have x8 : W7.cell? ⟨w6.heap.size, 8, none⟩ = some (.string a.t.s) := by rw [hW7]; exact cell_made4 w6 _ _ 8 _ rfl
  have x9 : W7.cell? ⟨w6.heap.size, 9, none⟩ = some (.slice X2 a.t.kids.length k2) := by rw [hW7]; exact cell_made4 w6 _ _ 9 _ rfl
  have hb7w := HB6.out.trans (hb7.mono HB6.out.size)
  have e0 := (hb7w.cell (p := ⟨w.heap.size + 1, 0, none⟩) (by show w.heap.size + 1 < _; omega)).trans b0
  have e1 := (hb7w.cell (p := ⟨w.heap.size + 1, 1, none⟩) (by show w.heap.size + 1 < _; omega)).trans b1
  have e2 := (hb7w.cell (p := ⟨w.heap.size + 1, 2, none⟩) (by show w.heap.size + 1 < _; omega)).trans b2
  have e3 := (hb7w.cell (p := ⟨w.heap.size + 1, 3, none⟩) (by show w.heap.size + 1 < _; omega)).trans b3
  have e4 := (hb7w.cell (p := ⟨w.heap.size + 1, 4, none⟩) (by show w.heap.size + 1 < _; omega)).trans b4
  have e5 := (hb7w.cell (p := ⟨w.heap.size + 1, 5, none⟩) (by show w.heap.size + 1 < _; omega)).trans b5
  have e6 := (hb7w.cell (p := ⟨w.heap.size + 1, 6, none⟩) (by show w.heap.size + 1 < _; omega)).trans b6
  have e7 := (hb7w.cell (p := ⟨w.heap.size + 1, 7, none⟩) (by show w.heap.size + 1 < _; omega)).trans b7
  have e8 := (hb7w.cell (p := ⟨w.heap.size + 1, 8, none⟩) (by show w.heap.size + 1 < _; omega)).trans b8
  have e9 := (hb7w.cell (p := ⟨w.heap.size + 1, 9, none⟩) (by show w.heap.size + 1 < _; omega)).trans b9
  clear u0 u1 u2 u3 u4 u5 u6 u7 u8 u9 v0 v1 v2 v3 v4 v5 v6 v7 v8 v9 hP6 hQ6 hb6'
  have HB7 := Lib.hid hb7
  have HB7w := Lib.hid hb7w
  clear hb7 hb7w
  rw [hW7] at e0 e1 e2 e3 e4 e5 e6 e7 e8 e9
  go_wp2_with fail
  rw [← hW7]
  clear hW7
  refine (HT'.out W7 HB7w.out).mono ?_
  rintro r w8 ⟨Y1, l1, Y2, l2, m8, rfl, hl1, hl2, hP8, hQ8, hb8'⟩
  have HB8 := Lib.hid hb8'
  have HB8w := Lib.hid (HB7w.out.trans (hb8'.mono HB7w.out.size))
  have HU8 := Lib.hid (kids_both hP8 hQ8)
  have hs8 := hb8'.size
  obtain ⟨W9, hW9⟩ : ∃ W9, W9 = w8.alloc (.cells #[.int .i64 b.kind, .string b.name, .int .i64 b.e.kind, .int .i64 b.e.n, .string b.e.s, .slice Y1 b.e.kids.length l1, .int .i64 b.t.kind, .int .i64 b.t.n, .string b.t.s, .slice Y2 b.t.kids.length l2] 33) := ⟨_, rfl⟩
  have hb9 : Below w8.heap.size w8 W9 := by rw [hW9]; exact (Below.refl _ w8).alloc (Nat.le_refl _) _
  have hs9 : W9.heap.size = w8.heap.size + 1 := by rw [hW9]; simp
  have y0 : W9.cell? ⟨w8.heap.size, 0, none⟩ = some (.int .i64 b.kind) := by rw [hW9]; exact cell_made4 w8 _ _ 0 _ rfl
  have y1 : W9.cell? ⟨w8.heap.size, 1, none⟩ = some (.string b.name) := by rw [hW9]; exact cell_made4 w8 _ _ 1 _ rfl
  have y2 : W9.cell? ⟨w8.heap.size, 2, none⟩ = some (.int .i64 b.e.kind) := by rw [hW9]; exact cell_made4 w8 _ _ 2 _ rfl
  have y3 : W9.cell? ⟨w8.heap.size, 3, none⟩ = some (.int .i64 b.e.n) := by rw [hW9]; exact cell_made4 w8 _ _ 3 _ rfl
  have y4 : W9.cell? ⟨w8.heap.size, 4, none⟩ = some (.string b.e.s) := by rw [hW9]; exact cell_made4 w8 _ _ 4 _ rfl
  have y5 : W9.cell? ⟨w8.heap.size, 5, none⟩ = some (.slice Y1 b.e.kids.length l1) := by rw [hW9]; exact cell_made4 w8 _ _ 5 _ rfl
  have y6 : W9.cell? ⟨w8.heap.size, 6, none⟩ = some (.int .i64 b.t.kind) := by rw [hW9]; exact cell_made4 w8 _ _ 6 _ rfl
  have y7 : W9.cell? ⟨w8.heap.size, 7, none⟩ = some (.int .i64 b.t.n) := by rw [hW9]; exact cell_made4 w8 _ _ 7 _ rfl
  have y8 : W9.cell? ⟨w8.heap.size, 8, none⟩ = some (.string b.t.s) := by rw [hW9]; exact cell_made4 w8 _ _ 8 _ rfl
  have y9 : W9.cell? ⟨w8.heap.size, 9, none⟩ = some (.slice Y2 b.t.kids.length l2) := by rw [hW9]; exact cell_made4 w8 _ _ 9 _ rfl
  have HB9 := Lib.hid (HB8.out.trans (hb9.mono HB8.out.size))
  have HB9w := Lib.hid (HB8w.out.trans (hb9.mono HB8w.out.size))
  clear e0 e1 e2 e3 e4 e5 e6 e7 e8 e9
  have m0 := (HB9.out.cell (p := ⟨w6.heap.size, 0, none⟩) (by show w6.heap.size < _; omega)).trans x0
  have m1 := (HB9.out.cell (p := ⟨w6.heap.size, 1, none⟩) (by show w6.heap.size < _; omega)).trans x1
  have m2 := (HB9.out.cell (p := ⟨w6.heap.size, 2, none⟩) (by show w6.heap.size < _; omega)).trans x2
  have m3 := (HB9.out.cell (p := ⟨w6.heap.size, 3, none⟩) (by show w6.heap.size < _; omega)).trans x3
  have m4 := (HB9.out.cell (p := ⟨w6.heap.size, 4, none⟩) (by show w6.heap.size < _; omega)).trans x4
  have m5 := (HB9.out.cell (p := ⟨w6.heap.size, 5, none⟩) (by show w6.heap.size < _; omega)).trans x5
  have m6 := (HB9.out.cell (p := ⟨w6.heap.size, 6, none⟩) (by show w6.heap.size < _; omega)).trans x6
  have m7 := (HB9.out.cell (p := ⟨w6.heap.size, 7, none⟩) (by show w6.heap.size < _; omega)).trans x7
  have m8 := (HB9.out.cell (p := ⟨w6.heap.size, 8, none⟩) (by show w6.heap.size < _; omega)).trans x8
  have m9 := (HB9.out.cell (p := ⟨w6.heap.size, 9, none⟩) (by show w6.heap.size < _; omega)).trans x9
  have KA := Lib.hid (show KidsU W9 w6.heap.size X1 a.e.kids ∧ KidsU W9 w6.heap.size X2 a.t.kids from ⟨(HU6.out.1.keep HB7.out).keep (HB9.out.mono HB7.out.size), (HU6.out.2.keep HB7.out).keep (HB9.out.mono HB7.out.size)⟩)
  have KB := Lib.hid (show KidsU W9 w8.heap.size Y1 b.e.kids ∧ KidsU W9 w8.heap.size Y2 b.t.kids from ⟨HU8.out.1.keep hb9, HU8.out.2.keep hb9⟩)
  clear hP8 hQ8 hb8' hb9 HU6 HU8 x0 x1 x2 x3 x4 x5 x6 x7 x8 x9
  rw [hW9] at m0 m1 m2 m3 m4 m5 m6 m7 m8 m9 y0 y1 y2 y3 y4 y5 y6 y7 y8 y9
  go_wp2_with fail
  rw [← hW9] at m0 m1 m2 m3 m4 m5 m6 m7 m8 m9 y0 y1 y2 y3 y4 y5 y6 y7 y8 y9 ⊢
  clear hW9
  refine (HI.out X1 X2 Y1 Y2 k1 k2 l1 l2 w8.heap.size W9 (KA.out.1.wide (by omega)) (KA.out.2.wide (by omega)) KB.out.1 KB.out.2 hk1 hk2 hl1 hl2 (by omega)).mono ?_
  rintro r w10 ⟨rfl, hb10⟩
  have HB10w := Lib.hid (HB9w.out.trans (hb10.mono HB9w.out.size))
  have s0 := (hb10.cell (p := ⟨w6.heap.size, 0, none⟩) (by show w6.heap.size < _; omega)).trans m0
  have s1 := (hb10.cell (p := ⟨w6.heap.size, 1, none⟩) (by show w6.heap.size < _; omega)).trans m1
  have s2 := (hb10.cell (p := ⟨w6.heap.size, 2, none⟩) (by show w6.heap.size < _; omega)).trans m2
  have s3 := (hb10.cell (p := ⟨w6.heap.size, 3, none⟩) (by show w6.heap.size < _; omega)).trans m3
  have s4 := (hb10.cell (p := ⟨w6.heap.size, 4, none⟩) (by show w6.heap.size < _; omega)).trans m4
  have s5 := (hb10.cell (p := ⟨w6.heap.size, 5, none⟩) (by show w6.heap.size < _; omega)).trans m5
  have s6 := (hb10.cell (p := ⟨w6.heap.size, 6, none⟩) (by show w6.heap.size < _; omega)).trans m6
  have s7 := (hb10.cell (p := ⟨w6.heap.size, 7, none⟩) (by show w6.heap.size < _; omega)).trans m7
  have s8 := (hb10.cell (p := ⟨w6.heap.size, 8, none⟩) (by show w6.heap.size < _; omega)).trans m8
  have s9 := (hb10.cell (p := ⟨w6.heap.size, 9, none⟩) (by show w6.heap.size < _; omega)).trans m9
  have t0 := (hb10.cell (p := ⟨w8.heap.size, 0, none⟩) (by show w8.heap.size < _; omega)).trans y0
  have t1 := (hb10.cell (p := ⟨w8.heap.size, 1, none⟩) (by show w8.heap.size < _; omega)).trans y1
  have t2 := (hb10.cell (p := ⟨w8.heap.size, 2, none⟩) (by show w8.heap.size < _; omega)).trans y2
  have t3 := (hb10.cell (p := ⟨w8.heap.size, 3, none⟩) (by show w8.heap.size < _; omega)).trans y3
  have t4 := (hb10.cell (p := ⟨w8.heap.size, 4, none⟩) (by show w8.heap.size < _; omega)).trans y4
  have t5 := (hb10.cell (p := ⟨w8.heap.size, 5, none⟩) (by show w8.heap.size < _; omega)).trans y5
  have t6 := (hb10.cell (p := ⟨w8.heap.size, 6, none⟩) (by show w8.heap.size < _; omega)).trans y6
  have t7 := (hb10.cell (p := ⟨w8.heap.size, 7, none⟩) (by show w8.heap.size < _; omega)).trans y7
  have t8 := (hb10.cell (p := ⟨w8.heap.size, 8, none⟩) (by show w8.heap.size < _; omega)).trans y8
  have t9 := (hb10.cell (p := ⟨w8.heap.size, 9, none⟩) (by show w8.heap.size < _; omega)).trans y9
  have u0 := (HB10w.out.cell (p := ⟨w.heap.size, 0, none⟩) (by show w.heap.size < _; have := HB9w.out.size; omega)).trans a0
  have u1 := (HB10w.out.cell (p := ⟨w.heap.size, 1, none⟩) (by show w.heap.size < _; have := HB9w.out.size; omega)).trans a1
  have u2 := (HB10w.out.cell (p := ⟨w.heap.size, 2, none⟩) (by show w.heap.size < _; have := HB9w.out.size; omega)).trans a2
  have u3 := (HB10w.out.cell (p := ⟨w.heap.size, 3, none⟩) (by show w.heap.size < _; have := HB9w.out.size; omega)).trans a3
  have u4 := (HB10w.out.cell (p := ⟨w.heap.size, 4, none⟩) (by show w.heap.size < _; have := HB9w.out.size; omega)).trans a4
  have u5 := (HB10w.out.cell (p := ⟨w.heap.size, 5, none⟩) (by show w.heap.size < _; have := HB9w.out.size; omega)).trans a5
  have u6 := (HB10w.out.cell (p := ⟨w.heap.size, 6, none⟩) (by show w.heap.size < _; have := HB9w.out.size; omega)).trans a6
  have u7 := (HB10w.out.cell (p := ⟨w.heap.size, 7, none⟩) (by show w.heap.size < _; have := HB9w.out.size; omega)).trans a7
  have u8 := (HB10w.out.cell (p := ⟨w.heap.size, 8, none⟩) (by show w.heap.size < _; have := HB9w.out.size; omega)).trans a8
  have u9 := (HB10w.out.cell (p := ⟨w.heap.size, 9, none⟩) (by show w.heap.size < _; have := HB9w.out.size; omega)).trans a9
  have v0 := (HB10w.out.cell (p := ⟨w.heap.size + 1, 0, none⟩) (by show w.heap.size + 1 < _; have := HB9w.out.size; omega)).trans b0
  have v1 := (HB10w.out.cell (p := ⟨w.heap.size + 1, 1, none⟩) (by show w.heap.size + 1 < _; have := HB9w.out.size; omega)).trans b1
  have v2 := (HB10w.out.cell (p := ⟨w.heap.size + 1, 2, none⟩) (by show w.heap.size + 1 < _; have := HB9w.out.size; omega)).trans b2
  have v3 := (HB10w.out.cell (p := ⟨w.heap.size + 1, 3, none⟩) (by show w.heap.size + 1 < _; have := HB9w.out.size; omega)).trans b3
  have v4 := (HB10w.out.cell (p := ⟨w.heap.size + 1, 4, none⟩) (by show w.heap.size + 1 < _; have := HB9w.out.size; omega)).trans b4
  have v5 := (HB10w.out.cell (p := ⟨w.heap.size + 1, 5, none⟩) (by show w.heap.size + 1 < _; have := HB9w.out.size; omega)).trans b5
  have v6 := (HB10w.out.cell (p := ⟨w.heap.size + 1, 6, none⟩) (by show w.heap.size + 1 < _; have := HB9w.out.size; omega)).trans b6
  have v7 := (HB10w.out.cell (p := ⟨w.heap.size + 1, 7, none⟩) (by show w.heap.size + 1 < _; have := HB9w.out.size; omega)).trans b7
  have v8 := (HB10w.out.cell (p := ⟨w.heap.size + 1, 8, none⟩) (by show w.heap.size + 1 < _; have := HB9w.out.size; omega)).trans b8
  have v9 := (HB10w.out.cell (p := ⟨w.heap.size + 1, 9, none⟩) (by show w.heap.size + 1 < _; have := HB9w.out.size; omega)).trans b9
  have g1 : w6.heap.size < w10.heap.size := by have := hb10.size; omega
  have g2 : w8.heap.size < w10.heap.size := by have := hb10.size; omega
  have g3 : w.heap.size < w10.heap.size := by have := HB10w.out.size; omega
  have g4 : w.heap.size + 1 < w10.heap.size := by have := HB10w.out.size; omega
  have KA2 := Lib.hid (show KidsAt w10 w6.heap.size X1 a.e.kids ∧ KidsAt w10 w6.heap.size X2 a.t.kids from ⟨KA.out.1.kids.keep (hb10.mono (by omega)), KA.out.2.kids.keep (hb10.mono (by omega))⟩)
  have KB2 := Lib.hid (show KidsAt w10 w8.heap.size Y1 b.e.kids ∧ KidsAt w10 w8.heap.size Y2 b.t.kids from ⟨KB.out.1.kids.keep (hb10.mono (by omega)), KB.out.2.kids.keep (hb10.mono (by omega))⟩)
  have HBF := Lib.hid (hb0.trans (HB10w.out.mono hb0.size))
  clear hb10 m0 m1 m2 m3 m4 m5 m6 m7 m8 m9 y0 y1 y2 y3 y4 y5 y6 y7 y8 y9 HI HS KA KB a0 a1 a2 a3 a4 a5 a6 a7 a8 a9 b0 b1 b2 b3 b4 b5 b6 b7 b8 b9
  go_wp2_with fail
  go_region_held3 (fun w' => w'.cell? ⟨w6.heap.size, 0, none⟩ = some (.int .i64 a.kind) ∧ w'.cell? ⟨w6.heap.size, 1, none⟩ = some (.string a.name) ∧ w'.cell? ⟨w6.heap.size, 2, none⟩ = some (.int .i64 a.e.kind) ∧ w'.cell? ⟨w6.heap.size, 3, none⟩ = some (.int .i64 a.e.n) ∧ w'.cell? ⟨w6.heap.size, 4, none⟩ = some (.string a.e.s) ∧ w'.cell? ⟨w6.heap.size, 5, none⟩ = some (.slice X1 a.e.kids.length k1) ∧ w'.cell? ⟨w6.heap.size, 6, none⟩ = some (.int .i64 a.t.kind) ∧ w'.cell? ⟨w6.heap.size, 7, none⟩ = some (.int .i64 a.t.n) ∧ w'.cell? ⟨w6.heap.size, 8, none⟩ = some (.string a.t.s) ∧ w'.cell? ⟨w6.heap.size, 9, none⟩ = some (.slice X2 a.t.kids.length k2) ∧ w'.cell? ⟨w.heap.size, 0, none⟩ = some (.int .i64 a.kind) ∧ w'.cell? ⟨w.heap.size, 1, none⟩ = some (.string a.name) ∧ w'.cell? ⟨w.heap.size, 2, none⟩ = some (.int .i64 a.e.kind) ∧ w'.cell? ⟨w.heap.size, 3, none⟩ = some (.int .i64 a.e.n) ∧ w'.cell? ⟨w.heap.size, 4, none⟩ = some (.string a.e.s) ∧ w'.cell? ⟨w.heap.size, 5, none⟩ = some (.slice A1 a.e.kids.length c1) ∧ w'.cell? ⟨w.heap.size, 6, none⟩ = some (.int .i64 a.t.kind) ∧ w'.cell? ⟨w.heap.size, 7, none⟩ = some (.int .i64 a.t.n) ∧ w'.cell? ⟨w.heap.size, 8, none⟩ = some (.string a.t.s) ∧ w'.cell? ⟨w.heap.size, 9, none⟩ = some (.slice A2 a.t.kids.length c2) ∧ Below w10.heap.size w10 w')
    (first | exact ⟨s0, s1, s2, s3, s4, s5, s6, s7, s8, s9, u0, u1, u2, u3, u4, u5, u6, u7, u8, u9, (Below.refl _ w10).drew⟩ | exact ⟨(hb12.cell (p := ⟨w6.heap.size, 0, none⟩) g1).trans s0, (hb12.cell (p := ⟨w6.heap.size, 1, none⟩) g1).trans s1, (hb12.cell (p := ⟨w6.heap.size, 2, none⟩) g1).trans s2, (hb12.cell (p := ⟨w6.heap.size, 3, none⟩) g1).trans s3, (hb12.cell (p := ⟨w6.heap.size, 4, none⟩) g1).trans s4, (hb12.cell (p := ⟨w6.heap.size, 5, none⟩) g1).trans s5, (hb12.cell (p := ⟨w6.heap.size, 6, none⟩) g1).trans s6, (hb12.cell (p := ⟨w6.heap.size, 7, none⟩) g1).trans s7, (hb12.cell (p := ⟨w6.heap.size, 8, none⟩) g1).trans s8, (hb12.cell (p := ⟨w6.heap.size, 9, none⟩) g1).trans s9, (hb12.cell (p := ⟨w.heap.size, 0, none⟩) g3).trans u0, (hb12.cell (p := ⟨w.heap.size, 1, none⟩) g3).trans u1, (hb12.cell (p := ⟨w.heap.size, 2, none⟩) g3).trans u2, (hb12.cell (p := ⟨w.heap.size, 3, none⟩) g3).trans u3, (hb12.cell (p := ⟨w.heap.size, 4, none⟩) g3).trans u4, (hb12.cell (p := ⟨w.heap.size, 5, none⟩) g3).trans u5, (hb12.cell (p := ⟨w.heap.size, 6, none⟩) g3).trans u6, (hb12.cell (p := ⟨w.heap.size, 7, none⟩) g3).trans u7, (hb12.cell (p := ⟨w.heap.size, 8, none⟩) g3).trans u8, (hb12.cell (p := ⟨w.heap.size, 9, none⟩) g3).trans u9, hb12⟩ | exact ⟨(hb11.cell (p := ⟨w6.heap.size, 0, none⟩) g1).trans s0, (hb11.cell (p := ⟨w6.heap.size, 1, none⟩) g1).trans s1, (hb11.cell (p := ⟨w6.heap.size, 2, none⟩) g1).trans s2, (hb11.cell (p := ⟨w6.heap.size, 3, none⟩) g1).trans s3, (hb11.cell (p := ⟨w6.heap.size, 4, none⟩) g1).trans s4, (hb11.cell (p := ⟨w6.heap.size, 5, none⟩) g1).trans s5, (hb11.cell (p := ⟨w6.heap.size, 6, none⟩) g1).trans s6, (hb11.cell (p := ⟨w6.heap.size, 7, none⟩) g1).trans s7, (hb11.cell (p := ⟨w6.heap.size, 8, none⟩) g1).trans s8, (hb11.cell (p := ⟨w6.heap.size, 9, none⟩) g1).trans s9, (hb11.cell (p := ⟨w.heap.size, 0, none⟩) g3).trans u0, (hb11.cell (p := ⟨w.heap.size, 1, none⟩) g3).trans u1, (hb11.cell (p := ⟨w.heap.size, 2, none⟩) g3).trans u2, (hb11.cell (p := ⟨w.heap.size, 3, none⟩) g3).trans u3, (hb11.cell (p := ⟨w.heap.size, 4, none⟩) g3).trans u4, (hb11.cell (p := ⟨w.heap.size, 5, none⟩) g3).trans u5, (hb11.cell (p := ⟨w.heap.size, 6, none⟩) g3).trans u6, (hb11.cell (p := ⟨w.heap.size, 7, none⟩) g3).trans u7, (hb11.cell (p := ⟨w.heap.size, 8, none⟩) g3).trans u8, (hb11.cell (p := ⟨w.heap.size, 9, none⟩) g3).trans u9, hb11⟩)
    (first | (go_at_call 6; refine (HT.out _ (HB10w.out.trans ((Below.refl _ w10).drew.mono HB10w.out.size))).mono ?_; rintro r w11 ⟨G1, i1, G2, i2, mm, rfl, hi1, hi2, hPP, hQQ, hb11'⟩; have hb11 : Below w10.heap.size w10 w11 := (Below.refl _ w10).drew.trans hb11'; have HKK := Lib.hid (kids_both hPP hQQ); have HQ11 := Lib.hid (fun (V : World) (XX : Below w11.heap.size w11 V) => HQ.out X1 X2 G1 G2 k1 k2 i1 i2 w11.heap.size V ((KA2.out.1.keep ((hb11.trans (XX.mono hb11.size)).mono (by omega))).wide (by have := hb11.size; omega)) ((KA2.out.2.keep ((hb11.trans (XX.mono hb11.size)).mono (by omega))).wide (by have := hb11.size; omega)) (HKK.out.1.kids.keep XX) (HKK.out.2.kids.keep XX) hk1 hk2 hi1 hi2 XX.size); clear hPP hQQ hb11') | (go_at_call 8; (first | refine (HQ11.out _ (Below.refl _ w11)).mono ?_ | refine (HQ11.out _ (Below.refl _ w11).drew).mono ?_); rintro r w12 ⟨rfl, hb12'⟩; have hb12 : Below w10.heap.size w10 w12 := hb11.trans (hb12'.mono hb11.size)))
  rename_i hh12
  go_wp2_with fail
  have HB12w := Lib.hid (HB10w.out.trans (hb12.mono HB10w.out.size))
  have KB3 := Lib.hid (show KidsAt w12 w8.heap.size Y1 b.e.kids ∧ KidsAt w12 w8.heap.size Y2 b.t.kids from ⟨KB2.out.1.keep (hb12.mono (Nat.le_of_lt g2)), KB2.out.2.keep (hb12.mono (Nat.le_of_lt g2))⟩)
  have HBF2 := Lib.hid (HBF.out.trans (hb12.mono HBF.out.size))
  have tt0 := (hb12.cell (p := ⟨w8.heap.size, 0, none⟩) g2).trans t0
  have vv0 := (hb12.cell (p := ⟨w.heap.size + 1, 0, none⟩) g4).trans v0
  have tt1 := (hb12.cell (p := ⟨w8.heap.size, 1, none⟩) g2).trans t1
  have vv1 := (hb12.cell (p := ⟨w.heap.size + 1, 1, none⟩) g4).trans v1
  have tt2 := (hb12.cell (p := ⟨w8.heap.size, 2, none⟩) g2).trans t2
  have vv2 := (hb12.cell (p := ⟨w.heap.size + 1, 2, none⟩) g4).trans v2
  have tt3 := (hb12.cell (p := ⟨w8.heap.size, 3, none⟩) g2).trans t3
  have vv3 := (hb12.cell (p := ⟨w.heap.size + 1, 3, none⟩) g4).trans v3
  have tt4 := (hb12.cell (p := ⟨w8.heap.size, 4, none⟩) g2).trans t4
  have vv4 := (hb12.cell (p := ⟨w.heap.size + 1, 4, none⟩) g4).trans v4
  have tt5 := (hb12.cell (p := ⟨w8.heap.size, 5, none⟩) g2).trans t5
  have vv5 := (hb12.cell (p := ⟨w.heap.size + 1, 5, none⟩) g4).trans v5
  have tt6 := (hb12.cell (p := ⟨w8.heap.size, 6, none⟩) g2).trans t6
  have vv6 := (hb12.cell (p := ⟨w.heap.size + 1, 6, none⟩) g4).trans v6
  have tt7 := (hb12.cell (p := ⟨w8.heap.size, 7, none⟩) g2).trans t7
  have vv7 := (hb12.cell (p := ⟨w.heap.size + 1, 7, none⟩) g4).trans v7
  have tt8 := (hb12.cell (p := ⟨w8.heap.size, 8, none⟩) g2).trans t8
  have vv8 := (hb12.cell (p := ⟨w.heap.size + 1, 8, none⟩) g4).trans v8
  have tt9 := (hb12.cell (p := ⟨w8.heap.size, 9, none⟩) g2).trans t9
  have vv9 := (hb12.cell (p := ⟨w.heap.size + 1, 9, none⟩) g4).trans v9
  have g2' : w8.heap.size < w12.heap.size := by have := hb12.size; omega
  have g4' : w.heap.size + 1 < w12.heap.size := by have := hb12.size; omega
  clear HBF hb12 s0 s1 s2 s3 s4 s5 s6 s7 s8 s9 t0 t1 t2 t3 t4 t5 t6 t7 t8 t9 u0 u1 u2 u3 u4 u5 u6 u7 u8 u9 v0 v1 v2 v3 v4 v5 v6 v7 v8 v9
  go_region_held3 (fun w' => w'.cell? ⟨w8.heap.size, 0, none⟩ = some (.int .i64 b.kind) ∧ w'.cell? ⟨w8.heap.size, 1, none⟩ = some (.string b.name) ∧ w'.cell? ⟨w8.heap.size, 2, none⟩ = some (.int .i64 b.e.kind) ∧ w'.cell? ⟨w8.heap.size, 3, none⟩ = some (.int .i64 b.e.n) ∧ w'.cell? ⟨w8.heap.size, 4, none⟩ = some (.string b.e.s) ∧ w'.cell? ⟨w8.heap.size, 5, none⟩ = some (.slice Y1 b.e.kids.length l1) ∧ w'.cell? ⟨w8.heap.size, 6, none⟩ = some (.int .i64 b.t.kind) ∧ w'.cell? ⟨w8.heap.size, 7, none⟩ = some (.int .i64 b.t.n) ∧ w'.cell? ⟨w8.heap.size, 8, none⟩ = some (.string b.t.s) ∧ w'.cell? ⟨w8.heap.size, 9, none⟩ = some (.slice Y2 b.t.kids.length l2) ∧ w'.cell? ⟨w.heap.size + 1, 0, none⟩ = some (.int .i64 b.kind) ∧ w'.cell? ⟨w.heap.size + 1, 1, none⟩ = some (.string b.name) ∧ w'.cell? ⟨w.heap.size + 1, 2, none⟩ = some (.int .i64 b.e.kind) ∧ w'.cell? ⟨w.heap.size + 1, 3, none⟩ = some (.int .i64 b.e.n) ∧ w'.cell? ⟨w.heap.size + 1, 4, none⟩ = some (.string b.e.s) ∧ w'.cell? ⟨w.heap.size + 1, 5, none⟩ = some (.slice B1 b.e.kids.length d1) ∧ w'.cell? ⟨w.heap.size + 1, 6, none⟩ = some (.int .i64 b.t.kind) ∧ w'.cell? ⟨w.heap.size + 1, 7, none⟩ = some (.int .i64 b.t.n) ∧ w'.cell? ⟨w.heap.size + 1, 8, none⟩ = some (.string b.t.s) ∧ w'.cell? ⟨w.heap.size + 1, 9, none⟩ = some (.slice B2 b.t.kids.length d2) ∧ Below w12.heap.size w12 w')
    (first | exact ⟨tt0, tt1, tt2, tt3, tt4, tt5, tt6, tt7, tt8, tt9, vv0, vv1, vv2, vv3, vv4, vv5, vv6, vv7, vv8, vv9, (Below.refl _ w12).drew⟩ | exact ⟨(hb14.cell (p := ⟨w8.heap.size, 0, none⟩) g2').trans tt0, (hb14.cell (p := ⟨w8.heap.size, 1, none⟩) g2').trans tt1, (hb14.cell (p := ⟨w8.heap.size, 2, none⟩) g2').trans tt2, (hb14.cell (p := ⟨w8.heap.size, 3, none⟩) g2').trans tt3, (hb14.cell (p := ⟨w8.heap.size, 4, none⟩) g2').trans tt4, (hb14.cell (p := ⟨w8.heap.size, 5, none⟩) g2').trans tt5, (hb14.cell (p := ⟨w8.heap.size, 6, none⟩) g2').trans tt6, (hb14.cell (p := ⟨w8.heap.size, 7, none⟩) g2').trans tt7, (hb14.cell (p := ⟨w8.heap.size, 8, none⟩) g2').trans tt8, (hb14.cell (p := ⟨w8.heap.size, 9, none⟩) g2').trans tt9, (hb14.cell (p := ⟨w.heap.size + 1, 0, none⟩) g4').trans vv0, (hb14.cell (p := ⟨w.heap.size + 1, 1, none⟩) g4').trans vv1, (hb14.cell (p := ⟨w.heap.size + 1, 2, none⟩) g4').trans vv2, (hb14.cell (p := ⟨w.heap.size + 1, 3, none⟩) g4').trans vv3, (hb14.cell (p := ⟨w.heap.size + 1, 4, none⟩) g4').trans vv4, (hb14.cell (p := ⟨w.heap.size + 1, 5, none⟩) g4').trans vv5, (hb14.cell (p := ⟨w.heap.size + 1, 6, none⟩) g4').trans vv6, (hb14.cell (p := ⟨w.heap.size + 1, 7, none⟩) g4').trans vv7, (hb14.cell (p := ⟨w.heap.size + 1, 8, none⟩) g4').trans vv8, (hb14.cell (p := ⟨w.heap.size + 1, 9, none⟩) g4').trans vv9, hb14⟩ | exact ⟨(hb13.cell (p := ⟨w8.heap.size, 0, none⟩) g2').trans tt0, (hb13.cell (p := ⟨w8.heap.size, 1, none⟩) g2').trans tt1, (hb13.cell (p := ⟨w8.heap.size, 2, none⟩) g2').trans tt2, (hb13.cell (p := ⟨w8.heap.size, 3, none⟩) g2').trans tt3, (hb13.cell (p := ⟨w8.heap.size, 4, none⟩) g2').trans tt4, (hb13.cell (p := ⟨w8.heap.size, 5, none⟩) g2').trans tt5, (hb13.cell (p := ⟨w8.heap.size, 6, none⟩) g2').trans tt6, (hb13.cell (p := ⟨w8.heap.size, 7, none⟩) g2').trans tt7, (hb13.cell (p := ⟨w8.heap.size, 8, none⟩) g2').trans tt8, (hb13.cell (p := ⟨w8.heap.size, 9, none⟩) g2').trans tt9, (hb13.cell (p := ⟨w.heap.size + 1, 0, none⟩) g4').trans vv0, (hb13.cell (p := ⟨w.heap.size + 1, 1, none⟩) g4').trans vv1, (hb13.cell (p := ⟨w.heap.size + 1, 2, none⟩) g4').trans vv2, (hb13.cell (p := ⟨w.heap.size + 1, 3, none⟩) g4').trans vv3, (hb13.cell (p := ⟨w.heap.size + 1, 4, none⟩) g4').trans vv4, (hb13.cell (p := ⟨w.heap.size + 1, 5, none⟩) g4').trans vv5, (hb13.cell (p := ⟨w.heap.size + 1, 6, none⟩) g4').trans vv6, (hb13.cell (p := ⟨w.heap.size + 1, 7, none⟩) g4').trans vv7, (hb13.cell (p := ⟨w.heap.size + 1, 8, none⟩) g4').trans vv8, (hb13.cell (p := ⟨w.heap.size + 1, 9, none⟩) g4').trans vv9, hb13⟩)
    (first | (go_at_call 6; refine (HT'.out _ (HB12w.out.trans ((Below.refl _ w12).drew.mono HB12w.out.size))).mono ?_; rintro r w13 ⟨G1, i1, G2, i2, mm, rfl, hi1, hi2, hPP, hQQ, hb13'⟩; have hb13 : Below w12.heap.size w12 w13 := (Below.refl _ w12).drew.trans hb13'; have HKK := Lib.hid (kids_both hPP hQQ); have HQ13 := Lib.hid (fun (V : World) (XX : Below w13.heap.size w13 V) => HQ'.out Y1 Y2 G1 G2 l1 l2 i1 i2 w13.heap.size V ((KB3.out.1.keep ((hb13.trans (XX.mono hb13.size)).mono (by omega))).wide (by have := hb13.size; omega)) ((KB3.out.2.keep ((hb13.trans (XX.mono hb13.size)).mono (by omega))).wide (by have := hb13.size; omega)) (HKK.out.1.kids.keep XX) (HKK.out.2.kids.keep XX) hl1 hl2 hi1 hi2 XX.size); clear hPP hQQ hb13') | (go_at_call 8; (first | refine (HQ13.out _ (Below.refl _ w13)).mono ?_ | refine (HQ13.out _ (Below.refl _ w13).drew).mono ?_); rintro r w14 ⟨rfl, hb14'⟩; have hb14 : Below w12.heap.size w12 w14 := hb13.trans (hb14'.mono hb13.size)))
  rename_i hh14
  go_wp2_with fail
  go_ret
  exact ⟨rfl, HBF2.out.trans (hb14.mono HBF2.out.size)⟩
theorem own : ownKnob Try.prog.godebug = none := by kernel_rfl
theorem laidOut : laidOutB Try.prog = true := by kernel_rfl

set_option linter.unusedVariables false in
set_option maxRecDepth 100000 in
theorem lifted (os : Os) (started : os.Started) (H : Type) (enc : TypeId × Value → H) :
    ReturnsInHanded {} Try.checked os 3 .any (Rows.fnExactBareSameSpec.pre6 enc Try.prog Try.f3 Rows.fnExactBareSameRow.domain false) (Rows.fnExactBareSameSpec.post enc Try.prog Try.f3 false true false false) := by
  refine returnsInHanded_of_change (C := Try.checked) own started (by kernel_rfl) Try.func3
    (ChangeSpec.witness6 (enc := enc) (C := Try.checked) false ⟨#[], #[.agg #[.int .i64 0, .string ByteArray.empty, .int .i64 0, .int .i64 0, .string ByteArray.empty, .slice none 0 0, .int .i64 0, .int .i64 0, .string ByteArray.empty, .slice none 0 0], .agg #[.int .i64 0, .string ByteArray.empty, .int .i64 0, .int .i64 0, .string ByteArray.empty, .slice none 0 0, .int .i64 0, .int .i64 0, .string ByteArray.empty, .slice none 0 0]], []⟩ 8 (by kernel_rfl) (by kernel_rfl) (by kernel_rfl) (by kernel_rfl)) ?_
  intro W base args ds gs before hval0 hW hcnd _
  have hval : ∀ (j : Nat) t v, Try.f3.params[j]? = some t → args[j]? = some v → Value.okWide Try.prog W .any base t v := hval0
  have hW' := hW
  obtain ⟨p, q, hA0, hV, rfl, hfz, hnd⟩ := hW
  have hA : DataW.TrodAll enc Try.prog W 0 (fun _ => true) true Try.f3.params.toList args.toList ds p := hA0
  rw [Try.params3] at hA hval
  obtain ⟨v0, vs0, d0, ds0, p0, q0, hargs, rfl, rfl, h0, r0⟩ := trodAll_cons hA
  obtain ⟨v1, vs1, d1, ds1, p1, q1, rfl, rfl, rfl, h1, r1⟩ := trodAll_cons r0
  obtain ⟨rfl, rfl, rfl⟩ := trodAll_nil r1
  obtain rfl : args = #[v0, v1] := by cases args; simp_all
  obtain ⟨rfl, rfl⟩ := trodVars_none hV
  have k0 := h0
  have lt0 : ∀ x ∈ p0, x.block < W.heap.size := by obtain ⟨m, hm⟩ := k0; exact DataW.trod_lt m _ _ _ hm
  have k1 := h1
  have lt1 : ∀ x ∈ p1, x.block < W.heap.size := by obtain ⟨m, hm⟩ := k1; exact DataW.trod_lt m _ _ _ hm
  obtain ⟨a0, A0, c0, B0, b0, e0, w0⟩ := open_bare (hval 0 26 v0 rfl rfl) h0
  subst e0
  obtain ⟨a1, A1, c1, B1, b1, e1, w1⟩ := open_bare (hval 1 26 v1 rfl rfl) h1
  subst e1
  clear hA0 hval0
  refine (walk a0 A0 c0 B0 b0 a1 A1 c1 B1 b1 W w0 w1).mono fun e W' ⟨he, bel⟩ => ?_
  subst he
  exact ⟨_, rfl, _, _, _, [], _, [], hW', trodAll_mk1 (shut_bool Try.underlying4 _), (trodAll_cons_mk (Below.trod laidOut (by kernel_rfl) (of_decide_eq_true (by kernel_rfl)) k0 bel lt0) (trodAll_cons_mk (Below.trod laidOut (by kernel_rfl) (of_decide_eq_true (by kernel_rfl)) k1 bel lt1) trodAll_mk0)), rfl, bel.frame _, fun h => by cases h⟩

theorem fact_inPlace : (Rows.fnExactBareSameRow.inPlace == Try.pinned.checked.prog.inPlace 3) = true := by kernel_rfl
theorem fact_unfollowed : (Rows.fnExactBareSameRow.unfollowed == Try.pinned.checked.prog.unfollowed 3) = true := by kernel_rfl
theorem fact_recurses : (Rows.fnExactBareSameRow.recurses == Try.pinned.checked.prog.recurses 3) = true := by kernel_rfl
theorem fact_named : (Rows.fnExactBareSameRow.named == Try.pinned.checked.prog.varsNamed 3) = true := by kernel_rfl
theorem over : Rows.fnExactBareSameRow.holds Try.pinned (OpenSpec.ofChange Rows.fnExactBareSameSpec) :=
  OpenClaim.holds_of_wide 3 Try.f3 rfl rfl rfl rfl rfl rfl rfl ⟨rfl, rfl, rfl, rfl, rfl⟩ rfl rfl rfl rfl rfl (by kernel_rfl) Try.func3 (by unfold joinedFacts; rw [fact_inPlace, fact_unfollowed, fact_recurses, fact_named]; kernel_rfl)
    (of_decide_eq_true (by kernel_rfl)) (by unfold Func.isWrapper; first | (rw [if_pos (by decide +kernel)]; kernel_rfl) | (rw [if_neg (by decide +kernel)]; exact ⟨rfl, rfl⟩))
    (fun os started H enc _ => lifted os started H enc)
end Go.Proofs.Ytkllhnhinealfaa.fnExactBareSame
namespace Go.Proofs.Ytkllhnhinealfaa

/-- The given statement. -/
theorem fnExactBareSame_proved : Rows.FnExactBareSameSaid := fnExactBareSame.over
#print axioms fnExactBareSame_proved
end Go.Proofs.Ytkllhnhinealfaa
