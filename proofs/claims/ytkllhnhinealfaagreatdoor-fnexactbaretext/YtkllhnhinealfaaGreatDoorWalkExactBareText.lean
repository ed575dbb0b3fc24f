/-
  'laws.FnExactBareText' returns true at whatever line without types: impl.BareText and the model's BareText answer the same, and nothing is written into an argument.
  Conditions: the library's variables hold what their initialisers lay (tied to the program's text); every value of laws.Bare.
-/
import Derived.Test.YtkllhnhinealfaaGreatDoorImplBare
import Derived.Test.YtkllhnhinealfaaGreatDoorSpecBText
import Derived.Test.YtkllhnhinealfaaGreatDoorOpenBr
import Derived.WalkKit
import Derived.ProofKit
import Derived.OpenShut
import Derived.ShutString
import Derived.ChangeOld
import Derived.Below
import Derived.Lib.SmallJoins
import Derived.SliceStrings
namespace Go.Proofs.YtkllhnhinealfaaGreatDoor.fnExactBareText
open Go.ChangeShapes Go.WideShapes Go.ChangeAt Go.RowKit Go.Joins
open Go.ChangeMaps (open_string shut_string)


theorem kids_both {W : World} {s : Br} {A1 A2 : Option Addr} {lo mid : Nat} (h1 : OwnE W s.e lo mid A1) (h2 : OwnE W s.t mid W.heap.size A2) : KidsU W W.heap.size A1 s.e.kids ∧ KidsU W W.heap.size A2 s.t.kids :=
  ⟨own_kidsU s.e _ _ _ _ h1 (own_le W s.t _ _ _ h2), own_kidsU s.t _ _ _ _ h2 (Nat.le_refl _)⟩
set_option linter.unusedVariables false in
set_option maxRecDepth 100000 in
set_option maxHeartbeats 8000000 in
theorem walk (s : Br) (A1 : Option Addr) (c1 : Nat) (A2 : Option Addr) (c2 : Nat) (w : World) (hE : InBr w A1 c1 A2 c2 s) (hL : LaidW w) :
    Calls Tryz.prog 10 #[.agg #[.int .i64 s.kind, .string s.name, .int .i64 s.e.kind, .int .i64 s.e.n, .string s.e.s, .slice A1 s.e.kids.length c1, .int .i64 s.t.kind, .int .i64 s.t.n, .string s.t.s, .slice A2 s.t.kids.length c2]] w fun r w' => r = .returned (.bool true) ∧ Below w.heap.size w w' := by
  obtain ⟨hfit, hA1, hA2, hc1, hc2⟩ := hE

  obtain ⟨W0, hW0⟩ : ∃ W0, W0 = w.alloc (.cells #[.int .i64 s.kind, .string s.name, .int .i64 s.e.kind, .int .i64 s.e.n, .string s.e.s, .slice A1 s.e.kids.length c1, .int .i64 s.t.kind, .int .i64 s.t.n, .string s.t.s, .slice A2 s.t.kids.length c2] 55) := ⟨_, rfl⟩
  have hb0 : Below w.heap.size w W0 := by rw [hW0]; exact (Below.refl _ w).alloc (Nat.le_refl _) _
  have hs0 : W0.heap.size = w.heap.size + 1 := by rw [hW0]; simp
  have a0 : W0.cell? ⟨w.heap.size, 0, none⟩ = some (.int .i64 s.kind) := by rw [hW0]; exact cell_made4 w _ _ 0 _ rfl
  have a1 : W0.cell? ⟨w.heap.size, 1, none⟩ = some (.string s.name) := by rw [hW0]; exact cell_made4 w _ _ 1 _ rfl
  have a2 : W0.cell? ⟨w.heap.size, 2, none⟩ = some (.int .i64 s.e.kind) := by rw [hW0]; exact cell_made4 w _ _ 2 _ rfl
  have a3 : W0.cell? ⟨w.heap.size, 3, none⟩ = some (.int .i64 s.e.n) := by rw [hW0]; exact cell_made4 w _ _ 3 _ rfl
  have a4 : W0.cell? ⟨w.heap.size, 4, none⟩ = some (.string s.e.s) := by rw [hW0]; exact cell_made4 w _ _ 4 _ rfl
  have a5 : W0.cell? ⟨w.heap.size, 5, none⟩ = some (.slice A1 s.e.kids.length c1) := by rw [hW0]; exact cell_made4 w _ _ 5 _ rfl
  have a6 : W0.cell? ⟨w.heap.size, 6, none⟩ = some (.int .i64 s.t.kind) := by rw [hW0]; exact cell_made4 w _ _ 6 _ rfl
  have a7 : W0.cell? ⟨w.heap.size, 7, none⟩ = some (.int .i64 s.t.n) := by rw [hW0]; exact cell_made4 w _ _ 7 _ rfl
  have a8 : W0.cell? ⟨w.heap.size, 8, none⟩ = some (.string s.t.s) := by rw [hW0]; exact cell_made4 w _ _ 8 _ rfl
  have a9 : W0.cell? ⟨w.heap.size, 9, none⟩ = some (.slice A2 s.t.kids.length c2) := by rw [hW0]; exact cell_made4 w _ _ 9 _ rfl

  have HSz := Lib.hid (szBare_any s A1 A2 c1 c2 w.heap.size 1048576 W0 hfit (hA1.keep hb0) (hA2.keep hb0) hc1 hc2 hb0.size (by omega) (by omega))
  have HTo := Lib.hid (fun (W : World) (hW : Below W0.heap.size W0 W) (hw : s.wt ≤ 2 ^ 29) => toBare_any s A1 A2 c1 c2 w.heap.size W ((hA1.keep hb0).keep (hW.mono hb0.size)) ((hA2.keep hb0).keep (hW.mono hb0.size)) hc1 hc2 (Nat.le_trans hb0.size hW.size) hw)
  have HL := Lib.hid (fun (W : World) (hW : Below W0.heap.size W0 W) => hL.below (hb0.trans (hW.mono hb0.size)))

  clear hfit hA1 hA2 hL
  go_enter Tryz.func10, Tryz.ntmps10
  go_wp2_with fail
  rw [← hW0]
  refine HSz.out.mono ?_
  rintro r w1 ⟨z, rfl, hz, hzl, hb1⟩
  have p0 := (hb1.cell (p := ⟨w.heap.size, 0, none⟩) (by show w.heap.size < _; omega)).trans a0
  have p1 := (hb1.cell (p := ⟨w.heap.size, 1, none⟩) (by show w.heap.size < _; omega)).trans a1
  have p2 := (hb1.cell (p := ⟨w.heap.size, 2, none⟩) (by show w.heap.size < _; omega)).trans a2
  have p3 := (hb1.cell (p := ⟨w.heap.size, 3, none⟩) (by show w.heap.size < _; omega)).trans a3
  have p4 := (hb1.cell (p := ⟨w.heap.size, 4, none⟩) (by show w.heap.size < _; omega)).trans a4
  have p5 := (hb1.cell (p := ⟨w.heap.size, 5, none⟩) (by show w.heap.size < _; omega)).trans a5
  have p6 := (hb1.cell (p := ⟨w.heap.size, 6, none⟩) (by show w.heap.size < _; omega)).trans a6
  have p7 := (hb1.cell (p := ⟨w.heap.size, 7, none⟩) (by show w.heap.size < _; omega)).trans a7
  have p8 := (hb1.cell (p := ⟨w.heap.size, 8, none⟩) (by show w.heap.size < _; omega)).trans a8
  have p9 := (hb1.cell (p := ⟨w.heap.size, 9, none⟩) (by show w.heap.size < _; omega)).trans a9

  by_cases hneg : z < 0
  · have q : decide (z < 0) = true := by simpa using hneg
    go_wp2_with fail
    go_ret
    exact ⟨rfl, hb0.trans (hb1.mono hb0.size)⟩
  have q : decide (z < 0) = false := by simpa using hneg
  have hwa : s.wt ≤ 1048576 := by have := hz (by omega); omega
  have HT := Lib.hid (fun (W : World) (hW : Below W0.heap.size W0 W) => HTo.out W hW (by omega))
  have HS := Lib.hid (fun (A1 A2 : Option Addr) (c1 c2 B : Nat) (W : World) (h1 : KidsAt W B A1 s.e.kids) (h2 : KidsAt W B A2 s.t.kids) (k1 : s.e.kids.length ≤ c1) (k2 : s.t.kids.length ≤ c2) (h5 : B ≤ W.heap.size) => specBareText_any s A1 A2 c1 c2 B W h1 h2 k1 k2 h5 (by omega))
  unfold brV at HS
  have HI := Lib.hid (fun (A1 A2 : Option Addr) (c1 c2 B : Nat) (W : World) (hW : Below W0.heap.size W0 W) (h1 : KidsU W B A1 s.e.kids) (h2 : KidsU W B A2 s.t.kids) (k1 : s.e.kids.length ≤ c1) (k2 : s.t.kids.length ≤ c2) (h5 : B ≤ W.heap.size) => bareText_all s A1 A2 c1 c2 B W h1 h2 k1 k2 h5 (by omega) (HL.out W hW))
  have HQ := Lib.hid (fun (A1 A2 B1 B2 : Option Addr) (c1 c2 d1 d2 B : Nat) (W : World) (h1 : KidsAt W B A1 s.e.kids) (h2 : KidsAt W B A2 s.t.kids) (h3 : KidsAt W B B1 s.e.kids) (h4 : KidsAt W B B2 s.t.kids) (k1 : s.e.kids.length ≤ c1) (k2 : s.t.kids.length ≤ c2) (k3 : s.e.kids.length ≤ d1) (k4 : s.t.kids.length ≤ d2) (h5 : B ≤ W.heap.size) => eqBare_same s A1 A2 B1 B2 c1 c2 d1 d2 B W h1 h2 h3 h4 k1 k2 k3 k4 h5 (by omega))
  generalize textB s = ok at *
  have qR : (!ok.toList == ok.toList) = false := by simp
  clear HTo HSz hz HL hwa hzl
  go_wp2_with fail
  refine (HT.out w1 hb1).mono ?_
  rintro r w2 ⟨X1, k1, X2, k2, m2, rfl, hk1, hk2, hP2, hQ2, hb2'⟩
  have hb2 := hb1.trans (hb2'.mono hb1.size)
  have K2 := Lib.hid (kids_both hP2 hQ2)
  have r0 := (hb2.cell (p := ⟨w.heap.size, 0, none⟩) (by show w.heap.size < _; omega)).trans a0
  have r1 := (hb2.cell (p := ⟨w.heap.size, 1, none⟩) (by show w.heap.size < _; omega)).trans a1
  have r2 := (hb2.cell (p := ⟨w.heap.size, 2, none⟩) (by show w.heap.size < _; omega)).trans a2
  have r3 := (hb2.cell (p := ⟨w.heap.size, 3, none⟩) (by show w.heap.size < _; omega)).trans a3
  have r4 := (hb2.cell (p := ⟨w.heap.size, 4, none⟩) (by show w.heap.size < _; omega)).trans a4
  have r5 := (hb2.cell (p := ⟨w.heap.size, 5, none⟩) (by show w.heap.size < _; omega)).trans a5
  have r6 := (hb2.cell (p := ⟨w.heap.size, 6, none⟩) (by show w.heap.size < _; omega)).trans a6
  have r7 := (hb2.cell (p := ⟨w.heap.size, 7, none⟩) (by show w.heap.size < _; omega)).trans a7
  have r8 := (hb2.cell (p := ⟨w.heap.size, 8, none⟩) (by show w.heap.size < _; omega)).trans a8
  have r9 := (hb2.cell (p := ⟨w.heap.size, 9, none⟩) (by show w.heap.size < _; omega)).trans a9
  clear hP2 hQ2 hb2' p0 p1 p2 p3 p4 p5 p6 p7 p8 p9
  go_wp2_with fail
  refine (HS.out X1 X2 k1 k2 w2.heap.size w2 K2.out.1.kids K2.out.2.kids hk1 hk2 (Nat.le_refl _)).mono ?_
  rintro r w3 ⟨rfl, hb3'⟩
  have hb3 := hb2.trans (hb3'.mono hb2.size)
  have p0 := (hb3.cell (p := ⟨w.heap.size, 0, none⟩) (by show w.heap.size < _; omega)).trans a0
  have p1 := (hb3.cell (p := ⟨w.heap.size, 1, none⟩) (by show w.heap.size < _; omega)).trans a1
  have p2 := (hb3.cell (p := ⟨w.heap.size, 2, none⟩) (by show w.heap.size < _; omega)).trans a2
  have p3 := (hb3.cell (p := ⟨w.heap.size, 3, none⟩) (by show w.heap.size < _; omega)).trans a3
  have p4 := (hb3.cell (p := ⟨w.heap.size, 4, none⟩) (by show w.heap.size < _; omega)).trans a4
  have p5 := (hb3.cell (p := ⟨w.heap.size, 5, none⟩) (by show w.heap.size < _; omega)).trans a5
  have p6 := (hb3.cell (p := ⟨w.heap.size, 6, none⟩) (by show w.heap.size < _; omega)).trans a6
  have p7 := (hb3.cell (p := ⟨w.heap.size, 7, none⟩) (by show w.heap.size < _; omega)).trans a7
  have p8 := (hb3.cell (p := ⟨w.heap.size, 8, none⟩) (by show w.heap.size < _; omega)).trans a8
  have p9 := (hb3.cell (p := ⟨w.heap.size, 9, none⟩) (by show w.heap.size < _; omega)).trans a9
  clear hb3' K2 r0 r1 r2 r3 r4 r5 r6 r7 r8 r9 hk1 hk2
  go_wp2_with fail
  refine (HT.out w3 hb3).mono ?_
  rintro r w4 ⟨Y1, l1, Y2, l2, m4, rfl, hl1, hl2, hP4, hQ4, hb4'⟩
  have hb4 := hb3.trans (hb4'.mono hb3.size)
  have K4 := Lib.hid (kids_both hP4 hQ4)
  obtain ⟨W5, hW5⟩ : ∃ W5, W5 = w4.alloc (.cells #[.int .i64 s.kind, .string s.name, .int .i64 s.e.kind, .int .i64 s.e.n, .string s.e.s, .slice Y1 s.e.kids.length l1, .int .i64 s.t.kind, .int .i64 s.t.n, .string s.t.s, .slice Y2 s.t.kids.length l2] 33) := ⟨_, rfl⟩
  have hb5' : Below w4.heap.size w4 W5 := by rw [hW5]; exact (Below.refl _ w4).alloc (Nat.le_refl _) _
  have hs5 : W5.heap.size = w4.heap.size + 1 := by rw [hW5]; simp
  have hb5 := hb4.trans (hb5'.mono hb4.size)
  have x0 : W5.cell? ⟨w4.heap.size, 0, none⟩ = some (.int .i64 s.kind) := by rw [hW5]; exact cell_made4 w4 _ _ 0 _ rfl
  have x1 : W5.cell? ⟨w4.heap.size, 1, none⟩ = some (.string s.name) := by rw [hW5]; exact cell_made4 w4 _ _ 1 _ rfl
  have x2 : W5.cell? ⟨w4.heap.size, 2, none⟩ = some (.int .i64 s.e.kind) := by rw [hW5]; exact cell_made4 w4 _ _ 2 _ rfl
  have x3 : W5.cell? ⟨w4.heap.size, 3, none⟩ = some (.int .i64 s.e.n) := by rw [hW5]; exact cell_made4 w4 _ _ 3 _ rfl
  have x4 : W5.cell? ⟨w4.heap.size, 4, none⟩ = some (.string s.e.s) := by rw [hW5]; exact cell_made4 w4 _ _ 4 _ rfl
  have x5 : W5.cell? ⟨w4.heap.size, 5, none⟩ = some (.slice Y1 s.e.kids.length l1) := by rw [hW5]; exact cell_made4 w4 _ _ 5 _ rfl
  have x6 : W5.cell? ⟨w4.heap.size, 6, none⟩ = some (.int .i64 s.t.kind) := by rw [hW5]; exact cell_made4 w4 _ _ 6 _ rfl
  have x7 : W5.cell? ⟨w4.heap.size, 7, none⟩ = some (.int .i64 s.t.n) := by rw [hW5]; exact cell_made4 w4 _ _ 7 _ rfl
  have x8 : W5.cell? ⟨w4.heap.size, 8, none⟩ = some (.string s.t.s) := by rw [hW5]; exact cell_made4 w4 _ _ 8 _ rfl
  have x9 : W5.cell? ⟨w4.heap.size, 9, none⟩ = some (.slice Y2 s.t.kids.length l2) := by rw [hW5]; exact cell_made4 w4 _ _ 9 _ rfl
  have y0 := (hb5.cell (p := ⟨w.heap.size, 0, none⟩) (by show w.heap.size < _; omega)).trans a0
  have y1 := (hb5.cell (p := ⟨w.heap.size, 1, none⟩) (by show w.heap.size < _; omega)).trans a1
  have y2 := (hb5.cell (p := ⟨w.heap.size, 2, none⟩) (by show w.heap.size < _; omega)).trans a2
  have y3 := (hb5.cell (p := ⟨w.heap.size, 3, none⟩) (by show w.heap.size < _; omega)).trans a3
  have y4 := (hb5.cell (p := ⟨w.heap.size, 4, none⟩) (by show w.heap.size < _; omega)).trans a4
  have y5 := (hb5.cell (p := ⟨w.heap.size, 5, none⟩) (by show w.heap.size < _; omega)).trans a5
  have y6 := (hb5.cell (p := ⟨w.heap.size, 6, none⟩) (by show w.heap.size < _; omega)).trans a6
  have y7 := (hb5.cell (p := ⟨w.heap.size, 7, none⟩) (by show w.heap.size < _; omega)).trans a7
  have y8 := (hb5.cell (p := ⟨w.heap.size, 8, none⟩) (by show w.heap.size < _; omega)).trans a8
  have y9 := (hb5.cell (p := ⟨w.heap.size, 9, none⟩) (by show w.heap.size < _; omega)).trans a9
  have K5 := Lib.hid (show KidsU W5 w4.heap.size Y1 s.e.kids ∧ KidsU W5 w4.heap.size Y2 s.t.kids from ⟨K4.out.1.keep hb5', K4.out.2.keep hb5'⟩)
  clear hP4 hQ4 hb4' hb5' K4 p0 p1 p2 p3 p4 p5 p6 p7 p8 p9
  rw [hW5] at x0 x1 x2 x3 x4 x5 x6 x7 x8 x9 y0 y1 y2 y3 y4 y5 y6 y7 y8 y9
  go_wp2_with fail
  rw [← hW5] at x0 x1 x2 x3 x4 x5 x6 x7 x8 x9 y0 y1 y2 y3 y4 y5 y6 y7 y8 y9 ⊢
  clear hW5
  refine (HI.out Y1 Y2 l1 l2 w4.heap.size W5 hb5 K5.out.1 K5.out.2 hl1 hl2 (by omega)).mono ?_
  rintro r w6 ⟨rfl, hb6'⟩
  have HB6 := Lib.hid (hb5.trans (hb6'.mono hb5.size))
  have s0 := (hb6'.cell (p := ⟨w4.heap.size, 0, none⟩) (by show w4.heap.size < _; omega)).trans x0
  have s1 := (hb6'.cell (p := ⟨w4.heap.size, 1, none⟩) (by show w4.heap.size < _; omega)).trans x1
  have s2 := (hb6'.cell (p := ⟨w4.heap.size, 2, none⟩) (by show w4.heap.size < _; omega)).trans x2
  have s3 := (hb6'.cell (p := ⟨w4.heap.size, 3, none⟩) (by show w4.heap.size < _; omega)).trans x3
  have s4 := (hb6'.cell (p := ⟨w4.heap.size, 4, none⟩) (by show w4.heap.size < _; omega)).trans x4
  have s5 := (hb6'.cell (p := ⟨w4.heap.size, 5, none⟩) (by show w4.heap.size < _; omega)).trans x5
  have s6 := (hb6'.cell (p := ⟨w4.heap.size, 6, none⟩) (by show w4.heap.size < _; omega)).trans x6
  have s7 := (hb6'.cell (p := ⟨w4.heap.size, 7, none⟩) (by show w4.heap.size < _; omega)).trans x7
  have s8 := (hb6'.cell (p := ⟨w4.heap.size, 8, none⟩) (by show w4.heap.size < _; omega)).trans x8
  have s9 := (hb6'.cell (p := ⟨w4.heap.size, 9, none⟩) (by show w4.heap.size < _; omega)).trans x9
  have u0 := (HB6.out.cell (p := ⟨w.heap.size, 0, none⟩) (by show w.heap.size < _; omega)).trans a0
  have u1 := (HB6.out.cell (p := ⟨w.heap.size, 1, none⟩) (by show w.heap.size < _; omega)).trans a1
  have u2 := (HB6.out.cell (p := ⟨w.heap.size, 2, none⟩) (by show w.heap.size < _; omega)).trans a2
  have u3 := (HB6.out.cell (p := ⟨w.heap.size, 3, none⟩) (by show w.heap.size < _; omega)).trans a3
  have u4 := (HB6.out.cell (p := ⟨w.heap.size, 4, none⟩) (by show w.heap.size < _; omega)).trans a4
  have u5 := (HB6.out.cell (p := ⟨w.heap.size, 5, none⟩) (by show w.heap.size < _; omega)).trans a5
  have u6 := (HB6.out.cell (p := ⟨w.heap.size, 6, none⟩) (by show w.heap.size < _; omega)).trans a6
  have u7 := (HB6.out.cell (p := ⟨w.heap.size, 7, none⟩) (by show w.heap.size < _; omega)).trans a7
  have u8 := (HB6.out.cell (p := ⟨w.heap.size, 8, none⟩) (by show w.heap.size < _; omega)).trans a8
  have u9 := (HB6.out.cell (p := ⟨w.heap.size, 9, none⟩) (by show w.heap.size < _; omega)).trans a9
  have g1 : w4.heap.size < w6.heap.size := by have := hb6'.size; omega
  have g3 : w.heap.size < w6.heap.size := by have := HB6.out.size; omega
  have K6 := Lib.hid (show KidsAt w6 w4.heap.size Y1 s.e.kids ∧ KidsAt w6 w4.heap.size Y2 s.t.kids from ⟨K5.out.1.kids.keep (hb6'.mono (by omega)), K5.out.2.kids.keep (hb6'.mono (by omega))⟩)
  have HBF := Lib.hid (hb0.trans (HB6.out.mono hb0.size))
  clear hb6' x0 x1 x2 x3 x4 x5 x6 x7 x8 x9 y0 y1 y2 y3 y4 y5 y6 y7 y8 y9 HI HS K5 a0 a1 a2 a3 a4 a5 a6 a7 a8 a9 hb0 hb1 hb2 hb3 hb4 hb5
  go_wp2_with fail
  go_region_held3 (fun w' => w'.cell? ⟨w4.heap.size, 0, none⟩ = some (.int .i64 s.kind) ∧ w'.cell? ⟨w4.heap.size, 1, none⟩ = some (.string s.name) ∧ w'.cell? ⟨w4.heap.size, 2, none⟩ = some (.int .i64 s.e.kind) ∧ w'.cell? ⟨w4.heap.size, 3, none⟩ = some (.int .i64 s.e.n) ∧ w'.cell? ⟨w4.heap.size, 4, none⟩ = some (.string s.e.s) ∧ w'.cell? ⟨w4.heap.size, 5, none⟩ = some (.slice Y1 s.e.kids.length l1) ∧ w'.cell? ⟨w4.heap.size, 6, none⟩ = some (.int .i64 s.t.kind) ∧ w'.cell? ⟨w4.heap.size, 7, none⟩ = some (.int .i64 s.t.n) ∧ w'.cell? ⟨w4.heap.size, 8, none⟩ = some (.string s.t.s) ∧ w'.cell? ⟨w4.heap.size, 9, none⟩ = some (.slice Y2 s.t.kids.length l2) ∧ w'.cell? ⟨w.heap.size, 0, none⟩ = some (.int .i64 s.kind) ∧ w'.cell? ⟨w.heap.size, 1, none⟩ = some (.string s.name) ∧ w'.cell? ⟨w.heap.size, 2, none⟩ = some (.int .i64 s.e.kind) ∧ w'.cell? ⟨w.heap.size, 3, none⟩ = some (.int .i64 s.e.n) ∧ w'.cell? ⟨w.heap.size, 4, none⟩ = some (.string s.e.s) ∧ w'.cell? ⟨w.heap.size, 5, none⟩ = some (.slice A1 s.e.kids.length c1) ∧ w'.cell? ⟨w.heap.size, 6, none⟩ = some (.int .i64 s.t.kind) ∧ w'.cell? ⟨w.heap.size, 7, none⟩ = some (.int .i64 s.t.n) ∧ w'.cell? ⟨w.heap.size, 8, none⟩ = some (.string s.t.s) ∧ w'.cell? ⟨w.heap.size, 9, none⟩ = some (.slice A2 s.t.kids.length c2) ∧ Below w6.heap.size w6 w')
    (first | exact ⟨s0, s1, s2, s3, s4, s5, s6, s7, s8, s9, u0, u1, u2, u3, u4, u5, u6, u7, u8, u9, (Below.refl _ w6).drew⟩ | exact ⟨(hb8.cell (p := ⟨w4.heap.size, 0, none⟩) g1).trans s0, (hb8.cell (p := ⟨w4.heap.size, 1, none⟩) g1).trans s1, (hb8.cell (p := ⟨w4.heap.size, 2, none⟩) g1).trans s2, (hb8.cell (p := ⟨w4.heap.size, 3, none⟩) g1).trans s3, (hb8.cell (p := ⟨w4.heap.size, 4, none⟩) g1).trans s4, (hb8.cell (p := ⟨w4.heap.size, 5, none⟩) g1).trans s5, (hb8.cell (p := ⟨w4.heap.size, 6, none⟩) g1).trans s6, (hb8.cell (p := ⟨w4.heap.size, 7, none⟩) g1).trans s7, (hb8.cell (p := ⟨w4.heap.size, 8, none⟩) g1).trans s8, (hb8.cell (p := ⟨w4.heap.size, 9, none⟩) g1).trans s9, (hb8.cell (p := ⟨w.heap.size, 0, none⟩) g3).trans u0, (hb8.cell (p := ⟨w.heap.size, 1, none⟩) g3).trans u1, (hb8.cell (p := ⟨w.heap.size, 2, none⟩) g3).trans u2, (hb8.cell (p := ⟨w.heap.size, 3, none⟩) g3).trans u3, (hb8.cell (p := ⟨w.heap.size, 4, none⟩) g3).trans u4, (hb8.cell (p := ⟨w.heap.size, 5, none⟩) g3).trans u5, (hb8.cell (p := ⟨w.heap.size, 6, none⟩) g3).trans u6, (hb8.cell (p := ⟨w.heap.size, 7, none⟩) g3).trans u7, (hb8.cell (p := ⟨w.heap.size, 8, none⟩) g3).trans u8, (hb8.cell (p := ⟨w.heap.size, 9, none⟩) g3).trans u9, hb8⟩ | exact ⟨(hb7.cell (p := ⟨w4.heap.size, 0, none⟩) g1).trans s0, (hb7.cell (p := ⟨w4.heap.size, 1, none⟩) g1).trans s1, (hb7.cell (p := ⟨w4.heap.size, 2, none⟩) g1).trans s2, (hb7.cell (p := ⟨w4.heap.size, 3, none⟩) g1).trans s3, (hb7.cell (p := ⟨w4.heap.size, 4, none⟩) g1).trans s4, (hb7.cell (p := ⟨w4.heap.size, 5, none⟩) g1).trans s5, (hb7.cell (p := ⟨w4.heap.size, 6, none⟩) g1).trans s6, (hb7.cell (p := ⟨w4.heap.size, 7, none⟩) g1).trans s7, (hb7.cell (p := ⟨w4.heap.size, 8, none⟩) g1).trans s8, (hb7.cell (p := ⟨w4.heap.size, 9, none⟩) g1).trans s9, (hb7.cell (p := ⟨w.heap.size, 0, none⟩) g3).trans u0, (hb7.cell (p := ⟨w.heap.size, 1, none⟩) g3).trans u1, (hb7.cell (p := ⟨w.heap.size, 2, none⟩) g3).trans u2, (hb7.cell (p := ⟨w.heap.size, 3, none⟩) g3).trans u3, (hb7.cell (p := ⟨w.heap.size, 4, none⟩) g3).trans u4, (hb7.cell (p := ⟨w.heap.size, 5, none⟩) g3).trans u5, (hb7.cell (p := ⟨w.heap.size, 6, none⟩) g3).trans u6, (hb7.cell (p := ⟨w.heap.size, 7, none⟩) g3).trans u7, (hb7.cell (p := ⟨w.heap.size, 8, none⟩) g3).trans u8, (hb7.cell (p := ⟨w.heap.size, 9, none⟩) g3).trans u9, hb7⟩)
    (first | (go_at_call 31; refine (HT.out _ (HB6.out.trans ((Below.refl _ w6).drew.mono HB6.out.size))).mono ?_; rintro r w7 ⟨G1, i1, G2, i2, mm, rfl, hi1, hi2, hPP, hQQ, hb7'⟩; have hb7 : Below w6.heap.size w6 w7 := (Below.refl _ w6).drew.trans hb7'; have HKK := Lib.hid (kids_both hPP hQQ); have HQ7 := Lib.hid (fun (V : World) (XX : Below w7.heap.size w7 V) => HQ.out Y1 Y2 G1 G2 l1 l2 i1 i2 w7.heap.size V ((K6.out.1.keep ((hb7.trans (XX.mono hb7.size)).mono (Nat.le_of_lt g1))).wide (by have := hb7.size; omega)) ((K6.out.2.keep ((hb7.trans (XX.mono hb7.size)).mono (Nat.le_of_lt g1))).wide (by have := hb7.size; omega)) (HKK.out.1.kids.keep XX) (HKK.out.2.kids.keep XX) hl1 hl2 hi1 hi2 XX.size); clear hPP hQQ hb7') | (go_at_call 32; (first | refine (HQ7.out _ (Below.refl _ w7)).mono ?_ | refine (HQ7.out _ (Below.refl _ w7).drew).mono ?_); rintro r w8 ⟨rfl, hb8'⟩; have hb8 : Below w6.heap.size w6 w8 := hb7.trans (hb8'.mono hb7.size)))
  rename_i hh8
  go_wp2_with fail
  go_ret
  exact ⟨rfl, HBF.out.trans (hb8.mono HBF.out.size)⟩
end Go.Proofs.YtkllhnhinealfaaGreatDoor.fnExactBareText
