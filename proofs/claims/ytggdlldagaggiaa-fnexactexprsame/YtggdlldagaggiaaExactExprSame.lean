/-
  'laws.FnExactExprSame' returns true at whatever two are to be reckoned: impl.ExprSame and the model's ExprSame answer the same, and nothing is written into an argument.
  Conditions: every two values of laws.Expr.
-/
import Derived.Test.YtggdlldagaggiaaExprSame
import Derived.Test.YtggdlldagaggiaaOwnLaws
import Derived.Test.YtggdlldagaggiaaEqEx
import Derived.Test.YtggdlldagaggiaaOpenEx
import Derived.Test.YtggdlldagaggiaaRows
import Derived.WalkKit
import Derived.ProofKit
import Derived.OpenShut
import Derived.ShutString
import Derived.ChangeOld
import Derived.Below
import Derived.Lib.SmallJoins
import Derived.SliceStrings
namespace Go.Proofs.Ytggdlldagaggiaa.fnExactExprSame
open Go.ChangeShapes Go.WideShapes Go.ChangeAt Go.RowKit Go.Joins
open Go.ChangeMaps (open_string shut_string)


set_option maxRecDepth 100000 in
set_option maxHeartbeats 8000000 in
theorem walk (a : Ex) (A : Option Addr) (c : Nat) (b : Ex) (A' : Option Addr) (c' : Nat) (w : World) (hE : InEx w A c a) (hE' : InEx w A' c' b) :
    Calls Try.prog 3 #[.agg #[.int .i64 a.kind, .int .i64 a.n, .string a.s, .slice A a.kids.length c], .agg #[.int .i64 b.kind, .int .i64 b.n, .string b.s, .slice A' b.kids.length c']] w fun r w' => r = .returned (.bool true) ∧ Below w.heap.size w w' := by
  obtain ⟨hfit, hA, hc⟩ := hE
  obtain ⟨hfit', hA', hc'⟩ := hE'
  obtain ⟨W0, hW0⟩ : ∃ W0, W0 = (w.alloc (.cells #[.int .i64 a.kind, .int .i64 a.n, .string a.s, .slice A a.kids.length c] 24)).alloc (.cells #[.int .i64 b.kind, .int .i64 b.n, .string b.s, .slice A' b.kids.length c'] 24) := ⟨_, rfl⟩
  have hb0 : Below w.heap.size w W0 := by rw [hW0]; exact ((Below.refl _ w).alloc (Nat.le_refl _) _).alloc (by simp) _
  have hs0 : W0.heap.size = w.heap.size + 2 := by rw [hW0]; simp
  have a0 : W0.cell? ⟨w.heap.size, 0, none⟩ = some (.int .i64 a.kind) := by rw [hW0]; exact cell_new2a w _ _ _ _ 0 _ rfl
  have a1 : W0.cell? ⟨w.heap.size, 1, none⟩ = some (.int .i64 a.n) := by rw [hW0]; exact cell_new2a w _ _ _ _ 1 _ rfl
  have a2 : W0.cell? ⟨w.heap.size, 2, none⟩ = some (.string a.s) := by rw [hW0]; exact cell_new2a w _ _ _ _ 2 _ rfl
  have a3 : W0.cell? ⟨w.heap.size, 3, none⟩ = some (.slice A a.kids.length c) := by rw [hW0]; exact cell_new2a w _ _ _ _ 3 _ rfl
  have b0 : W0.cell? ⟨w.heap.size + 1, 0, none⟩ = some (.int .i64 b.kind) := by rw [hW0]; exact cell_new2b w _ _ _ _ 0 _ rfl
  have b1 : W0.cell? ⟨w.heap.size + 1, 1, none⟩ = some (.int .i64 b.n) := by rw [hW0]; exact cell_new2b w _ _ _ _ 1 _ rfl
  have b2 : W0.cell? ⟨w.heap.size + 1, 2, none⟩ = some (.string b.s) := by rw [hW0]; exact cell_new2b w _ _ _ _ 2 _ rfl
  have b3 : W0.cell? ⟨w.heap.size + 1, 3, none⟩ = some (.slice A' b.kids.length c') := by rw [hW0]; exact cell_new2b w _ _ _ _ 3 _ rfl

  have hA0 := hA.keep hb0
  have hA0' := hA'.keep hb0
  have HSz := Lib.hid (szExpr_any a A c w.heap.size 1048576 W0 hfit hA0 hc hb0.size (by omega) (by omega))
  have HSz' := Lib.hid (fun (z : Int) (W : World) (hW : Below W0.heap.size W0 W) (h0 : 0 ≤ z) (h1 : z ≤ 1048576) => szExpr_any b A' c' w.heap.size z W hfit' (hA0'.keep (hW.mono hb0.size)) hc' (Nat.le_trans hb0.size hW.size) h0 (by omega))
  have HTo := Lib.hid (fun (W : World) (hW : Below W0.heap.size W0 W) (hw : a.wt ≤ 2 ^ 40) => toExpr_any a A c w.heap.size W (hA0.keep (hW.mono hb0.size)) hc (Nat.le_trans hb0.size hW.size) hw)
  have HTo' := Lib.hid (fun (W : World) (hW : Below W0.heap.size W0 W) (hw : b.wt ≤ 2 ^ 40) => toExpr_any b A' c' w.heap.size W (hA0'.keep (hW.mono hb0.size)) hc' (Nat.le_trans hb0.size hW.size) hw)
  clear hfit hfit' hA hA' hA0 hA0'
  go_enter Try.func3, Try.ntmps3
  go_wp2_with fail
  rw [← hW0]
  refine HSz.out.mono ?_
  rintro r w1 ⟨z, rfl, hz, hzl, hb1⟩
  have c10 := (hb1.cell (p := ⟨w.heap.size, 0, none⟩) (by show w.heap.size < _; omega)).trans a0
  have c11 := (hb1.cell (p := ⟨w.heap.size, 1, none⟩) (by show w.heap.size < _; omega)).trans a1
  have c12 := (hb1.cell (p := ⟨w.heap.size, 2, none⟩) (by show w.heap.size < _; omega)).trans a2
  have c13 := (hb1.cell (p := ⟨w.heap.size, 3, none⟩) (by show w.heap.size < _; omega)).trans a3
  have d10 := (hb1.cell (p := ⟨w.heap.size + 1, 0, none⟩) (by show w.heap.size + 1 < _; omega)).trans b0
  have d11 := (hb1.cell (p := ⟨w.heap.size + 1, 1, none⟩) (by show w.heap.size + 1 < _; omega)).trans b1
  have d12 := (hb1.cell (p := ⟨w.heap.size + 1, 2, none⟩) (by show w.heap.size + 1 < _; omega)).trans b2
  have d13 := (hb1.cell (p := ⟨w.heap.size + 1, 3, none⟩) (by show w.heap.size + 1 < _; omega)).trans b3

  by_cases hneg : z < 0
  · have q : decide (z < 0) = true := by simpa using hneg
    go_wp2_with fail
    go_ret
    exact ⟨rfl, hb0.trans (hb1.mono hb0.size)⟩
  have q : decide (z < 0) = false := by simpa using hneg
  have HZ := Lib.hid (hz (by omega))
  clear hz
  go_wp2_with fail
  refine (HSz'.out z w1 hb1 (by omega) (by omega)).mono ?_
  rintro r w2 ⟨z2, rfl, hz2, hzl2, hb2'⟩
  have hb2 := hb1.trans (hb2'.mono hb1.size)
  have c20 := (hb2.cell (p := ⟨w.heap.size, 0, none⟩) (by show w.heap.size < _; omega)).trans a0
  have c21 := (hb2.cell (p := ⟨w.heap.size, 1, none⟩) (by show w.heap.size < _; omega)).trans a1
  have c22 := (hb2.cell (p := ⟨w.heap.size, 2, none⟩) (by show w.heap.size < _; omega)).trans a2
  have c23 := (hb2.cell (p := ⟨w.heap.size, 3, none⟩) (by show w.heap.size < _; omega)).trans a3
  have d20 := (hb2.cell (p := ⟨w.heap.size + 1, 0, none⟩) (by show w.heap.size + 1 < _; omega)).trans b0
  have d21 := (hb2.cell (p := ⟨w.heap.size + 1, 1, none⟩) (by show w.heap.size + 1 < _; omega)).trans b1
  have d22 := (hb2.cell (p := ⟨w.heap.size + 1, 2, none⟩) (by show w.heap.size + 1 < _; omega)).trans b2
  have d23 := (hb2.cell (p := ⟨w.heap.size + 1, 3, none⟩) (by show w.heap.size + 1 < _; omega)).trans b3

  clear c10 c11 c12 c13 d10 d11 d12 d13 hb2'
  by_cases hneg2 : z2 < 0
  · have q : decide (z2 < 0) = true := by simpa using hneg2
    go_wp2_with fail
    go_ret
    exact ⟨rfl, hb0.trans (hb2.mono hb0.size)⟩
  have qq : decide (z2 < 0) = false := by simpa using hneg2
  have hwa : a.wt ≤ 1048576 := by have := HZ.out; omega
  have hwb : b.wt ≤ 1048576 := by have := hz2 (by omega); omega
  have HT := Lib.hid (fun (W : World) (hW : Below W0.heap.size W0 W) => HTo.out W hW (by omega))
  have HT' := Lib.hid (fun (W : World) (hW : Below W0.heap.size W0 W) => HTo'.out W hW (by omega))
  have HS := Lib.hid (fun (A1 A2 : Option Addr) (c1 c2 B : Nat) (W : World) (h1 : KidsAt W B A1 a.kids) (h2 : KidsAt W B A2 b.kids) (h3 : a.kids.length ≤ c1) (h4 : b.kids.length ≤ c2) (h5 : B ≤ W.heap.size) => specSame_any a b A1 A2 c1 c2 B W h1 h2 h3 h4 h5 (by omega))
  have HI := Lib.hid (fun (A1 A2 : Option Addr) (c1 c2 B : Nat) (W : World) (h1 : KidsU W B A1 a.kids) (h2 : KidsU W B A2 b.kids) (h3 : a.kids.length ≤ c1) (h4 : b.kids.length ≤ c2) (h5 : B ≤ W.heap.size) => exprSame_any a b A1 A2 c1 c2 B W h1 h2 h3 h4 h5 (by have := a.nodes_le; omega))
  have HQ := Lib.hid (fun (A1 A2 : Option Addr) (c1 c2 B : Nat) (W : World) (h1 : KidsAt W B A1 a.kids) (h2 : KidsAt W B A2 a.kids) (h3 : a.kids.length ≤ c1) (h4 : a.kids.length ≤ c2) (h5 : B ≤ W.heap.size) => eqExpr_same a A1 A2 c1 c2 B W h1 h2 h3 h4 h5 (by omega))
  have HQ' := Lib.hid (fun (A1 A2 : Option Addr) (c1 c2 B : Nat) (W : World) (h1 : KidsAt W B A1 b.kids) (h2 : KidsAt W B A2 b.kids) (h3 : b.kids.length ≤ c1) (h4 : b.kids.length ≤ c2) (h5 : B ≤ W.heap.size) => eqExpr_same b A1 A2 c1 c2 B W h1 h2 h3 h4 h5 (by omega))
  have HK := Lib.hid (fun (W : World) (e : Ex) (lo hi : Nat) (A' : Option Addr) (h : OwnE W e lo hi A') (B : Nat) (hB : hi ≤ B) => own_kids e lo hi A' B h hB)
  have HU := Lib.hid (fun (W : World) (e : Ex) (lo hi : Nat) (A' : Option Addr) (h : OwnE W e lo hi A') (B : Nat) (hB : hi ≤ B) => own_kidsU e lo hi A' B h hB)
  generalize sameE a b = R at *
  have qR : (R != R) = false := by simp
  clear HTo HTo' HSz HSz' hz2 HZ
  go_wp2_with fail
  have l1 : w.heap.size < w2.heap.size := by have := hb2.size; omega
  have l2 : w.heap.size + 1 < w2.heap.size := by have := hb2.size; omega
  go_region_held3 (fun w' => w'.cell? ⟨w.heap.size, 0, none⟩ = some (.int .i64 a.kind) ∧ w'.cell? ⟨w.heap.size, 1, none⟩ = some (.int .i64 a.n) ∧ w'.cell? ⟨w.heap.size, 2, none⟩ = some (.string a.s) ∧ w'.cell? ⟨w.heap.size, 3, none⟩ = some (.slice A a.kids.length c) ∧ w'.cell? ⟨w.heap.size + 1, 0, none⟩ = some (.int .i64 b.kind) ∧ w'.cell? ⟨w.heap.size + 1, 1, none⟩ = some (.int .i64 b.n) ∧ w'.cell? ⟨w.heap.size + 1, 2, none⟩ = some (.string b.s) ∧ w'.cell? ⟨w.heap.size + 1, 3, none⟩ = some (.slice A' b.kids.length c') ∧ Below w2.heap.size w2 w')
    (first | exact ⟨c20, c21, c22, c23, d20, d21, d22, d23, (Below.refl _ w2).drew⟩ | exact ⟨(hb5.cell (p := ⟨w.heap.size, 0, none⟩) l1).trans c20, (hb5.cell (p := ⟨w.heap.size, 1, none⟩) l1).trans c21, (hb5.cell (p := ⟨w.heap.size, 2, none⟩) l1).trans c22, (hb5.cell (p := ⟨w.heap.size, 3, none⟩) l1).trans c23, (hb5.cell (p := ⟨w.heap.size + 1, 0, none⟩) l2).trans d20, (hb5.cell (p := ⟨w.heap.size + 1, 1, none⟩) l2).trans d21, (hb5.cell (p := ⟨w.heap.size + 1, 2, none⟩) l2).trans d22, (hb5.cell (p := ⟨w.heap.size + 1, 3, none⟩) l2).trans d23, hb5⟩ | exact ⟨(hb4.cell (p := ⟨w.heap.size, 0, none⟩) l1).trans c20, (hb4.cell (p := ⟨w.heap.size, 1, none⟩) l1).trans c21, (hb4.cell (p := ⟨w.heap.size, 2, none⟩) l1).trans c22, (hb4.cell (p := ⟨w.heap.size, 3, none⟩) l1).trans c23, (hb4.cell (p := ⟨w.heap.size + 1, 0, none⟩) l2).trans d20, (hb4.cell (p := ⟨w.heap.size + 1, 1, none⟩) l2).trans d21, (hb4.cell (p := ⟨w.heap.size + 1, 2, none⟩) l2).trans d22, (hb4.cell (p := ⟨w.heap.size + 1, 3, none⟩) l2).trans d23, hb4⟩ | exact ⟨(hb3.cell (p := ⟨w.heap.size, 0, none⟩) l1).trans c20, (hb3.cell (p := ⟨w.heap.size, 1, none⟩) l1).trans c21, (hb3.cell (p := ⟨w.heap.size, 2, none⟩) l1).trans c22, (hb3.cell (p := ⟨w.heap.size, 3, none⟩) l1).trans c23, (hb3.cell (p := ⟨w.heap.size + 1, 0, none⟩) l2).trans d20, (hb3.cell (p := ⟨w.heap.size + 1, 1, none⟩) l2).trans d21, (hb3.cell (p := ⟨w.heap.size + 1, 2, none⟩) l2).trans d22, (hb3.cell (p := ⟨w.heap.size + 1, 3, none⟩) l2).trans d23, hb3⟩)
    (first | (go_at_call 6; ((with_reducible refine (HT.out _ (hb2.trans ((Below.refl _ w2).drew.mono hb2.size))).mono ?_); rintro r w3 ⟨A3, c3, rfl, hc3, hO3, hb3'⟩; have hb3 : Below w2.heap.size w2 w3 := (Below.refl _ w2).drew.trans hb3'; have K3 := Lib.hid (HK.out w3 a _ _ A3 hO3 w3.heap.size (Nat.le_refl _)); clear hO3 hb3')) | (go_at_call 6; ((with_reducible refine (HT'.out _ (hb2.trans (hb3.mono hb2.size))).mono ?_); rintro r w4 ⟨A4, c4, rfl, hc4, hO4, hb4'⟩; have hb4 : Below w2.heap.size w2 w4 := hb3.trans (hb4'.mono hb3.size); have K4 := Lib.hid (HK.out w4 b _ _ A4 hO4 w4.heap.size (Nat.le_refl _)); have K34 := Lib.hid ((K3.out.keep hb4').wide hb4'.size); clear hO4 hb4')) | (go_at_call 5; refine (HS.out A3 A4 c3 c4 w4.heap.size w4 K34.out K4.out hc3 hc4 (Nat.le_refl _)).mono ?_; rintro r w5 ⟨rfl, hb5'⟩; have hb5 : Below w2.heap.size w2 w5 := hb4.trans (hb5'.mono hb4.size)))
  rename_i hh1
  have hb5w := hb2.trans (hb5.mono hb2.size)
  have c50 := (hb5w.cell (p := ⟨w.heap.size, 0, none⟩) (by show w.heap.size < _; omega)).trans a0
  have c51 := (hb5w.cell (p := ⟨w.heap.size, 1, none⟩) (by show w.heap.size < _; omega)).trans a1
  have c52 := (hb5w.cell (p := ⟨w.heap.size, 2, none⟩) (by show w.heap.size < _; omega)).trans a2
  have c53 := (hb5w.cell (p := ⟨w.heap.size, 3, none⟩) (by show w.heap.size < _; omega)).trans a3
  have d50 := (hb5w.cell (p := ⟨w.heap.size + 1, 0, none⟩) (by show w.heap.size + 1 < _; omega)).trans b0
  have d51 := (hb5w.cell (p := ⟨w.heap.size + 1, 1, none⟩) (by show w.heap.size + 1 < _; omega)).trans b1
  have d52 := (hb5w.cell (p := ⟨w.heap.size + 1, 2, none⟩) (by show w.heap.size + 1 < _; omega)).trans b2
  have d53 := (hb5w.cell (p := ⟨w.heap.size + 1, 3, none⟩) (by show w.heap.size + 1 < _; omega)).trans b3
  clear c20 c21 c22 c23 d20 d21 d22 d23
  go_wp2_with fail
  refine (HT.out w5 hb5w).mono ?_
  rintro r w6 ⟨A6, c6, rfl, hc6, hO6, hb6'⟩
  have HB6 := Lib.hid (hb5w.trans (hb6'.mono hb5w.size))
  have HO6 := Lib.hid hO6
  obtain ⟨W7, hW7⟩ : ∃ W7, W7 = w6.alloc (.cells #[.int .i64 a.kind, .int .i64 a.n, .string a.s, .slice A6 a.kids.length c6] 29) := ⟨_, rfl⟩
  have hb7 : Below w6.heap.size w6 W7 := by rw [hW7]; exact (Below.refl _ w6).alloc (Nat.le_refl _) _
  have hs7 : W7.heap.size = w6.heap.size + 1 := by rw [hW7]; simp
  have x0 : W7.cell? ⟨w6.heap.size, 0, none⟩ = some (.int .i64 a.kind) := by rw [hW7]; exact cell_made4 w6 _ _ 0 _ rfl
  have x1 : W7.cell? ⟨w6.heap.size, 1, none⟩ = some (.int .i64 a.n) := by rw [hW7]; exact cell_made4 w6 _ _ 1 _ rfl
  have x2 : W7.cell? ⟨w6.heap.size, 2, none⟩ = some (.string a.s) := by rw [hW7]; exact cell_made4 w6 _ _ 2 _ rfl
  have x3 : W7.cell? ⟨w6.heap.size, 3, none⟩ = some (.slice A6 a.kids.length c6) := by rw [hW7]; exact cell_made4 w6 _ _ 3 _ rfl
  have hb7w := HB6.out.trans (hb7.mono HB6.out.size)
  have c70 := (hb7w.cell (p := ⟨w.heap.size, 0, none⟩) (by show w.heap.size < _; omega)).trans a0
  have c71 := (hb7w.cell (p := ⟨w.heap.size, 1, none⟩) (by show w.heap.size < _; omega)).trans a1
  have c72 := (hb7w.cell (p := ⟨w.heap.size, 2, none⟩) (by show w.heap.size < _; omega)).trans a2
  have c73 := (hb7w.cell (p := ⟨w.heap.size, 3, none⟩) (by show w.heap.size < _; omega)).trans a3
  have d70 := (hb7w.cell (p := ⟨w.heap.size + 1, 0, none⟩) (by show w.heap.size + 1 < _; omega)).trans b0
  have d71 := (hb7w.cell (p := ⟨w.heap.size + 1, 1, none⟩) (by show w.heap.size + 1 < _; omega)).trans b1
  have d72 := (hb7w.cell (p := ⟨w.heap.size + 1, 2, none⟩) (by show w.heap.size + 1 < _; omega)).trans b2
  have d73 := (hb7w.cell (p := ⟨w.heap.size + 1, 3, none⟩) (by show w.heap.size + 1 < _; omega)).trans b3
  clear c50 c51 c52 c53 d50 d51 d52 d53 hO6 hb6'
  have HB7 := Lib.hid hb7
  have HB7w := Lib.hid hb7w
  clear hb7 hb7w c70 c71 c72 c73
  rw [hW7] at d70 d71 d72 d73
  go_wp2_with fail
  rw [← hW7]
  clear hW7
  refine (HT'.out W7 HB7w.out).mono ?_
  rintro r w8 ⟨A8, c8, rfl, hc8, hO8, hb8'⟩
  have HB8 := Lib.hid hb8'
  have HB8w := Lib.hid (HB7w.out.trans (hb8'.mono HB7w.out.size))
  have HO8 := Lib.hid hO8
  have hs8 := hb8'.size
  obtain ⟨W9, hW9⟩ : ∃ W9, W9 = w8.alloc (.cells #[.int .i64 b.kind, .int .i64 b.n, .string b.s, .slice A8 b.kids.length c8] 29) := ⟨_, rfl⟩
  have hb9 : Below w8.heap.size w8 W9 := by rw [hW9]; exact (Below.refl _ w8).alloc (Nat.le_refl _) _
  have hs9 : W9.heap.size = w8.heap.size + 1 := by rw [hW9]; simp
  have y0 : W9.cell? ⟨w8.heap.size, 0, none⟩ = some (.int .i64 b.kind) := by rw [hW9]; exact cell_made4 w8 _ _ 0 _ rfl
  have y1 : W9.cell? ⟨w8.heap.size, 1, none⟩ = some (.int .i64 b.n) := by rw [hW9]; exact cell_made4 w8 _ _ 1 _ rfl
  have y2 : W9.cell? ⟨w8.heap.size, 2, none⟩ = some (.string b.s) := by rw [hW9]; exact cell_made4 w8 _ _ 2 _ rfl
  have y3 : W9.cell? ⟨w8.heap.size, 3, none⟩ = some (.slice A8 b.kids.length c8) := by rw [hW9]; exact cell_made4 w8 _ _ 3 _ rfl
  have HB9 := Lib.hid (HB8.out.trans (hb9.mono HB8.out.size))
  have HB9w := Lib.hid (HB8w.out.trans (hb9.mono HB8w.out.size))
  have c90 := (HB9w.out.cell (p := ⟨w.heap.size, 0, none⟩) (by show w.heap.size < _; omega)).trans a0
  have c91 := (HB9w.out.cell (p := ⟨w.heap.size, 1, none⟩) (by show w.heap.size < _; omega)).trans a1
  have c92 := (HB9w.out.cell (p := ⟨w.heap.size, 2, none⟩) (by show w.heap.size < _; omega)).trans a2
  have c93 := (HB9w.out.cell (p := ⟨w.heap.size, 3, none⟩) (by show w.heap.size < _; omega)).trans a3
  have d90 := (HB9w.out.cell (p := ⟨w.heap.size + 1, 0, none⟩) (by show w.heap.size + 1 < _; omega)).trans b0
  have d91 := (HB9w.out.cell (p := ⟨w.heap.size + 1, 1, none⟩) (by show w.heap.size + 1 < _; omega)).trans b1
  have d92 := (HB9w.out.cell (p := ⟨w.heap.size + 1, 2, none⟩) (by show w.heap.size + 1 < _; omega)).trans b2
  have d93 := (HB9w.out.cell (p := ⟨w.heap.size + 1, 3, none⟩) (by show w.heap.size + 1 < _; omega)).trans b3
  have v90 := (HB9.out.cell (p := ⟨w6.heap.size, 0, none⟩) (by show w6.heap.size < _; omega)).trans x0
  have v91 := (HB9.out.cell (p := ⟨w6.heap.size, 1, none⟩) (by show w6.heap.size < _; omega)).trans x1
  have v92 := (HB9.out.cell (p := ⟨w6.heap.size, 2, none⟩) (by show w6.heap.size < _; omega)).trans x2
  have v93 := (HB9.out.cell (p := ⟨w6.heap.size, 3, none⟩) (by show w6.heap.size < _; omega)).trans x3
  have KA := Lib.hid (HU.out W9 a w5.heap.size w6.heap.size A6 (own_keep a _ _ _ (fun k _ h2 => (HB9.out.block k (by omega)).trans (HB7.out.block k h2)) HO6.out) w6.heap.size (Nat.le_refl _))
  have KB := Lib.hid (HU.out W9 b W7.heap.size w8.heap.size A8 (own_keep b _ _ _ (fun k _ h2 => hb9.block k h2) HO8.out) w8.heap.size (Nat.le_refl _))
  clear d70 d71 d72 d73 hO8 hb8' x0 x1 x2 x3 hb9 HO6 HO8
  rw [hW9] at v90 v91 v92 v93 y0 y1 y2 y3
  go_wp2_with fail
  rw [← hW9] at v90 v91 v92 v93 y0 y1 y2 y3 ⊢
  clear hW9
  refine (HI.out A6 A8 c6 c8 w8.heap.size W9 (KA.out.wide (by omega)) KB.out hc6 hc8 (by omega)).mono ?_
  rintro r w10 ⟨rfl, hb10⟩
  have HB10w := Lib.hid (HB9w.out.trans (hb10.mono HB9w.out.size))
  have p0 := (hb10.cell (p := ⟨w6.heap.size, 0, none⟩) (by show w6.heap.size < _; omega)).trans v90
  have p1 := (hb10.cell (p := ⟨w6.heap.size, 1, none⟩) (by show w6.heap.size < _; omega)).trans v91
  have p2 := (hb10.cell (p := ⟨w6.heap.size, 2, none⟩) (by show w6.heap.size < _; omega)).trans v92
  have p3 := (hb10.cell (p := ⟨w6.heap.size, 3, none⟩) (by show w6.heap.size < _; omega)).trans v93
  have r0 := (hb10.cell (p := ⟨w8.heap.size, 0, none⟩) (by show w8.heap.size < _; omega)).trans y0
  have r1 := (hb10.cell (p := ⟨w8.heap.size, 1, none⟩) (by show w8.heap.size < _; omega)).trans y1
  have r2 := (hb10.cell (p := ⟨w8.heap.size, 2, none⟩) (by show w8.heap.size < _; omega)).trans y2
  have r3 := (hb10.cell (p := ⟨w8.heap.size, 3, none⟩) (by show w8.heap.size < _; omega)).trans y3
  have s0 := (hb10.cell (p := ⟨w.heap.size, 0, none⟩) (by show w.heap.size < _; have := HB9w.out.size; omega)).trans c90
  have s1 := (hb10.cell (p := ⟨w.heap.size, 1, none⟩) (by show w.heap.size < _; have := HB9w.out.size; omega)).trans c91
  have s2 := (hb10.cell (p := ⟨w.heap.size, 2, none⟩) (by show w.heap.size < _; have := HB9w.out.size; omega)).trans c92
  have s3 := (hb10.cell (p := ⟨w.heap.size, 3, none⟩) (by show w.heap.size < _; have := HB9w.out.size; omega)).trans c93
  have t0 := (hb10.cell (p := ⟨w.heap.size + 1, 0, none⟩) (by show w.heap.size + 1 < _; have := HB9w.out.size; omega)).trans d90
  have t1 := (hb10.cell (p := ⟨w.heap.size + 1, 1, none⟩) (by show w.heap.size + 1 < _; have := HB9w.out.size; omega)).trans d91
  have t2 := (hb10.cell (p := ⟨w.heap.size + 1, 2, none⟩) (by show w.heap.size + 1 < _; have := HB9w.out.size; omega)).trans d92
  have t3 := (hb10.cell (p := ⟨w.heap.size + 1, 3, none⟩) (by show w.heap.size + 1 < _; have := HB9w.out.size; omega)).trans d93
  have g1 : w6.heap.size < w10.heap.size := by have := hb10.size; omega
  have g2 : w8.heap.size < w10.heap.size := by have := hb10.size; omega
  have g3 : w.heap.size < w10.heap.size := by have := HB10w.out.size; omega
  have g4 : w.heap.size + 1 < w10.heap.size := by have := HB10w.out.size; omega
  have KA2 := Lib.hid (KA.out.kids.keep (hb10.mono (by omega)))
  have KB2 := Lib.hid (KB.out.kids.keep (hb10.mono (by omega)))
  have HBF := Lib.hid (hb0.trans (HB10w.out.mono hb0.size))
  clear hb10 c90 c91 c92 c93 d90 d91 d92 d93 v90 v91 v92 v93 y0 y1 y2 y3 HI HS HU KA KB
  go_wp2_with fail
  go_region_held3 (fun w' => w'.cell? ⟨w6.heap.size, 0, none⟩ = some (.int .i64 a.kind) ∧ w'.cell? ⟨w6.heap.size, 1, none⟩ = some (.int .i64 a.n) ∧ w'.cell? ⟨w6.heap.size, 2, none⟩ = some (.string a.s) ∧ w'.cell? ⟨w6.heap.size, 3, none⟩ = some (.slice A6 a.kids.length c6) ∧ w'.cell? ⟨w.heap.size, 0, none⟩ = some (.int .i64 a.kind) ∧ w'.cell? ⟨w.heap.size, 1, none⟩ = some (.int .i64 a.n) ∧ w'.cell? ⟨w.heap.size, 2, none⟩ = some (.string a.s) ∧ w'.cell? ⟨w.heap.size, 3, none⟩ = some (.slice A a.kids.length c) ∧ Below w10.heap.size w10 w')
    (first | exact ⟨p0, p1, p2, p3, s0, s1, s2, s3, (Below.refl _ w10).drew⟩ | exact ⟨(hb12.cell (p := ⟨w6.heap.size, 0, none⟩) g1).trans p0, (hb12.cell (p := ⟨w6.heap.size, 1, none⟩) g1).trans p1, (hb12.cell (p := ⟨w6.heap.size, 2, none⟩) g1).trans p2, (hb12.cell (p := ⟨w6.heap.size, 3, none⟩) g1).trans p3, (hb12.cell (p := ⟨w.heap.size, 0, none⟩) g3).trans s0, (hb12.cell (p := ⟨w.heap.size, 1, none⟩) g3).trans s1, (hb12.cell (p := ⟨w.heap.size, 2, none⟩) g3).trans s2, (hb12.cell (p := ⟨w.heap.size, 3, none⟩) g3).trans s3, hb12⟩ | exact ⟨(hb11.cell (p := ⟨w6.heap.size, 0, none⟩) g1).trans p0, (hb11.cell (p := ⟨w6.heap.size, 1, none⟩) g1).trans p1, (hb11.cell (p := ⟨w6.heap.size, 2, none⟩) g1).trans p2, (hb11.cell (p := ⟨w6.heap.size, 3, none⟩) g1).trans p3, (hb11.cell (p := ⟨w.heap.size, 0, none⟩) g3).trans s0, (hb11.cell (p := ⟨w.heap.size, 1, none⟩) g3).trans s1, (hb11.cell (p := ⟨w.heap.size, 2, none⟩) g3).trans s2, (hb11.cell (p := ⟨w.heap.size, 3, none⟩) g3).trans s3, hb11⟩)
    (first | (go_at_call 6; refine (HT.out _ (HB10w.out.trans ((Below.refl _ w10).drew.mono HB10w.out.size))).mono ?_; rintro r w11 ⟨A11, c11, rfl, hc11, hO11, hb11'⟩; have hb11 : Below w10.heap.size w10 w11 := (Below.refl _ w10).drew.trans hb11'; have HQ11 := Lib.hid (fun (W : World) (X : Below w11.heap.size w11 W) => HQ.out A6 A11 c6 c11 w11.heap.size W ((KA2.out.keep ((hb11.trans (X.mono hb11.size)).mono (by omega))).wide (by have := hb11.size; omega)) ((HK.out w11 a _ _ A11 hO11 w11.heap.size (Nat.le_refl _)).keep X) hc6 hc11 X.size); clear hO11 hb11') | (go_at_call 8; (first | refine (HQ11.out _ (Below.refl _ w11)).mono ?_ | refine (HQ11.out _ (Below.refl _ w11).drew).mono ?_); rintro r w12 ⟨rfl, hb12'⟩; have hb12 : Below w10.heap.size w10 w12 := hb11.trans (hb12'.mono hb11.size)))
  rename_i hh12
  go_wp2_with fail
  have HB12w := Lib.hid (HB10w.out.trans (hb12.mono HB10w.out.size))
  have KB3 := Lib.hid (KB2.out.keep (hb12.mono (Nat.le_of_lt g2)))
  have HBF2 := Lib.hid (HBF.out.trans (hb12.mono HBF.out.size))
  have r20 := (hb12.cell (p := ⟨w8.heap.size, 0, none⟩) g2).trans r0
  have t20 := (hb12.cell (p := ⟨w.heap.size + 1, 0, none⟩) g4).trans t0
  have r21 := (hb12.cell (p := ⟨w8.heap.size, 1, none⟩) g2).trans r1
  have t21 := (hb12.cell (p := ⟨w.heap.size + 1, 1, none⟩) g4).trans t1
  have r22 := (hb12.cell (p := ⟨w8.heap.size, 2, none⟩) g2).trans r2
  have t22 := (hb12.cell (p := ⟨w.heap.size + 1, 2, none⟩) g4).trans t2
  have r23 := (hb12.cell (p := ⟨w8.heap.size, 3, none⟩) g2).trans r3
  have t23 := (hb12.cell (p := ⟨w.heap.size + 1, 3, none⟩) g4).trans t3
  have g2' : w8.heap.size < w12.heap.size := by have := hb12.size; omega
  have g4' : w.heap.size + 1 < w12.heap.size := by have := hb12.size; omega
  clear HBF hb12 p0 p1 p2 p3 r0 r1 r2 r3 s0 s1 s2 s3 t0 t1 t2 t3
  go_region_held3 (fun w' => w'.cell? ⟨w8.heap.size, 0, none⟩ = some (.int .i64 b.kind) ∧ w'.cell? ⟨w8.heap.size, 1, none⟩ = some (.int .i64 b.n) ∧ w'.cell? ⟨w8.heap.size, 2, none⟩ = some (.string b.s) ∧ w'.cell? ⟨w8.heap.size, 3, none⟩ = some (.slice A8 b.kids.length c8) ∧ w'.cell? ⟨w.heap.size + 1, 0, none⟩ = some (.int .i64 b.kind) ∧ w'.cell? ⟨w.heap.size + 1, 1, none⟩ = some (.int .i64 b.n) ∧ w'.cell? ⟨w.heap.size + 1, 2, none⟩ = some (.string b.s) ∧ w'.cell? ⟨w.heap.size + 1, 3, none⟩ = some (.slice A' b.kids.length c') ∧ Below w12.heap.size w12 w')
    (first | exact ⟨r20, r21, r22, r23, t20, t21, t22, t23, (Below.refl _ w12).drew⟩ | exact ⟨(hb14.cell (p := ⟨w8.heap.size, 0, none⟩) g2').trans r20, (hb14.cell (p := ⟨w8.heap.size, 1, none⟩) g2').trans r21, (hb14.cell (p := ⟨w8.heap.size, 2, none⟩) g2').trans r22, (hb14.cell (p := ⟨w8.heap.size, 3, none⟩) g2').trans r23, (hb14.cell (p := ⟨w.heap.size + 1, 0, none⟩) g4').trans t20, (hb14.cell (p := ⟨w.heap.size + 1, 1, none⟩) g4').trans t21, (hb14.cell (p := ⟨w.heap.size + 1, 2, none⟩) g4').trans t22, (hb14.cell (p := ⟨w.heap.size + 1, 3, none⟩) g4').trans t23, hb14⟩ | exact ⟨(hb13.cell (p := ⟨w8.heap.size, 0, none⟩) g2').trans r20, (hb13.cell (p := ⟨w8.heap.size, 1, none⟩) g2').trans r21, (hb13.cell (p := ⟨w8.heap.size, 2, none⟩) g2').trans r22, (hb13.cell (p := ⟨w8.heap.size, 3, none⟩) g2').trans r23, (hb13.cell (p := ⟨w.heap.size + 1, 0, none⟩) g4').trans t20, (hb13.cell (p := ⟨w.heap.size + 1, 1, none⟩) g4').trans t21, (hb13.cell (p := ⟨w.heap.size + 1, 2, none⟩) g4').trans t22, (hb13.cell (p := ⟨w.heap.size + 1, 3, none⟩) g4').trans t23, hb13⟩)
    (first | (go_at_call 6; refine (HT'.out _ (HB12w.out.trans ((Below.refl _ w12).drew.mono HB12w.out.size))).mono ?_; rintro r w13 ⟨A13, c13, rfl, hc13, hO13, hb13'⟩; have hb13 : Below w12.heap.size w12 w13 := (Below.refl _ w12).drew.trans hb13'; have HQ13 := Lib.hid (fun (W : World) (X : Below w13.heap.size w13 W) => HQ'.out A8 A13 c8 c13 w13.heap.size W ((KB3.out.keep ((hb13.trans (X.mono hb13.size)).mono (by omega))).wide (by have := hb13.size; omega)) ((HK.out w13 b _ _ A13 hO13 w13.heap.size (Nat.le_refl _)).keep X) hc8 hc13 X.size); clear hO13 hb13') | (go_at_call 8; (first | refine (HQ13.out _ (Below.refl _ w13)).mono ?_ | refine (HQ13.out _ (Below.refl _ w13).drew).mono ?_); rintro r w14 ⟨rfl, hb14'⟩; have hb14 : Below w12.heap.size w12 w14 := hb13.trans (hb14'.mono hb13.size)))
  rename_i hh14
  go_wp2_with fail
  go_ret
  exact ⟨rfl, HBF2.out.trans (hb14.mono HBF2.out.size)⟩
theorem own : ownKnob Try.prog.godebug = none := by kernel_rfl
theorem laidOut : laidOutB Try.prog = true := by kernel_rfl

set_option linter.unusedVariables false in
set_option maxRecDepth 100000 in
theorem lifted (os : Os) (started : os.Started) (H : Type) (enc : TypeId × Value → H) :
    ReturnsInHanded {} Try.checked os 3 .any (Rows.fnExactExprSameSpec.pre6 enc Try.prog Try.f3 Rows.fnExactExprSameRow.domain false) (Rows.fnExactExprSameSpec.post enc Try.prog Try.f3 false true false false) := by
  refine returnsInHanded_of_change (C := Try.checked) own started (by kernel_rfl) Try.func3
    (ChangeSpec.witness6 (enc := enc) (C := Try.checked) false ⟨#[], #[.agg #[.int .i64 0, .int .i64 0, .string ByteArray.empty, .slice none 0 0], .agg #[.int .i64 0, .int .i64 0, .string ByteArray.empty, .slice none 0 0]], []⟩ 8 (by kernel_rfl) (by kernel_rfl) (by kernel_rfl) (by kernel_rfl)) ?_
  intro W base args ds gs before hval0 hW hcnd _
  have hval : ∀ (j : Nat) t v, Try.f3.params[j]? = some t → args[j]? = some v → Value.okWide Try.prog W .any base t v := hval0
  have hW' := hW
  obtain ⟨p, q, hA0, hV, rfl, hfz, hnd⟩ := hW
  have hA : DataW.TrodAll enc Try.prog W 0 (fun _ => true) true Try.f3.params.toList args.toList ds p := hA0
  rw [Try.params3] at hA hval
  obtain ⟨v0, vs0, d0, ds0, p0, q0, hargs, rfl, rfl, h0, r0⟩ := trodAll_cons hA
  obtain ⟨v1, vs1, d1, ds1, p1, q1, rfl, rfl, rfl, h1, r1⟩ := trodAll_cons r0
  obtain ⟨rfl, rfl, rfl⟩ := trodAll_nil r1
  obtain rfl : args = #[v0, v1] := by cases args; simp_all
  obtain ⟨rfl, rfl⟩ := trodVars_none hV
  have k0 := h0
  have lt0 : ∀ x ∈ p0, x.block < W.heap.size := by obtain ⟨m, hm⟩ := k0; exact DataW.trod_lt m _ _ _ hm
  have k1 := h1
  have lt1 : ∀ x ∈ p1, x.block < W.heap.size := by obtain ⟨m, hm⟩ := k1; exact DataW.trod_lt m _ _ _ hm
  obtain ⟨a0, A0, c0, e0, w0⟩ := open_ex (hval 0 24 v0 rfl rfl) h0
  subst e0
  obtain ⟨a1, A1, c1, e1, w1⟩ := open_ex (hval 1 24 v1 rfl rfl) h1
  subst e1
  clear hA0 hval0
  refine (walk a0 A0 c0 a1 A1 c1 W w0 w1).mono fun e W' ⟨he, bel⟩ => ?_
  subst he
  exact ⟨_, rfl, _, _, _, [], _, [], hW', trodAll_mk1 (shut_bool Try.underlying4 _), (trodAll_cons_mk (Below.trod laidOut (by kernel_rfl) (of_decide_eq_true (by kernel_rfl)) k0 bel lt0) (trodAll_cons_mk (Below.trod laidOut (by kernel_rfl) (of_decide_eq_true (by kernel_rfl)) k1 bel lt1) trodAll_mk0)), rfl, bel.frame _, fun h => by cases h⟩

theorem over : Rows.fnExactExprSameRow.holds Try.pinned (OpenSpec.ofChange Rows.fnExactExprSameSpec) :=
  OpenClaim.holds_of_wide 3 Try.f3 rfl rfl rfl rfl rfl rfl rfl ⟨rfl, rfl, rfl, rfl, rfl⟩ rfl rfl rfl rfl rfl (by kernel_rfl) Try.func3 (by kernel_rfl)
    (of_decide_eq_true (by kernel_rfl)) (by unfold Func.isWrapper; first | (rw [if_pos (by decide +kernel)]; kernel_rfl) | (rw [if_neg (by decide +kernel)]; exact ⟨rfl, rfl⟩))
    (fun os started H enc _ => lifted os started H enc)
end Go.Proofs.Ytggdlldagaggiaa.fnExactExprSame
namespace Go.Proofs.Ytggdlldagaggiaa

/-- The given statement. -/
theorem fnExactExprSame_proved : Rows.FnExactExprSameSaid := fnExactExprSame.over
#print axioms fnExactExprSame_proved
end Go.Proofs.Ytggdlldagaggiaa
