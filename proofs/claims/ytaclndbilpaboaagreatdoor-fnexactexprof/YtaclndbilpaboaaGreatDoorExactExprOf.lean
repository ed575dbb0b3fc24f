/-
  'laws.FnExactExprOf' returns true at whatever is to be reckoned and all names and numbers: impl.ExprOf and the model's ExprOf answer the same, and nothing is written into an argument.
  Conditions: the library's variables hold what their initialisers lay (tied to the program's text); every value of laws.Expr, every two lists.
-/
import Derived.Test.YtaclndbilpaboaaGreatDoorSpecOf2
import Derived.Test.YtaclndbilpaboaaGreatDoorMethOf
import Derived.Test.YtaclndbilpaboaaGreatDoorOwnLaws
import Derived.Test.YtaclndbilpaboaaGreatDoorEqEx
import Derived.Test.YtaclndbilpaboaaGreatDoorOpenEx
import Derived.Test.YtaclndbilpaboaaGreatDoorLaid
import Derived.Test.YtaclndbilpaboaaGreatDoorCards
import Derived.Test.YtaclndbilpaboaaGreatDoorTie
import Derived.Test.YtaclndbilpaboaaGreatDoorFacts
import Derived.Test.YtaclndbilpaboaaGreatDoorRows
import Derived.WalkKit
import Derived.ProofKit
import Derived.OpenShut
import Derived.ShutString
import Derived.ChangeOld
import Derived.Below
import Derived.Lib.SmallJoins
import Derived.SliceStrings
namespace Go.Proofs.YtaclndbilpaboaaGreatDoor.fnExactExprOf
open Go.ChangeShapes Go.WideShapes Go.ChangeAt Go.RowKit Go.Joins
open Go.ChangeMaps (open_string shut_string)

theorem toStr_sl (A : Option Addr) (c : Nat) (ss : List ByteArray) (w : World) (hl : ss.length ≤ 2 ^ 40) (hA : SlIs w A (ss.map strV)) : Calls Tryz.prog 11 #[.slice A ss.length c] w fun e w' => ∃ A' c', e = .returned (.slice A' ss.length c') ∧ SlIs w' A' (ss.map strV) ∧ Below w.heap.size w w' := by
  refine (toStringS_any A c ss w hl hA).mono ?_
  rintro e w' ⟨v, rfl, hown, hb⟩
  obtain ⟨A', c', rfl, _⟩ := own_slice hown
  rw [List.length_map] at hown ⊢
  exact ⟨A', c', rfl, SlIs.own hown, hb⟩
theorem toInt_sl (A : Option Addr) (c : Nat) (zs : List Int) (w : World) (hl : zs.length ≤ 2 ^ 40) (hA : SlIs w A (zs.map intV)) : Calls Tryz.prog 16 #[.slice A zs.length c] w fun e w' => ∃ A' c', e = .returned (.slice A' zs.length c') ∧ SlIs w' A' (zs.map intV) ∧ Below w.heap.size w w' := by
  refine (toIntS_any A c zs w hl hA).mono ?_
  rintro e w' ⟨v, rfl, hown, hb⟩
  obtain ⟨A', c', rfl, _⟩ := own_slice hown
  rw [List.length_map] at hown ⊢
  exact ⟨A', c', rfl, SlIs.own hown, hb⟩
set_option maxRecDepth 100000 in
set_option maxHeartbeats 4000000 in
theorem walk (e : Ex) (A : Option Addr) (c : Nat) (An : Option Addr) (ln cn : Nat) (ss : List ByteArray) (Av : Option Addr) (lv cv : Nat) (vs : List Int) (w : World) (hE : InEx w A c e) (hNN : IsStrs w An ln ss ∧ ln ≤ cn) (hVV : IsInts w Av lv vs ∧ lv ≤ cv) (_ : LaidW w) :
    Calls Tryz.prog 4 #[.agg #[.int .i64 e.kind, .int .i64 e.n, .string e.s, .slice A e.kids.length c], .slice An ln cn, .slice Av lv cv] w fun r w' => r = .returned (.bool true) ∧ Below w.heap.size w w' := by
  obtain ⟨hfit, hA, hc⟩ := hE
  obtain ⟨⟨rfl, hmN, hN, hszN⟩, hcn⟩ := hNN
  obtain ⟨⟨rfl, hmV, hV, hszV⟩, hcv⟩ := hVV
  have hkl : e.kids.length ≤ maxLen := by cases e; exact hfit.2.1
  have hmN' := hmN
  have hmV' := hmV
  unfold maxLen at hkl hmN' hmV'
  obtain ⟨W0, hW0⟩ : ∃ W0, W0 = w.alloc (.cells #[.int .i64 e.kind, .int .i64 e.n, .string e.s, .slice A e.kids.length c] 24) := ⟨_, rfl⟩
  have hb0 : Below w.heap.size w W0 := by rw [hW0]; exact (Below.refl _ w).alloc (Nat.le_refl _) _
  have hs0 : w.heap.size < W0.heap.size := by rw [hW0]; simp
  have a0 : W0.cell? ⟨w.heap.size, 0, none⟩ = some (.int .i64 e.kind) := by rw [hW0]; exact cell_made4 w _ _ 0 _ rfl
  have a1 : W0.cell? ⟨w.heap.size, 1, none⟩ = some (.int .i64 e.n) := by rw [hW0]; exact cell_made4 w _ _ 1 _ rfl
  have a2 : W0.cell? ⟨w.heap.size, 2, none⟩ = some (.string e.s) := by rw [hW0]; exact cell_made4 w _ _ 2 _ rfl
  have a3 : W0.cell? ⟨w.heap.size, 3, none⟩ = some (.slice A e.kids.length c) := by rw [hW0]; exact cell_made4 w _ _ 3 _ rfl
  have hA0 := hA.keep hb0
  have hN0 := hN.below hb0
  have hV0 := hV.below hb0
  have HSz := Lib.hid (szExpr_any e A c w.heap.size 1048576 W0 hfit hA0 hc hb0.size (by omega) (by omega))
  have HSN := Lib.hid (fun (left : Int) (W : World) (hW : Below W0.heap.size W0 W) (h0 : 0 ≤ left) (h1 : left ≤ 2 ^ 40) => szStringS_eq An cn ss.length left ss W ⟨rfl, hmN, hN0.below hW, hszN⟩ h0 h1)
  have HTo := Lib.hid (fun (W : World) (hW : Below W0.heap.size W0 W) (hw : e.wt ≤ 2 ^ 40) => toExpr_any e A c w.heap.size W (hA0.keep (hW.mono hb0.size)) hc (Nat.le_trans hb0.size hW.size) hw)
  have HTN := Lib.hid (fun (W : World) (hW : Below W0.heap.size W0 W) (h : ss.length ≤ 2 ^ 40) => toStr_sl An cn ss W h (hN0.below hW))
  have HTV := Lib.hid (fun (W : World) (hW : Below W0.heap.size W0 W) (h : vs.length ≤ 2 ^ 40) => toInt_sl Av cv vs W h (hV0.below hW))
  clear hfit hA hA0 hN hV hN0 hV0 hszN hszV hmN hmV
  by_cases hbig : 1048576 < vs.length
  · have q : decide ((1048576 : Int) < (vs.length : Int)) = true := by simp; omega
    go_enter Tryz.func4, Tryz.ntmps4
    go_wp2_with fail
    rw [← hW0]
    go_ret
    exact ⟨rfl, hb0⟩
  have qb : decide ((1048576 : Int) < (vs.length : Int)) = false := by simp; omega
  have hlv : vs.length ≤ 2 ^ 40 := by omega
  go_enter Tryz.func4, Tryz.ntmps4
  go_wp2_with fail
  rw [← hW0]
  refine HSz.out.mono ?_
  rintro r w1 ⟨z, rfl, hz, hzl, hb1⟩
  have p0 := (hb1.cell (p := ⟨w.heap.size, 0, none⟩) hs0).trans a0
  have p1 := (hb1.cell (p := ⟨w.heap.size, 1, none⟩) hs0).trans a1
  have p2 := (hb1.cell (p := ⟨w.heap.size, 2, none⟩) hs0).trans a2
  have p3 := (hb1.cell (p := ⟨w.heap.size, 3, none⟩) hs0).trans a3
  by_cases hneg : z < 0
  · have q : decide (z < 0) = true := by simpa using hneg
    go_wp2_with fail
    go_ret
    exact ⟨rfl, hb0.trans (hb1.mono hb0.size)⟩
  have q0 : decide (z < 0) = false := by simpa using hneg
  have hwt : e.wt ≤ 2 ^ 40 := by have := hz (by omega); omega
  clear hz HSz
  go_wp2_with fail
  refine (HSN.out z w1 hb1 (by omega) (by omega)).mono ?_
  rintro r w1' ⟨z1, rfl, hz1, rfl⟩
  by_cases hneg1 : z1 < 0
  · have q : decide (z1 < 0) = true := by simpa using hneg1
    go_wp2_with fail
    go_ret
    exact ⟨rfl, hb0.trans (hb1.mono hb0.size)⟩
  have q1 : decide (z1 < 0) = false := by simpa using hneg1
  have hln : ss.length ≤ 2 ^ 40 := by have := hz1 (by omega); have := length_le_tot ss; omega
  clear HSN hz1
  have HT := Lib.hid (fun (W : World) (hW : Below W0.heap.size W0 W) => HTo.out W hW hwt)
  have HK := Lib.hid (fun (W : World) (lo hi : Nat) (A' : Option Addr) (h : OwnE W e lo hi A') (B : Nat) (hB : hi ≤ B) => own_kids e lo hi A' B h hB)
  have HQ := Lib.hid (fun (A1 A2 : Option Addr) (c1 c2 B : Nat) (W : World) (h1 : KidsAt W B A1 e.kids) (h2 : KidsAt W B A2 e.kids) (h3 : e.kids.length ≤ c1) (h4 : e.kids.length ≤ c2) (h5 : B ≤ W.heap.size) => eqExpr_same e A1 A2 c1 c2 B W h1 h2 h3 h4 h5 hwt)
  have HS := Lib.hid (fun (A' : Option Addr) (c' B : Nat) (A1 A2 : Option Addr) (c1 c2 : Nat) (W : World) (h1 : KidsAt W B A' e.kids) (h2 : e.kids.length ≤ c') (h3 : B ≤ W.heap.size) (h4 : SlIs W A1 (ss.map strV)) (h5 : SlIs W A2 (vs.map intV)) => specExprOf_any e A' c' B A1 A2 c1 c2 ss vs W h1 h2 h3 hwt hln hlv h4 h5)
  have HI := Lib.hid (fun (A' : Option Addr) (c' B : Nat) (A1 A2 : Option Addr) (c1 c2 : Nat) (W : World) (h1 : KidsAt W B A' e.kids) (h2 : e.kids.length ≤ c') (h3 : B ≤ W.heap.size) (h4 : SlIs W A1 (ss.map strV)) (h5 : SlIs W A2 (vs.map intV)) => exprOf_any e A' c' B A1 A2 c1 c2 ss vs W h1 h2 h3 hwt hln hlv h4 h5)
  have HTN2 := Lib.hid (fun (W : World) (hW : Below W0.heap.size W0 W) => HTN.out W hW hln)
  have HTV2 := Lib.hid (fun (W : World) (hW : Below W0.heap.size W0 W) => HTV.out W hW hlv)
  have HQN := Lib.hid (fun (A1 A2 : Option Addr) (c1 c2 : Nat) (W : World) (h1 : SlIs W A1 (ss.map strV)) (h2 : SlIs W A2 (ss.map strV)) => eqStringS_same A1 A2 c1 c2 ss W hln h1 h2)
  have HQV := Lib.hid (fun (A1 A2 : Option Addr) (c1 c2 : Nat) (W : World) (h1 : SlIs W A1 (vs.map intV)) (h2 : SlIs W A2 (vs.map intV)) => eqIntS_same A1 A2 c1 c2 vs W hlv h1 h2)
  clear HTo HTN HTV hwt
  generalize ofE e ss vs = R at *
  go_wp2_with fail
  refine (HT.out w1 hb1).mono ?_
  rintro r w2 ⟨A2, c2, rfl, hc2, hO2, hb2'⟩
  have hb2 := hb1.trans (hb2'.mono hb1.size)
  have K2 := Lib.hid (HK.out w2 _ _ A2 hO2 w2.heap.size (Nat.le_refl _))
  clear hO2 hb2' p0 p1 p2 p3
  go_wp2_with fail
  refine (HTN2.out w2 hb2).mono ?_
  rintro r w3 ⟨A3, c3, rfl, s3, hb3'⟩
  have hb3 := hb2.trans (hb3'.mono hb2.size)
  have K3 := Lib.hid (K2.out.keep hb3')
  have S3 := Lib.hid s3
  clear s3 K2
  go_wp2_with fail
  refine (HTV2.out w3 hb3).mono ?_
  rintro r w4 ⟨A4, c4, rfl, s4, hb4'⟩
  have hb4 := hb3.trans (hb4'.mono hb3.size)
  have K4 := Lib.hid (K3.out.keep (hb4'.mono hb3'.size))
  have S34 := Lib.hid (S3.out.below hb4')
  have S4 := Lib.hid s4
  clear s4 K3 S3
  go_wp2_with fail
  refine (HS.out A2 c2 w2.heap.size A3 A4 c3 c4 w4 K4.out hc2 (Nat.le_trans hb3'.size hb4'.size) S34.out S4.out).mono ?_
  rintro r w5 ⟨rfl, hb5'⟩
  have hb5 := hb4.trans (hb5'.mono hb4.size)
  have p0 := (hb5.cell (p := ⟨w.heap.size, 0, none⟩) hs0).trans a0
  have p1 := (hb5.cell (p := ⟨w.heap.size, 1, none⟩) hs0).trans a1
  have p2 := (hb5.cell (p := ⟨w.heap.size, 2, none⟩) hs0).trans a2
  have p3 := (hb5.cell (p := ⟨w.heap.size, 3, none⟩) hs0).trans a3
  clear K4 S34 S4 hb3' hb4' hb5'
  go_wp2_with fail
  refine (HT.out w5 hb5).mono ?_
  rintro r w6 ⟨A6, c6, rfl, hc6, hO6, hb6'⟩
  have hb6 := hb5.trans (hb6'.mono hb5.size)
  have K6 := HK.out w6 _ _ A6 hO6 w6.heap.size (Nat.le_refl _)
  obtain ⟨W7, hW7⟩ : ∃ W7, W7 = w6.alloc (.cells #[.int .i64 e.kind, .int .i64 e.n, .string e.s, .slice A6 e.kids.length c6] 31) := ⟨_, rfl⟩
  have hb7' : Below w6.heap.size w6 W7 := by rw [hW7]; exact (Below.refl _ w6).alloc (Nat.le_refl _) _
  have hs7 : w6.heap.size < W7.heap.size := by rw [hW7]; simp
  have hb7 := hb6.trans (hb7'.mono hb6.size)
  have K7 := Lib.hid (K6.keep hb7')
  have b0 : W7.cell? ⟨w6.heap.size, 0, none⟩ = some (.int .i64 e.kind) := by rw [hW7]; exact cell_made4 w6 _ _ 0 _ rfl
  have b1 : W7.cell? ⟨w6.heap.size, 1, none⟩ = some (.int .i64 e.n) := by rw [hW7]; exact cell_made4 w6 _ _ 1 _ rfl
  have b2 : W7.cell? ⟨w6.heap.size, 2, none⟩ = some (.string e.s) := by rw [hW7]; exact cell_made4 w6 _ _ 2 _ rfl
  have b3 : W7.cell? ⟨w6.heap.size, 3, none⟩ = some (.slice A6 e.kids.length c6) := by rw [hW7]; exact cell_made4 w6 _ _ 3 _ rfl
  clear hO6 hb6' K6 p0 p1 p2 p3
  go_wp2_with fail
  rw [← hW7]
  refine (HTN2.out W7 hb7).mono ?_
  rintro r w8 ⟨A8, c8, rfl, s8, hb8'⟩
  have hb8 := hb7.trans (hb8'.mono hb7.size)
  have S8 := Lib.hid s8
  clear s8 hW7
  go_wp2_with fail
  refine (HTV2.out w8 hb8).mono ?_
  rintro r w9 ⟨A9, c9, rfl, s9, hb9'⟩
  have hb9 := hb8.trans (hb9'.mono hb8.size)
  have hb79 := hb8'.trans (hb9'.mono hb8'.size)
  have S89 := Lib.hid (S8.out.below hb9')
  have S9 := Lib.hid s9
  have K9 := Lib.hid (K7.out.keep (hb79.mono hb7'.size))
  have u0 := (hb79.cell (p := ⟨w6.heap.size, 0, none⟩) hs7).trans b0
  have u1 := (hb79.cell (p := ⟨w6.heap.size, 1, none⟩) hs7).trans b1
  have u2 := (hb79.cell (p := ⟨w6.heap.size, 2, none⟩) hs7).trans b2
  have u3 := (hb79.cell (p := ⟨w6.heap.size, 3, none⟩) hs7).trans b3
  clear s9 S8 K7
  go_wp2_with fail
  refine (HI.out A6 c6 w6.heap.size A8 A9 c8 c9 w9 K9.out hc6 (Nat.le_trans hb7'.size hb79.size) S89.out S9.out).mono ?_
  rintro r w10 ⟨rfl, hb10'⟩
  have hb10 := hb9.trans (hb10'.mono hb9.size)
  have hb710 := hb79.trans (hb10'.mono hb79.size)
  have S8x := Lib.hid (S89.out.below hb10')
  have S9x := Lib.hid (S9.out.below hb10')
  have K10 := Lib.hid (K9.out.keep (hb10'.mono (Nat.le_trans hb7'.size hb79.size)))
  have x0 := (hb710.cell (p := ⟨w6.heap.size, 0, none⟩) hs7).trans b0
  have x1 := (hb710.cell (p := ⟨w6.heap.size, 1, none⟩) hs7).trans b1
  have x2 := (hb710.cell (p := ⟨w6.heap.size, 2, none⟩) hs7).trans b2
  have x3 := (hb710.cell (p := ⟨w6.heap.size, 3, none⟩) hs7).trans b3
  have y0 := (hb10.cell (p := ⟨w.heap.size, 0, none⟩) hs0).trans a0
  have y1 := (hb10.cell (p := ⟨w.heap.size, 1, none⟩) hs0).trans a1
  have y2 := (hb10.cell (p := ⟨w.heap.size, 2, none⟩) hs0).trans a2
  have y3 := (hb10.cell (p := ⟨w.heap.size, 3, none⟩) hs0).trans a3
  have g1 : w6.heap.size < w10.heap.size := by have := hb710.size; omega
  have g2 : w.heap.size < w10.heap.size := by have := hb10.size; omega
  have HB := Lib.hid (hb0.trans (hb10.mono hb0.size))
  clear u0 u1 u2 u3 b0 b1 b2 b3 a0 a1 a2 a3 hW0 K9 S89 S9 HS HI hb10' hb710 hb79 hb9' hb8' hb7' hb1 hb2 hb3 hb4 hb5 hb6 hb7 hb8 hb9
  have qq : (R.getD 0 != R.getD 0) = false := by simp
  have qr : (R.isSome != R.isSome) = false := by simp
  go_wp2_with fail
  go_region_held3 (fun w' => w'.cell? ⟨w6.heap.size, 0, none⟩ = some (.int .i64 e.kind) ∧ w'.cell? ⟨w6.heap.size, 1, none⟩ = some (.int .i64 e.n) ∧ w'.cell? ⟨w6.heap.size, 2, none⟩ = some (.string e.s) ∧ w'.cell? ⟨w6.heap.size, 3, none⟩ = some (.slice A6 e.kids.length c6) ∧ w'.cell? ⟨w.heap.size, 0, none⟩ = some (.int .i64 e.kind) ∧ w'.cell? ⟨w.heap.size, 1, none⟩ = some (.int .i64 e.n) ∧ w'.cell? ⟨w.heap.size, 2, none⟩ = some (.string e.s) ∧ w'.cell? ⟨w.heap.size, 3, none⟩ = some (.slice A e.kids.length c) ∧ Below w10.heap.size w10 w')
    (first | exact ⟨x0, x1, x2, x3, y0, y1, y2, y3, (Below.refl _ w10).drew⟩ | exact ⟨(hb12.cell (p := ⟨w6.heap.size, 0, none⟩) g1).trans x0, (hb12.cell (p := ⟨w6.heap.size, 1, none⟩) g1).trans x1, (hb12.cell (p := ⟨w6.heap.size, 2, none⟩) g1).trans x2, (hb12.cell (p := ⟨w6.heap.size, 3, none⟩) g1).trans x3, (hb12.cell (p := ⟨w.heap.size, 0, none⟩) g2).trans y0, (hb12.cell (p := ⟨w.heap.size, 1, none⟩) g2).trans y1, (hb12.cell (p := ⟨w.heap.size, 2, none⟩) g2).trans y2, (hb12.cell (p := ⟨w.heap.size, 3, none⟩) g2).trans y3, hb12⟩ | exact ⟨(hb11.cell (p := ⟨w6.heap.size, 0, none⟩) g1).trans x0, (hb11.cell (p := ⟨w6.heap.size, 1, none⟩) g1).trans x1, (hb11.cell (p := ⟨w6.heap.size, 2, none⟩) g1).trans x2, (hb11.cell (p := ⟨w6.heap.size, 3, none⟩) g1).trans x3, (hb11.cell (p := ⟨w.heap.size, 0, none⟩) g2).trans y0, (hb11.cell (p := ⟨w.heap.size, 1, none⟩) g2).trans y1, (hb11.cell (p := ⟨w.heap.size, 2, none⟩) g2).trans y2, (hb11.cell (p := ⟨w.heap.size, 3, none⟩) g2).trans y3, hb11⟩)
    (first | (go_at_call 10; refine (HT.out _ (hb10.trans ((Below.refl _ w10).drew.mono hb10.size))).mono ?_; rintro r w11 ⟨A11, c11, rfl, hc11, hO11, hb11'⟩; have hb11 : Below w10.heap.size w10 w11 := (Below.refl _ w10).drew.trans hb11'; have HQ11 := Lib.hid (fun (W : World) (X : Below w11.heap.size w11 W) => HQ.out A6 A11 c6 c11 w11.heap.size W ((K10.out.keep ((hb11.trans (X.mono hb11.size)).mono (Nat.le_of_lt g1))).wide (Nat.le_trans (Nat.le_of_lt g1) hb11.size)) ((HK.out w11 _ _ A11 hO11 w11.heap.size (Nat.le_refl _)).keep X) hc6 hc11 X.size); clear hO11 hb11') | (go_at_call 13; (first | refine (HQ11.out _ (Below.refl _ w11)).mono ?_ | refine (HQ11.out _ (Below.refl _ w11).drew).mono ?_); rintro r w12 ⟨rfl, hb12'⟩; have hb12 : Below w10.heap.size w10 w12 := hb11.trans (hb12'.mono hb11.size)))
  rename_i hh
  have hc12 := hb10.trans (hb12.mono hb10.size)
  clear hh x0 x1 x2 x3 y0 y1 y2 y3
  have S8y := Lib.hid (S8x.out.below hb12)
  have S9y := Lib.hid (S9x.out.below hb12)
  go_wp2_with fail
  refine (HTN2.out w12 hc12).mono ?_
  rintro r w13 ⟨A13, c13, rfl, s13, hb13'⟩
  have hc13 := hc12.trans (hb13'.mono hc12.size)
  have HQ13 := Lib.hid (HQN.out A8 A13 c8 c13 w13 (S8y.out.below hb13') s13)
  clear s13
  go_wp2_with fail
  refine HQ13.out.mono ?_
  rintro r w14 ⟨rfl, hb14'⟩
  have hc14 := hc13.trans (hb14'.mono hc13.size)
  have S9z := Lib.hid ((S9y.out.below hb13').below hb14')
  go_wp2_with fail
  refine (HTV2.out w14 hc14).mono ?_
  rintro r w15 ⟨A15, c15, rfl, s15, hb15'⟩
  have hc15 := hc14.trans (hb15'.mono hc14.size)
  have HQ15 := Lib.hid (HQV.out A9 A15 c9 c15 w15 (S9z.out.below hb15') s15)
  clear s15
  go_wp2_with fail
  refine HQ15.out.mono ?_
  rintro r w16 ⟨rfl, hb16'⟩
  have hc16 := hc15.trans (hb16'.mono hc15.size)
  go_wp2_with fail
  go_ret
  exact ⟨rfl, hb0.trans (hc16.mono hb0.size)⟩

set_option linter.unusedVariables false in
set_option maxRecDepth 100000 in
theorem lifted (os : Os) (started : os.Started) (H : Type) (enc : TypeId × Value → H) :
    ReturnsInHanded {} Tryz.checked os 4 .any (fun w args => (Rows.fnExactExprOfSpec.pre enc Tryz.prog Tryz.f4 [] false w args ∧ laidMetH Tryz.prog laidL w) ∧ sizedMet enc Tryz.prog Tryz.f4 (OpenSpec.ofChange Rows.fnExactExprOfSpec) false w args)
      (Rows.fnExactExprOfSpec.post enc Tryz.prog Tryz.f4 false true false false) := by
  refine returnsInHanded_of_change_and (C := Tryz.checked) (X := fun w _ => laidMetH Tryz.prog laidL w) (fun _ _ _ hh h => h.of_heap hh) own started (by kernel_rfl) Tryz.func4
    (ChangeSpec.witness_shaped (enc := enc) (C := Tryz.checked) (os := os) (X := fun w _ => laidMetH Tryz.prog laidL w) false (World.doorLaid Tryz.prog 62 os) #[.agg #[.int .i64 0, .int .i64 0, .string ByteArray.empty, .slice none 0 0], .slice none 0 0, .slice none 0 0] 8 rfl (World.shaped_of_RefB (by kernel_rfl) (by kernel_rfl)) (by kernel_rfl) (by kernel_rfl) (by kernel_rfl) (door_met os _)) ?_
  intro W base args ds gs before hval0 hW _ _ hL _
  have hval : ∀ (j : Nat) t v, Tryz.f4.params[j]? = some t → args[j]? = some v → Value.okWide Tryz.prog W .any base t v := hval0
  have hW' := hW
  obtain ⟨p, q, hA0, hV, rfl, hfz, hnd⟩ := hW
  have hA : DataW.TrodAll enc Tryz.prog W 0 (fun _ => true) true Tryz.f4.params.toList args.toList ds p := hA0
  rw [Tryz.params4] at hA hval
  obtain ⟨v0, vs0, d0, ds0, p0, q0, hargs, rfl, rfl, h0, r0⟩ := trodAll_cons hA
  obtain ⟨v1, vs1, d1, ds1, p1, q1, rfl, rfl, rfl, h1, r1⟩ := trodAll_cons r0
  obtain ⟨v2, vs2, d2, ds2, p2, q2, rfl, rfl, rfl, h2, r2⟩ := trodAll_cons r1
  obtain ⟨rfl, rfl, rfl⟩ := trodAll_nil r2
  obtain rfl : args = #[v0, v1, v2] := by cases args; simp_all
  obtain ⟨rfl, rfl⟩ := trodVars_none hV
  have k0 := h0
  have lt0 : ∀ x ∈ p0, x.block < W.heap.size := by obtain ⟨m, hm⟩ := k0; exact DataW.trod_lt m _ _ _ hm
  have k1 := h1
  have lt1 : ∀ x ∈ p1, x.block < W.heap.size := by obtain ⟨m, hm⟩ := k1; exact DataW.trod_lt m _ _ _ hm
  have k2 := h2
  have lt2 : ∀ x ∈ p2, x.block < W.heap.size := by obtain ⟨m, hm⟩ := k2; exact DataW.trod_lt m _ _ _ hm
  obtain ⟨a0, A0, c0, e0, w0⟩ := open_ex (hval 0 24 v0 rfl rfl) h0
  subst e0
  obtain ⟨a1, len1, cap1, e1⟩ := okWide_slice Tryz.underlying25 (hval 1 25 v1 rfl rfl)
  subst e1
  obtain ⟨z1, w1⟩ : ∃ ss, IsStrs W a1 len1 ss ∧ len1 ≤ cap1 := by
    obtain ⟨fuel, hf⟩ := h1
    rcases open_strings Tryz.underlying25 Tryz.underlying9 (by kernel_rfl) hf with ⟨hcs, _⟩ | ⟨x, l, c, ss, hcs, _, hl, hm, hz, _, hcell, hws⟩
    · simp [Value.cells] at hcs
      obtain ⟨rfl, rfl, rfl⟩ := hcs
      exact ⟨[], isStrs_nil W, Nat.le_refl _⟩
    · simp [Value.cells] at hcs
      obtain ⟨rfl, rfl, rfl⟩ := hcs
      exact ⟨ss.take _, isStrs_of hl hm (by simpa using hz) hcell hws, hl⟩
  obtain ⟨a2, len2, cap2, e2⟩ := okWide_slice Tryz.underlying37 (hval 2 37 v2 rfl rfl)
  subst e2
  obtain ⟨z2, w2⟩ : ∃ zs, IsInts W a2 len2 zs ∧ len2 ≤ cap2 := by
    obtain ⟨fuel, hf⟩ := h2
    rcases open_ints Tryz.underlying37 Tryz.underlying3 (by kernel_rfl) hf with ⟨hcs, _⟩ | ⟨x, l, c, zs, hcs, _, hl, hm, hz, _, hcell, hwz⟩
    · simp [Value.cells] at hcs
      obtain ⟨rfl, rfl, rfl⟩ := hcs
      exact ⟨[], isInts_nil W, Nat.le_refl _⟩
    · simp [Value.cells] at hcs
      obtain ⟨rfl, rfl, rfl⟩ := hcs
      exact ⟨zs.take _, isInts_of hl hm (by simpa using hz) hcell hwz, hl⟩
  clear hA0 hval0
  refine (walk a0 A0 c0 a1 len1 cap1 z1 a2 len2 cap2 z2 W w0 w1 w2 (of_laid hL)).mono fun e W' ⟨he, bel⟩ => ?_
  subst he
  exact ⟨_, rfl, _, _, _, [], _, [], hW', trodAll_mk1 (shut_bool Tryz.underlying4 _), (trodAll_cons_mk (Below.trod laidOut (by kernel_rfl) (of_decide_eq_true (by kernel_rfl)) k0 bel lt0) (trodAll_cons_mk (Below.trod laidOut (by kernel_rfl) (of_decide_eq_true (by kernel_rfl)) k1 bel lt1) (trodAll_cons_mk (Below.trod laidOut (by kernel_rfl) (of_decide_eq_true (by kernel_rfl)) k2 bel lt2) trodAll_mk0))), rfl, bel.frame _, fun h => by cases h⟩

theorem fact_inPlace : (Rows.fnExactExprOfRow.inPlace == Tryz.pinned.checked.prog.inPlace 4) = true := by kernel_rfl
theorem fact_unfollowed : (Rows.fnExactExprOfRow.unfollowed == Tryz.pinned.checked.prog.unfollowed 4) = true := by kernel_rfl
theorem fact_recurses : (Rows.fnExactExprOfRow.recurses == Tryz.pinned.checked.prog.recurses 4) = true := by kernel_rfl
theorem fact_named : (Rows.fnExactExprOfRow.named == Tryz.pinned.checked.prog.varsNamed 4) = true := by kernel_rfl
theorem fact_looks : true = Tryz.pinned.checked.prog.looks [] := by kernel_rfl
theorem fact_goes : false = Rows.fnExactExprOfRow.goesBy Tryz.pinned.checked.prog := by kernel_rfl
theorem over : Rows.fnExactExprOfRow.holds Tryz.pinned (OpenSpec.ofChange Rows.fnExactExprOfSpec) :=
  OpenClaim.holds_of_wide 4 Tryz.f4 rfl rfl rfl rfl rfl rfl rfl ⟨rfl, rfl, rfl, rfl, rfl⟩ rfl rfl rfl rfl rfl (by kernel_rfl) Tryz.func4 (by unfold joinedFacts; rw [fact_inPlace, fact_unfollowed, fact_recurses, fact_named, fact_mayEnter, fact_liftsFinal, fact_make]; kernel_rfl)
    (of_decide_eq_true (by kernel_rfl)) (by unfold Func.isWrapper; first | (rw [if_pos (by decide +kernel)]; kernel_rfl) | (rw [if_neg (by decide +kernel)]; exact ⟨rfl, rfl⟩))
    (fun os started H enc _ => lifted os started H enc)
end Go.Proofs.YtaclndbilpaboaaGreatDoor.fnExactExprOf
namespace Go.Proofs.YtaclndbilpaboaaGreatDoor

/-- The given statement. -/
theorem fnExactExprOf_proved : Rows.FnExactExprOfCardSaid :=
  Claim7.holds_tied_plain_at .later [] [.data, .data, .data, .sentinel, .sentinel] true (true, "d59a752a42933f4c64dc0229007701c4457acaffb434023d5d2d208b9301664c") true
    fnExactExprOf.over (fun _ h => by cases h) (by kernel_rfl) (fun _ h => by cases h) fnExactExprOf_row_tie rfl ⟨rfl, rfl⟩ fact_mainIs rfl
    (fun f fn hf hfn => by
      obtain rfl : f = 4 := Option.some.inj ((show Tryz.prog.funcNamed "loop.example/interlinear/laws.FnExactExprOf" = some 4 by kernel_rfl).symm.trans hf) |>.symm
      obtain rfl : fn = Tryz.f4 := (Option.some.inj (Tryz.func4.symm.trans hfn)).symm
      exact ⟨fnExactExprOf.fact_looks, fun j t ht => by
        rw [Tryz.params4] at ht
        have hm : t ∈ [24, 25, 37] := by simpa using Array.mem_of_getElem? ht
        have hall : ([24, 25, 37].all fun u => !Tryz.prog.wantsStandIn u) = true := by kernel_rfl
        exact (show Tryz.prog.wantsStandIn t = false by simpa using List.all_eq_true.1 hall t hm)⟩)
    fnExactExprOf.fact_goes
#print axioms fnExactExprOf_proved
end Go.Proofs.YtaclndbilpaboaaGreatDoor
