/-
  'laws.FnExactExprBare' returns true at whatever is to be reckoned: impl.ExprBare and the model's ExprBare answer the same in every field, nothing is written into the argument, and each answer is memory of its own.
  Conditions: the library's variables hold what their initialisers lay (tied to the program's text); every value of laws.Expr.
-/
import Derived.Test.YtaclndbilpaboaaDoorSpecBare3
import Derived.Test.YtaclndbilpaboaaDoorEqEx
import Derived.Test.YtaclndbilpaboaaDoorOpenEx
import Derived.Test.YtaclndbilpaboaaDoorMarkEx
import Derived.Test.YtaclndbilpaboaaDoorLaid
import Derived.Test.YtaclndbilpaboaaDoorCards
import Derived.Test.YtaclndbilpaboaaDoorTie
import Derived.Test.YtaclndbilpaboaaDoorRows
import Derived.WalkKit
import Derived.ProofKit
import Derived.OpenShut
import Derived.ShutString
import Derived.ChangeOld
import Derived.Below
import Derived.Lib.SmallJoins
import Derived.SliceStrings
namespace Go.Proofs.YtaclndbilpaboaaDoor.fnExactExprBare
open Go.ChangeShapes Go.WideShapes Go.ChangeAt Go.RowKit Go.Joins
open Go.ChangeMaps (open_string shut_string)


theorem markExpr_one (e : Ex) (A : Option Addr) (c lo hi : Nat) (w : World) (hO : OwnE w e lo hi A) (hhi : hi ≤ w.heap.size) (hl : 1 + 3 * Ex.nodess e.kids ≤ 2 ^ 39) :
    Calls Tryd.prog 15 #[.agg #[.int .i64 e.kind, .int .i64 e.n, .string e.s, .slice A e.kids.length c], .int .i64 1] w fun r w' => r = .returned (.int .i64 ((1 + 3 * Ex.nodess e.kids : Nat) : Int)) ∧ OwnE w' (.mk e.kind e.n e.s (marksE e.kids 1)) lo hi A ∧ Turned lo hi w w' :=
  markExpr_any e A c 1 lo hi w hO hhi (by omega) hl
theorem heldExpr_one (e : Ex) (A : Option Addr) (c B : Nat) (w : World) (hA : KidsAt w B A (marksE e.kids 1)) (hB : B ≤ w.heap.size) (hl : 1 + 3 * Ex.nodess e.kids ≤ 2 ^ 39) :
    Calls Tryd.prog 20 #[.agg #[.int .i64 e.kind, .int .i64 e.n, .string e.s, .slice A e.kids.length c], .int .i64 1] w fun r w' => r = .returned (.int .i64 ((1 + 3 * Ex.nodess e.kids : Nat) : Int)) ∧ Below w.heap.size w w' :=
  heldExpr_ok e _ _ _ A c 1 B w hA hB (by omega) hl
theorem bare_wt (p : Pt) : p.bare.ex.wt ≤ p.ex.wt := by
  induction p with
  | num n => exact Nat.le_refl _
  | name s => exact Nat.le_refl _
  | two s a b ia ib => simp only [Pt.bare, Pt.ex, Ex.wt, Ex.wts]; omega
  | «as» s a ia => simp only [Pt.bare, Pt.ex, Ex.wt, Ex.wts]; omega
theorem bareE_wt (e : Ex) : (bareE e).wt ≤ e.wt := by
  unfold bareE
  cases h : okP e with
  | none => show Ex.zero.wt ≤ _; simp [Ex.zero, Ex.wt, Ex.wts]
  | some p =>
    have h1 := (okP_some h).1
    rw [h1]
    exact bare_wt p
theorem box_cells {w w' : World} {b : Nat} {v0 v1 v2 v3 : Value} (h : w'.heap[b]? = w.heap[b]?) (h0 : w.cell? ⟨b, 0, none⟩ = some v0) (h1 : w.cell? ⟨b, 1, none⟩ = some v1) (h2 : w.cell? ⟨b, 2, none⟩ = some v2) (h3 : w.cell? ⟨b, 3, none⟩ = some v3) :
    w'.cell? ⟨b, 0, none⟩ = some v0 ∧ w'.cell? ⟨b, 1, none⟩ = some v1 ∧ w'.cell? ⟨b, 2, none⟩ = some v2 ∧ w'.cell? ⟨b, 3, none⟩ = some v3 :=
  ⟨(cell_same h 0).trans h0, (cell_same h 1).trans h1, (cell_same h 2).trans h2, (cell_same h 3).trans h3⟩

set_option maxRecDepth 100000 in
set_option maxHeartbeats 16000000 in
theorem walk (e : Ex) (A : Option Addr) (c : Nat) (w : World) (hE : InEx w A c e) (_ : LaidW w) :
    Calls Tryd.prog 5 #[.agg #[.int .i64 e.kind, .int .i64 e.n, .string e.s, .slice A e.kids.length c]] w fun r w' => r = .returned (.bool true) ∧ Below w.heap.size w w' := by
  obtain ⟨hfit, hA, hc⟩ := hE
  have hkl : e.kids.length ≤ maxLen := by cases e; exact hfit.2.1
  unfold maxLen at hkl
  obtain ⟨W0, hW0⟩ : ∃ W0, W0 = w.alloc (.cells #[.int .i64 e.kind, .int .i64 e.n, .string e.s, .slice A e.kids.length c] 24) := ⟨_, rfl⟩
  have hb0 : Below w.heap.size w W0 := by rw [hW0]; exact (Below.refl _ w).alloc (Nat.le_refl _) _
  have hs0 : w.heap.size < W0.heap.size := by rw [hW0]; simp
  have a0 : W0.cell? ⟨w.heap.size, 0, none⟩ = some (.int .i64 e.kind) := by rw [hW0]; exact cell_made4 w _ _ 0 _ rfl
  have a1 : W0.cell? ⟨w.heap.size, 1, none⟩ = some (.int .i64 e.n) := by rw [hW0]; exact cell_made4 w _ _ 1 _ rfl
  have a2 : W0.cell? ⟨w.heap.size, 2, none⟩ = some (.string e.s) := by rw [hW0]; exact cell_made4 w _ _ 2 _ rfl
  have a3 : W0.cell? ⟨w.heap.size, 3, none⟩ = some (.slice A e.kids.length c) := by rw [hW0]; exact cell_made4 w _ _ 3 _ rfl

  have hA0 := hA.keep hb0
  have HSz := Lib.hid (szExpr_any e A c w.heap.size 1048576 W0 hfit hA0 hc hb0.size (by omega) (by omega))
  have HTo := Lib.hid (fun (W : World) (hW : Below W0.heap.size W0 W) (hw : e.wt ≤ 2 ^ 40) => toExpr_any e A c w.heap.size W (hA0.keep (hW.mono hb0.size)) hc (Nat.le_trans hb0.size hW.size) hw)
  clear hfit hA hA0
  go_enter Tryd.func5, Tryd.ntmps5
  go_wp2_with fail
  rw [← hW0]
  refine HSz.out.mono ?_
  rintro r w1 ⟨z, rfl, hz, hzl, hb1⟩
  have c10 := (hb1.cell (p := ⟨w.heap.size, 0, none⟩) hs0).trans a0
  have c11 := (hb1.cell (p := ⟨w.heap.size, 1, none⟩) hs0).trans a1
  have c12 := (hb1.cell (p := ⟨w.heap.size, 2, none⟩) hs0).trans a2
  have c13 := (hb1.cell (p := ⟨w.heap.size, 3, none⟩) hs0).trans a3

  by_cases hneg : z < 0
  · have q : decide (z < 0) = true := by simpa using hneg
    go_wp2_with fail
    go_ret
    exact ⟨rfl, hb0.trans (hb1.mono hb0.size)⟩
  have q : decide (z < 0) = false := by simpa using hneg
  have hwt1 : e.wt ≤ 1048576 := by have := hz (by omega); omega
  have hwt : e.wt ≤ 2 ^ 40 := by omega
  have hxt := bareE_wt e
  have hxt2 : (bareE e).wt ≤ 2 ^ 40 := by omega
  have hnod : 1 + 3 * Ex.nodess e.kids ≤ 2 ^ 39 := by
    have h1 := e.nodes_le
    have h2 : e.nodes = 1 + Ex.nodess e.kids := by cases e; rfl
    omega
  have hnox : 1 + 3 * Ex.nodess (bareE e).kids ≤ 2 ^ 39 := by
    have h1 := (bareE e).nodes_le
    have h2 : (bareE e).nodes = 1 + Ex.nodess (bareE e).kids := by cases bareE e; rfl
    omega
  have hxl : (bareE e).kids.length ≤ 2 ^ 40 := by have := Ex.nodess_length (bareE e).kids; omega
  have HS := Lib.hid (fun (A' : Option Addr) (c' B : Nat) (W : World) (h1 : KidsAt W B A' e.kids) (h2 : e.kids.length ≤ c') (h3 : B ≤ W.heap.size) => specExprBare_any e A' c' B W h1 h2 h3 hwt)
  have HI := Lib.hid (fun (A' : Option Addr) (c' B : Nat) (W : World) (h1 : KidsAt W B A' e.kids) (h2 : e.kids.length ≤ c') (h3 : B ≤ W.heap.size) => exprBare_any e A' c' B W h1 h2 h3 hwt)
  have HQ := Lib.hid (fun (A1 A2 : Option Addr) (c1 c2 B : Nat) (W : World) (h1 : KidsAt W B A1 e.kids) (h2 : KidsAt W B A2 e.kids) (h3 : e.kids.length ≤ c1) (h4 : e.kids.length ≤ c2) (h5 : B ≤ W.heap.size) => eqExpr_same e A1 A2 c1 c2 B W h1 h2 h3 h4 h5 hwt)
  have HQX := Lib.hid (fun (A1 A2 : Option Addr) (c1 c2 : Nat) (W : World) (h1 : KidsAt W W.heap.size A1 (bareE e).kids) (h2 : KidsAt W W.heap.size A2 (bareE e).kids) (h3 : (bareE e).kids.length ≤ c1) (h4 : (bareE e).kids.length ≤ c2) => eqExpr_same (bareE e) A1 A2 c1 c2 W.heap.size W h1 h2 h3 h4 (Nat.le_refl _) hxt2)
  have HT := Lib.hid (fun (W : World) (hW : Below W0.heap.size W0 W) => HTo.out W hW hwt)
  have HK := Lib.hid (fun (W : World) (lo hi : Nat) (A' : Option Addr) (h : OwnE W e lo hi A') (B : Nat) (hB : hi ≤ B) => own_kids e lo hi A' B h hB)
  have HKX := Lib.hid (fun (W : World) (lo hi : Nat) (A' : Option Addr) (h : OwnE W (bareE e) lo hi A') (hB : hi ≤ W.heap.size) => own_kids (bareE e) lo hi A' W.heap.size h hB)
  have HMX := Lib.hid (fun (A' : Option Addr) (c' lo hi : Nat) (W : World) (h1 : OwnE W e lo hi A') (h2 : hi ≤ W.heap.size) => markExpr_one e A' c' lo hi W h1 h2 hnod)
  have HMG := Lib.hid (fun (A' : Option Addr) (c' lo hi : Nat) (W : World) (h1 : OwnE W (bareE e) lo hi A') (h2 : hi ≤ W.heap.size) => markExpr_one (bareE e) A' c' lo hi W h1 h2 hnox)
  have HHG := Lib.hid (fun (A' : Option Addr) (c' : Nat) (W : World) (h1 : KidsAt W W.heap.size A' (marksE (bareE e).kids 1)) => heldExpr_one (bareE e) A' c' W.heap.size W h1 (Nat.le_refl _) hnox)
  have HMK := Lib.hid (fun (W : World) (lo hi : Nat) (A' : Option Addr) (h : OwnE W (.mk (bareE e).kind (bareE e).n (bareE e).s (marksE (bareE e).kids 1)) lo hi A') (hB : hi ≤ W.heap.size) => (show KidsAt W W.heap.size A' (marksE (bareE e).kids 1) from own_kids _ lo hi A' W.heap.size h hB))
  have HOK := Lib.hid (fun (W W' : World) (lo hi : Nat) (A' : Option Addr) (h : OwnE W e lo hi A') (hk : ∀ k, lo ≤ k → k < hi → W'.heap[k]? = W.heap[k]?) => own_keep e lo hi A' hk h)
  have HOX := Lib.hid (fun (W W' : World) (lo hi : Nat) (A' : Option Addr) (h : OwnE W (bareE e) lo hi A') (hk : ∀ k, lo ≤ k → k < hi → W'.heap[k]? = W.heap[k]?) => own_keep (bareE e) lo hi A' hk h)
  generalize bareE e = x at *
  generalize marksE x.kids 1 = mk at *
  generalize Ex.nodess e.kids = nd at *
  generalize Ex.nodess x.kids = nx at *
  clear HTo HSz hz hwt hwt1 hxt hxt2
  go_wp2_with fail
  refine (HT.out w1 hb1).mono ?_
  rintro r w2 ⟨A2, c2, rfl, hc2, hO2, hb2'⟩
  have hb2 := hb1.trans (hb2'.mono hb1.size)
  have K2 := Lib.hid (HK.out w2 _ _ A2 hO2 w2.heap.size (Nat.le_refl _))
  clear hO2 hb2' c10 c11 c12 c13
  go_wp2_with fail
  refine (HS.out A2 c2 w2.heap.size w2 K2.out hc2 (Nat.le_refl _)).mono ?_
  rintro r w3 ⟨A3, c3, rfl, hc3, hK3, hb3'⟩
  have hb3 := hb2.trans (hb3'.mono hb2.size)
  obtain ⟨V3, hV3⟩ : ∃ V3, V3 = w3.alloc (.cells #[.int .i64 x.kind, .int .i64 x.n, .string x.s, .slice A3 x.kids.length c3] 29) := ⟨_, rfl⟩
  have hbV3 : Below w3.heap.size w3 V3 := by rw [hV3]; exact (Below.refl _ w3).alloc (Nat.le_refl _) _
  have hsV3 : w3.heap.size < V3.heap.size := by rw [hV3]; simp
  have hb3V := hb3.trans (hbV3.mono hb3.size)
  have KW := Lib.hid (show KidsAt V3 w3.heap.size A3 x.kids from (hK3.at_ (fun b h => h.2)).keep hbV3)
  have d0 : V3.cell? ⟨w3.heap.size, 0, none⟩ = some (.int .i64 x.kind) := by rw [hV3]; exact cell_made4 w3 _ _ 0 _ rfl
  have d1 : V3.cell? ⟨w3.heap.size, 1, none⟩ = some (.int .i64 x.n) := by rw [hV3]; exact cell_made4 w3 _ _ 1 _ rfl
  have d2 : V3.cell? ⟨w3.heap.size, 2, none⟩ = some (.string x.s) := by rw [hV3]; exact cell_made4 w3 _ _ 2 _ rfl
  have d3 : V3.cell? ⟨w3.heap.size, 3, none⟩ = some (.slice A3 x.kids.length c3) := by rw [hV3]; exact cell_made4 w3 _ _ 3 _ rfl
  have c30 := (hb3V.cell (p := ⟨w.heap.size, 0, none⟩) hs0).trans a0
  have c31 := (hb3V.cell (p := ⟨w.heap.size, 1, none⟩) hs0).trans a1
  have c32 := (hb3V.cell (p := ⟨w.heap.size, 2, none⟩) hs0).trans a2
  have c33 := (hb3V.cell (p := ⟨w.heap.size, 3, none⟩) hs0).trans a3

  clear hb3' K2 hK3 HS
  rw [hV3] at c30 c31 c32 c33
  go_wp2_with fail
  rw [← hV3]
  refine (HT.out V3 hb3V).mono ?_
  rintro r w4 ⟨A4, c4, rfl, hc4, hO4, hb4'⟩
  have hb4 := hb3V.trans (hb4'.mono hb3V.size)
  obtain ⟨W5, hW5⟩ : ∃ W5, W5 = w4.alloc (.cells #[.int .i64 e.kind, .int .i64 e.n, .string e.s, .slice A4 e.kids.length c4] 29) := ⟨_, rfl⟩
  have hb5' : Below w4.heap.size w4 W5 := by rw [hW5]; exact (Below.refl _ w4).alloc (Nat.le_refl _) _
  have hs5 : w4.heap.size < W5.heap.size := by rw [hW5]; simp
  have hb5 := hb4.trans (hb5'.mono hb4.size)
  have S5 : Below V3.heap.size V3 W5 := hb4'.trans (hb5'.mono hb4'.size)
  have K5 := Lib.hid ((HK.out w4 _ _ A4 hO4 w4.heap.size (Nat.le_refl _)).keep hb5')
  have HO5 := Lib.hid (HOK.out w4 W5 _ _ A4 hO4 (fun k _ h2 => hb5'.block k h2))
  have f0 : W5.cell? ⟨w4.heap.size, 0, none⟩ = some (.int .i64 e.kind) := by rw [hW5]; exact cell_made4 w4 _ _ 0 _ rfl
  have f1 : W5.cell? ⟨w4.heap.size, 1, none⟩ = some (.int .i64 e.n) := by rw [hW5]; exact cell_made4 w4 _ _ 1 _ rfl
  have f2 : W5.cell? ⟨w4.heap.size, 2, none⟩ = some (.string e.s) := by rw [hW5]; exact cell_made4 w4 _ _ 2 _ rfl
  have f3 : W5.cell? ⟨w4.heap.size, 3, none⟩ = some (.slice A4 e.kids.length c4) := by rw [hW5]; exact cell_made4 w4 _ _ 3 _ rfl

  have hz34 := hb4'.size
  have hz03 := hb3V.size
  clear hO4 hb4' c30 c31 c32 c33 hV3
  go_wp2_with fail
  rw [← hW5]
  refine (HI.out A4 c4 w4.heap.size W5 K5.out hc4 (by omega)).mono ?_
  rintro r w6 ⟨A6, c6, rfl, hc6, hO6, hb6'⟩
  obtain ⟨W7, hW7⟩ : ∃ W7, W7 = w6.alloc (.cells #[.int .i64 x.kind, .int .i64 x.n, .string x.s, .slice A6 x.kids.length c6] 29) := ⟨_, rfl⟩
  have hb7' : Below w6.heap.size w6 W7 := by rw [hW7]; exact (Below.refl _ w6).alloc (Nat.le_refl _) _
  have hs7 : w6.heap.size < W7.heap.size := by rw [hW7]; simp
  have hb57 : Below W5.heap.size W5 W7 := hb6'.trans (hb7'.mono hb6'.size)
  have hb7 := hb5.trans (hb57.mono hb5.size)
  have S7 : Below V3.heap.size V3 W7 := S5.trans (hb57.mono S5.size)
  have hz56 := hb6'.size
  have HO7 := Lib.hid (HOX.out w6 W7 _ _ A6 hO6 (fun k _ h2 => hb7'.block k h2))
  have g0 : W7.cell? ⟨w6.heap.size, 0, none⟩ = some (.int .i64 x.kind) := by rw [hW7]; exact cell_made4 w6 _ _ 0 _ rfl
  have g1' : W7.cell? ⟨w6.heap.size, 1, none⟩ = some (.int .i64 x.n) := by rw [hW7]; exact cell_made4 w6 _ _ 1 _ rfl
  have g2' : W7.cell? ⟨w6.heap.size, 2, none⟩ = some (.string x.s) := by rw [hW7]; exact cell_made4 w6 _ _ 2 _ rfl
  have g3 : W7.cell? ⟨w6.heap.size, 3, none⟩ = some (.slice A6 x.kids.length c6) := by rw [hW7]; exact cell_made4 w6 _ _ 3 _ rfl
  have d70 := (S7.cell (p := ⟨w3.heap.size, 0, none⟩) hsV3).trans d0
  have d71 := (S7.cell (p := ⟨w3.heap.size, 1, none⟩) hsV3).trans d1
  have d72 := (S7.cell (p := ⟨w3.heap.size, 2, none⟩) hsV3).trans d2
  have d73 := (S7.cell (p := ⟨w3.heap.size, 3, none⟩) hsV3).trans d3

  clear hO6 hb6' hb7' hW5
  rw [hW7] at d70 d71 d72 d73
  go_wp2_with fail
  rw [← hW7]
  refine (HQX.out A6 A3 c6 c3 W7 (HKX.out W7 _ _ A6 HO7.out (by omega)) ((KW.out.keep (S7.mono (by omega))).wide (by have := S7.size; omega)) hc6 hc3).mono ?_
  rintro r w8 ⟨rfl, hb8'⟩
  have hb8 := hb7.trans (hb8'.mono hb7.size)
  have hb58 := hb57.trans (hb8'.mono hb57.size)
  have x0 := (hb58.cell (p := ⟨w4.heap.size, 0, none⟩) hs5).trans f0
  have x1 := (hb58.cell (p := ⟨w4.heap.size, 1, none⟩) hs5).trans f1
  have x2 := (hb58.cell (p := ⟨w4.heap.size, 2, none⟩) hs5).trans f2
  have x3 := (hb58.cell (p := ⟨w4.heap.size, 3, none⟩) hs5).trans f3
  have y0 := (hb8.cell (p := ⟨w.heap.size, 0, none⟩) hs0).trans a0
  have y1 := (hb8.cell (p := ⟨w.heap.size, 1, none⟩) hs0).trans a1
  have y2 := (hb8.cell (p := ⟨w.heap.size, 2, none⟩) hs0).trans a2
  have y3 := (hb8.cell (p := ⟨w.heap.size, 3, none⟩) hs0).trans a3
  have hz58 := hb58.size
  have hz08 := hb8.size
  have hz78 := hb8'.size
  have g1 : w4.heap.size < w8.heap.size := by omega
  have g2 : w.heap.size < w8.heap.size := by omega
  have K8 := Lib.hid (K5.out.keep (hb58.mono (Nat.le_of_lt hs5)))
  have HO8 := Lib.hid (HOK.out W5 w8 _ _ A4 HO5.out (fun k _ h2 => hb58.block k (by omega)))
  have S8 := S7.trans (hb8'.mono S7.size)
  have HB0 := Lib.hid hb0
  clear f0 f1 f2 f3 d70 d71 d72 d73 hW0 K5 HO5 hb1 hb2 hb3 hb3V hb4 hb5 hb57 hb58 S5 hW7
  go_wp2_with fail
  go_region_held3 (fun w' => w'.cell? ⟨w4.heap.size, 0, none⟩ = some (.int .i64 e.kind) ∧ w'.cell? ⟨w4.heap.size, 1, none⟩ = some (.int .i64 e.n) ∧ w'.cell? ⟨w4.heap.size, 2, none⟩ = some (.string e.s) ∧ w'.cell? ⟨w4.heap.size, 3, none⟩ = some (.slice A4 e.kids.length c4) ∧ w'.cell? ⟨w.heap.size, 0, none⟩ = some (.int .i64 e.kind) ∧ w'.cell? ⟨w.heap.size, 1, none⟩ = some (.int .i64 e.n) ∧ w'.cell? ⟨w.heap.size, 2, none⟩ = some (.string e.s) ∧ w'.cell? ⟨w.heap.size, 3, none⟩ = some (.slice A e.kids.length c) ∧ Below w8.heap.size w8 w')
    (first | exact ⟨x0, x1, x2, x3, y0, y1, y2, y3, (Below.refl _ w8).drew⟩ | exact ⟨(hbB.cell (p := ⟨w4.heap.size, 0, none⟩) g1).trans x0, (hbB.cell (p := ⟨w4.heap.size, 1, none⟩) g1).trans x1, (hbB.cell (p := ⟨w4.heap.size, 2, none⟩) g1).trans x2, (hbB.cell (p := ⟨w4.heap.size, 3, none⟩) g1).trans x3, (hbB.cell (p := ⟨w.heap.size, 0, none⟩) g2).trans y0, (hbB.cell (p := ⟨w.heap.size, 1, none⟩) g2).trans y1, (hbB.cell (p := ⟨w.heap.size, 2, none⟩) g2).trans y2, (hbB.cell (p := ⟨w.heap.size, 3, none⟩) g2).trans y3, hbB⟩ | exact ⟨(hbA.cell (p := ⟨w4.heap.size, 0, none⟩) g1).trans x0, (hbA.cell (p := ⟨w4.heap.size, 1, none⟩) g1).trans x1, (hbA.cell (p := ⟨w4.heap.size, 2, none⟩) g1).trans x2, (hbA.cell (p := ⟨w4.heap.size, 3, none⟩) g1).trans x3, (hbA.cell (p := ⟨w.heap.size, 0, none⟩) g2).trans y0, (hbA.cell (p := ⟨w.heap.size, 1, none⟩) g2).trans y1, (hbA.cell (p := ⟨w.heap.size, 2, none⟩) g2).trans y2, (hbA.cell (p := ⟨w.heap.size, 3, none⟩) g2).trans y3, hbA⟩)
    (first | (go_at_call 9; refine (HT.out _ (hb8.trans ((Below.refl _ w8).drew.mono hb8.size))).mono ?_; rintro r w9 ⟨A9, c9, rfl, hc9, hO9, hbA'⟩; have hbA : Below w8.heap.size w8 w9 := (Below.refl _ w8).drew.trans hbA'; have HQ9 := Lib.hid (fun (W : World) (X : Below w9.heap.size w9 W) => HQ.out A4 A9 c4 c9 w9.heap.size W ((K8.out.keep ((hbA.trans (X.mono hbA.size)).mono (Nat.le_of_lt g1))).wide (Nat.le_trans (Nat.le_of_lt g1) hbA.size)) ((HK.out w9 _ _ A9 hO9 w9.heap.size (Nat.le_refl _)).keep X) hc4 hc9 X.size); clear hO9 hbA') | (go_at_call 11; (first | refine (HQ9.out _ (Below.refl _ w9)).mono ?_ | refine (HQ9.out _ (Below.refl _ w9).drew).mono ?_); rintro r w10 ⟨rfl, hbB'⟩; have hbB : Below w8.heap.size w8 w10 := hbA.trans (hbB'.mono hbA.size)))
  rename_i hh
  have hz10 := hbB.size
  have B10 := hb8.trans (hbB.mono hb8.size)
  have S10 := S8.trans (hbB.mono S8.size)
  have HO10 := Lib.hid (HOK.out w8 w10 _ _ A4 HO8.out (fun k _ h2 => hbB.block k (by omega)))
  have R10 : ∀ b, b < W7.heap.size → w10.heap[b]? = W7.heap[b]? := fun b h2 => (hbB.block b (by omega)).trans (hb8'.block b h2)
  clear HQ9 hbA hbB' HQ K8 HO8 x0 x1 x2 x3 y0 y1 y2 y3 hbB S7 S8 hb7 hb8 hb8'
  obtain ⟨x0, x1, x2, x3, _⟩ := hh
  go_wp2_with fail
  refine (HMX.out A4 c4 V3.heap.size w4.heap.size w10 HO10.out (by omega)).mono ?_
  rintro r w11 ⟨rfl, _, hT11⟩
  have q10 : decide (((1 + 3 * nd : Nat) : Int) < 0) = false := decide_eq_false (by omega)
  have T11 := hT11.below S10.size
  have S11 : Below V3.heap.size V3 w11 := S10.trans T11
  have B11 : Below W0.heap.size W0 w11 := B10.trans (T11.mono hz03)
  have R11 : ∀ b, w4.heap.size ≤ b → b < W7.heap.size → w11.heap[b]? = W7.heap[b]? := fun b h1 h2 => (hT11.block b (by omega) (.inr h1)).trans (R10 b h2)
  have hz11 := hT11.size
  obtain ⟨p0, p1, p2, p3⟩ := box_cells (R11 w6.heap.size (by omega) hs7) g0 g1' g2' g3
  obtain ⟨d0', d1', d2', d3'⟩ := box_cells (S11.block w3.heap.size hsV3) d0 d1 d2 d3
  have HO11 := Lib.hid (HOX.out W7 w11 _ _ A6 HO7.out (fun k h1 h2 => R11 k (by omega) (by omega)))
  have KW11 := Lib.hid ((KW.out.keep (S11.mono (by omega))).wide (B' := w11.heap.size) (by have := S11.size; omega))
  have KG11 := Lib.hid (HKX.out w11 _ _ A6 HO11.out (by omega))
  clear HO10 x0 x1 x2 x3 hT11 T11 HMX S10 B10 HO7
  go_wp2_with fail
  refine (HQX.out A6 A3 c6 c3 w11 KG11.out KW11.out hc6 hc3).mono ?_
  rintro r w12 ⟨rfl, hb12⟩
  have S12 := S11.trans (hb12.mono S11.size)
  have B12 := B11.trans (hb12.mono B11.size)
  have hz12 := hb12.size
  have R12 : ∀ b, w4.heap.size ≤ b → b < W7.heap.size → w12.heap[b]? = W7.heap[b]? := fun b h1 h2 => (hb12.block b (by omega)).trans (R11 b h1 h2)
  have HO12 := Lib.hid (HOX.out w11 w12 _ _ A6 HO11.out (fun k h1 h2 => hb12.block k (by omega)))
  clear p0 p1 p2 p3 d0' d1' d2' d3' HO11 KW11 KG11 S11 B11 R11
  obtain ⟨p0, p1, p2, p3⟩ := box_cells (R12 w6.heap.size (by omega) hs7) g0 g1' g2' g3
  go_wp2_with fail
  refine (HMG.out A6 c6 W5.heap.size w6.heap.size w12 HO12.out (by omega)).mono ?_
  rintro r w13 ⟨rfl, hO13, hT13⟩
  have hz35 : V3.heap.size ≤ W5.heap.size := by omega
  have T13 := hT13.below (show W5.heap.size ≤ w12.heap.size by omega)
  have S13 : Below V3.heap.size V3 w13 := S12.trans (T13.mono hz35)
  have B13 : Below W0.heap.size W0 w13 := B12.trans (T13.mono (by omega))
  have hz13 := hT13.size
  have R13 : w13.heap[w6.heap.size]? = W7.heap[w6.heap.size]? := (hT13.block _ (by omega) (.inr (Nat.le_refl _))).trans (R12 _ (by omega) hs7)
  have KM13 := Lib.hid (HMK.out w13 _ _ A6 hO13 (by omega))
  clear p0 p1 p2 p3 HO12 hO13 hT13 T13 S12 B12 R12
  obtain ⟨p0, p1, p2, p3⟩ := box_cells R13 g0 g1' g2' g3
  have hq1 : decide (((1 + 3 * nx : Nat) : Int) < 0) = false := decide_eq_false (by omega)
  have hq2 : (((1 + 3 * nx : Nat) : Int) != ((1 + 3 * nx : Nat) : Int)) = false := by simp
  go_wp2_with fail
  refine (HHG.out A6 c6 w13 KM13.out).mono ?_
  rintro r w14 ⟨rfl, hb14⟩
  have S14 := S13.trans (hb14.mono S13.size)
  have B14 := B13.trans (hb14.mono B13.size)
  have hz14 := hb14.size
  have y0 := (B14.cell (p := ⟨w.heap.size, 0, none⟩) hs0).trans a0
  have y1 := (B14.cell (p := ⟨w.heap.size, 1, none⟩) hs0).trans a1
  have y2 := (B14.cell (p := ⟨w.heap.size, 2, none⟩) hs0).trans a2
  have y3 := (B14.cell (p := ⟨w.heap.size, 3, none⟩) hs0).trans a3
  clear p0 p1 p2 p3 S13 B13
  go_wp2_with fail
  refine (HT.out w14 B14).mono ?_
  rintro r w15 ⟨A15, c15, rfl, hc15, hO15, hb15'⟩
  have hb15 := hb14.trans (hb15'.mono hb14.size)
  have S15 := S14.trans (hb15'.mono S14.size)
  have B15 := B14.trans (hb15'.mono B14.size)
  have K15 := Lib.hid (HK.out w15 _ _ A15 hO15 w15.heap.size (Nat.le_refl _))
  clear y0 y1 y2 y3 hO15 hb15' hb14 S14 B14
  go_wp2_with fail
  refine (HI.out A15 c15 w15.heap.size w15 K15.out hc15 (Nat.le_refl _)).mono ?_
  rintro r w16 ⟨A16, c16, rfl, hc16, hO16, hb16'⟩
  obtain ⟨W17, hW17⟩ : ∃ W17, W17 = w16.alloc (.cells #[.int .i64 x.kind, .int .i64 x.n, .string x.s, .slice A16 x.kids.length c16] 29) := ⟨_, rfl⟩
  have hb17' : Below w16.heap.size w16 W17 := by rw [hW17]; exact (Below.refl _ w16).alloc (Nat.le_refl _) _
  have hs17 : w16.heap.size < W17.heap.size := by rw [hW17]; simp
  have hbq := hb16'.trans (hb17'.mono hb16'.size)
  have hb17 := hb15.trans (hbq.mono hb15.size)
  have S17 := S15.trans (hbq.mono S15.size)
  have B17 := B15.trans (hbq.mono B15.size)
  have hz16 := hb16'.size
  have KH := Lib.hid (HKX.out W17 _ _ A16 (HOX.out w16 W17 _ _ A16 hO16 (fun k _ h2 => hb17'.block k h2)) (by omega))
  have KW17 := Lib.hid ((KW.out.keep (S17.mono (by omega))).wide (B' := W17.heap.size) (by have := S17.size; omega))
  have h0 : W17.cell? ⟨w16.heap.size, 0, none⟩ = some (.int .i64 x.kind) := by rw [hW17]; exact cell_made4 w16 _ _ 0 _ rfl
  have h1 : W17.cell? ⟨w16.heap.size, 1, none⟩ = some (.int .i64 x.n) := by rw [hW17]; exact cell_made4 w16 _ _ 1 _ rfl
  have h2 : W17.cell? ⟨w16.heap.size, 2, none⟩ = some (.string x.s) := by rw [hW17]; exact cell_made4 w16 _ _ 2 _ rfl
  have h3 : W17.cell? ⟨w16.heap.size, 3, none⟩ = some (.slice A16 x.kids.length c16) := by rw [hW17]; exact cell_made4 w16 _ _ 3 _ rfl

  obtain ⟨d0', d1', d2', d3'⟩ := box_cells (S17.block w3.heap.size hsV3) d0 d1 d2 d3
  clear hO16 hb16' hb17' hbq K15 S15 B15 hb15
  rw [hW17] at d0' d1' d2' d3'
  go_wp2_with fail
  rw [← hW17]
  refine (HQX.out A16 A3 c16 c3 W17 KH.out KW17.out hc16 hc3).mono ?_
  rintro r w18 ⟨rfl, hb18'⟩
  have hb18 := hb17.trans (hb18'.mono hb17.size)
  have B18 := B17.trans (hb18'.mono B17.size)
  obtain ⟨p0, p1, p2, p3⟩ := box_cells ((hb18.block w6.heap.size (by omega)).trans R13) g0 g1' g2' g3
  have KM18 := Lib.hid ((KM13.out.keep hb18).wide hb18.size)
  clear h0 h1 h2 h3 d0' d1' d2' d3' hW17 KH KW17 hb18' hb17 B17
  go_wp2_with fail
  refine (HHG.out A6 c6 w18 KM18.out).mono ?_
  rintro r w19 ⟨rfl, hb19⟩
  have B19 := B18.trans (hb19.mono B18.size)
  go_wp2_with fail
  go_ret
  exact ⟨rfl, HB0.out.trans (B19.mono HB0.out.size)⟩

set_option linter.unusedVariables false in
set_option maxRecDepth 100000 in
theorem lifted (os : Os) (started : os.Started) (H : Type) (enc : TypeId × Value → H) :
    ReturnsInHanded {} Tryd.checked os 5 .any (fun w args => (Rows.fnExactExprBareSpec.pre enc Tryd.prog Tryd.f5 [] false w args ∧ laidMetH Tryd.prog laidL w) ∧ sizedMet enc Tryd.prog Tryd.f5 (OpenSpec.ofChange Rows.fnExactExprBareSpec) false w args)
      (Rows.fnExactExprBareSpec.post enc Tryd.prog Tryd.f5 false true false false) := by
  refine returnsInHanded_of_change_and (C := Tryd.checked) (X := fun w _ => laidMetH Tryd.prog laidL w) (fun _ _ _ hh h => h.of_heap hh) own started (by kernel_rfl) Tryd.func5
    (ChangeSpec.witness_shaped (enc := enc) (C := Tryd.checked) (os := os) (X := fun w _ => laidMetH Tryd.prog laidL w) false (World.doorLaid Tryd.prog 62 os) #[.agg #[.int .i64 0, .int .i64 0, .string ByteArray.empty, .slice none 0 0]] 8 rfl (World.shaped_of_RefB (by kernel_rfl) (by kernel_rfl)) (by kernel_rfl) (by kernel_rfl) (by kernel_rfl) (door_met os _)) ?_
  intro W base args ds gs before hval0 hW _ _ hL _
  have hval : ∀ (j : Nat) t v, Tryd.f5.params[j]? = some t → args[j]? = some v → Value.okWide Tryd.prog W .any base t v := hval0
  have hW' := hW
  obtain ⟨p, q, hA0, hV, rfl, hfz, hnd⟩ := hW
  have hA : DataW.TrodAll enc Tryd.prog W 0 (fun _ => true) true Tryd.f5.params.toList args.toList ds p := hA0
  rw [Tryd.params5] at hA hval
  obtain ⟨v0, vs0, d0, ds0, p0, q0, hargs, rfl, rfl, h0, r0⟩ := trodAll_cons hA
  obtain ⟨rfl, rfl, rfl⟩ := trodAll_nil r0
  obtain rfl : args = #[v0] := by cases args; simp_all
  obtain ⟨rfl, rfl⟩ := trodVars_none hV
  have k0 := h0
  have lt0 : ∀ x ∈ p0, x.block < W.heap.size := by obtain ⟨m, hm⟩ := k0; exact DataW.trod_lt m _ _ _ hm
  obtain ⟨a0, A0, c0, e0, w0⟩ := open_ex (hval 0 24 v0 rfl rfl) h0
  subst e0
  clear hA0 hval0
  refine (walk a0 A0 c0 W w0 (of_laid hL)).mono fun e W' ⟨he, bel⟩ => ?_
  subst he
  exact ⟨_, rfl, _, _, _, [], _, [], hW', trodAll_mk1 (shut_bool Tryd.underlying4 _), (trodAll_cons_mk (Below.trod laidOut (by kernel_rfl) (of_decide_eq_true (by kernel_rfl)) k0 bel lt0) trodAll_mk0), rfl, bel.frame _, fun h => by cases h⟩

theorem over : Rows.fnExactExprBareRow.holds Tryd.pinned (OpenSpec.ofChange Rows.fnExactExprBareSpec) :=
  OpenClaim.holds_of_wide 5 Tryd.f5 rfl rfl rfl rfl rfl rfl rfl ⟨rfl, rfl, rfl, rfl, rfl⟩ rfl rfl rfl rfl rfl (by kernel_rfl) Tryd.func5 (by kernel_rfl)
    (of_decide_eq_true (by kernel_rfl)) (by unfold Func.isWrapper; first | (rw [if_pos (by decide +kernel)]; kernel_rfl) | (rw [if_neg (by decide +kernel)]; exact ⟨rfl, rfl⟩))
    (fun os started H enc _ => lifted os started H enc)
end Go.Proofs.YtaclndbilpaboaaDoor.fnExactExprBare
namespace Go.Proofs.YtaclndbilpaboaaDoor

/-- The given statement. -/
theorem fnExactExprBare_proved : Rows.FnExactExprBareCardSaid :=
  Claim7.holds_tied_plain_at .later [] [.data, .data, .data, .sentinel, .sentinel] true (true, "458effa130e5440ecc25a60a7a08ba0ec3bc6484c6fcde7230d9dc0308758b65") true
    fnExactExprBare.over (fun _ h => by cases h) (by kernel_rfl) (fun _ h => by cases h) fnExactExprBare_row_tie rfl ⟨rfl, rfl⟩ (by kernel_rfl) rfl
    (fun f fn hf hfn => by
      obtain rfl : f = 5 := Option.some.inj ((show Tryd.prog.funcNamed "loop.example/interlinear/laws.FnExactExprBare" = some 5 by kernel_rfl).symm.trans hf) |>.symm
      obtain rfl : fn = Tryd.f5 := (Option.some.inj (Tryd.func5.symm.trans hfn)).symm
      exact ⟨by kernel_rfl, fun j t ht => by
        rw [Tryd.params5] at ht
        have hm : t ∈ [24] := by simpa using Array.mem_of_getElem? ht
        have hall : ([24].all fun u => !Tryd.prog.wantsStandIn u) = true := by kernel_rfl
        exact (show Tryd.prog.wantsStandIn t = false by simpa using List.all_eq_true.1 hall t hm)⟩)
    (by kernel_rfl)
#print axioms fnExactExprBare_proved
end Go.Proofs.YtaclndbilpaboaaDoor
