/-
  'laws.FnExactExprWords' returns true at whatever is to be reckoned: impl.ExprWords and the model's ExprWords answer the same words, nothing is written into the argument, and each answer is memory of its own.
  Conditions: the library's variables hold what their initialisers lay (tied to the program's text); every value of laws.Expr.
-/
import Derived.Test.YtaclndbilpaboaaDoorExprWords
import Derived.Test.YtaclndbilpaboaaDoorSpecWords5
import Derived.Test.YtaclndbilpaboaaDoorOwnLaws
import Derived.Test.YtaclndbilpaboaaDoorEqEx
import Derived.Test.YtaclndbilpaboaaDoorOpenEx
import Derived.Test.YtaclndbilpaboaaDoorMarkEx
import Derived.Test.YtaclndbilpaboaaDoorMarkStrs
import Derived.Test.YtaclndbilpaboaaDoorLaid
import Derived.Test.YtaclndbilpaboaaDoorCards
import Derived.Test.YtaclndbilpaboaaDoorTie
import Derived.Test.YtaclndbilpaboaaDoorRows
import Derived.WalkKit
import Derived.ProofKit
import Derived.OpenShut
import Derived.ShutString
import Derived.ChangeOld
import Derived.Below
import Derived.Lib.SmallJoins
import Derived.SliceStrings
namespace Go.Proofs.YtaclndbilpaboaaDoor.fnExactExprWords
open Go.ChangeShapes Go.WideShapes Go.ChangeAt Go.RowKit Go.Joins
open Go.ChangeMaps (open_string shut_string)


theorem markStringS_one (base : Nat) (A : Option Addr) (c n : Nat) (xs : List Value) (w : World) (hl : 1 + n ≤ 2 ^ 40) (hown : w.ownsRow base 9 1 (.slice A n c) n xs) (hbase : base ≤ w.heap.size) (hstr : ∀ u ∈ xs, ∃ s, u = Value.string s) :
    Calls Tryd.prog 16 #[.slice A n c, .int .i64 1] w fun e w' => e = .returned (.int .i64 ((1 + n : Nat) : Int)) ∧ w'.ownsRow base 9 1 (.slice A n c) n (marksV 1 n) ∧ Below base w w' :=
  markStringS_any base A c 1 n xs w (by omega) hl hown hbase hstr
theorem heldStringS_one (A : Option Addr) (c n : Nat) (w : World) (hl : 1 + n ≤ 2 ^ 40) (hA : SlIs w A (marksV 1 n)) :
    Calls Tryd.prog 17 #[.slice A n c, .int .i64 1] w fun e w' => e = .returned (.int .i64 ((1 + n : Nat) : Int)) ∧ Below w.heap.size w w' :=
  heldStringS_ok A c 1 n w (by omega) hl hA
theorem markExpr_one (e : Ex) (A : Option Addr) (c lo hi : Nat) (w : World) (hO : OwnE w e lo hi A) (hhi : hi ≤ w.heap.size) (hl : 1 + 3 * Ex.nodess e.kids ≤ 2 ^ 39) :
    Calls Tryd.prog 15 #[.agg #[.int .i64 e.kind, .int .i64 e.n, .string e.s, .slice A e.kids.length c], .int .i64 1] w fun r w' => r = .returned (.int .i64 ((1 + 3 * Ex.nodess e.kids : Nat) : Int)) ∧ OwnE w' (.mk e.kind e.n e.s (marksE e.kids 1)) lo hi A ∧ Turned lo hi w w' :=
  markExpr_any e A c 1 lo hi w hO hhi (by omega) hl
theorem ownsRow_turned {w w' : World} {B lo hi : Nat} {t : TypeId} {v : Value} {n : Nat} {xs : List Value} (h : w.ownsRow B t 1 v n xs) (hT : Turned lo hi w w') (hB : hi ≤ B) : w'.ownsRow B t 1 v n xs := by
  refine ⟨h.1, ?_⟩
  rcases h.2 with h0 | ⟨g, cap, cur, h1, h2, h3, h4⟩
  · exact .inl h0
  · exact .inr ⟨g, cap, cur, h1, h2, (hT.block g (Array.getElem?_eq_some_iff.1 h3).1 (.inr (Nat.le_trans hB h2))).trans h3, h4⟩

set_option maxRecDepth 100000 in
set_option maxHeartbeats 8000000 in
theorem walk (e : Ex) (A : Option Addr) (c : Nat) (w : World) (hE : InEx w A c e) (hlaid : LaidW w) :
    Calls Tryd.prog 4 #[.agg #[.int .i64 e.kind, .int .i64 e.n, .string e.s, .slice A e.kids.length c]] w fun r w' => r = .returned (.bool true) ∧ Below w.heap.size w w' := by
  obtain ⟨hfit, hA, hc⟩ := hE
  have hkl : e.kids.length ≤ maxLen := by cases e; exact hfit.2.1
  unfold maxLen at hkl
  obtain ⟨W0, hW0⟩ : ∃ W0, W0 = w.alloc (.cells #[.int .i64 e.kind, .int .i64 e.n, .string e.s, .slice A e.kids.length c] 24) := ⟨_, rfl⟩
  have hb0 : Below w.heap.size w W0 := by rw [hW0]; exact (Below.refl _ w).alloc (Nat.le_refl _) _
  have hs0 : w.heap.size < W0.heap.size := by rw [hW0]; simp
  have a0 : W0.cell? ⟨w.heap.size, 0, none⟩ = some (.int .i64 e.kind) := by rw [hW0]; exact cell_made4 w _ _ 0 _ rfl
  have a1 : W0.cell? ⟨w.heap.size, 1, none⟩ = some (.int .i64 e.n) := by rw [hW0]; exact cell_made4 w _ _ 1 _ rfl
  have a2 : W0.cell? ⟨w.heap.size, 2, none⟩ = some (.string e.s) := by rw [hW0]; exact cell_made4 w _ _ 2 _ rfl
  have a3 : W0.cell? ⟨w.heap.size, 3, none⟩ = some (.slice A e.kids.length c) := by rw [hW0]; exact cell_made4 w _ _ 3 _ rfl
  have hA0 := hA.keep hb0
  have HL0 := Lib.hid (hlaid.below hb0)
  have HSz := Lib.hid (szExpr_any e A c w.heap.size 1048576 W0 hfit hA0 hc hb0.size (by omega) (by omega))
  have HTo := Lib.hid (fun (W : World) (hW : Below W0.heap.size W0 W) (hw : e.wt ≤ 2 ^ 40) => toExpr_any e A c w.heap.size W (hA0.keep (hW.mono hb0.size)) hc (Nat.le_trans hb0.size hW.size) hw)
  clear hfit hA hA0 hlaid
  go_enter Tryd.func4, Tryd.ntmps4
  go_wp2_with fail
  rw [← hW0]
  refine HSz.out.mono ?_
  rintro r w1 ⟨z, rfl, hz, hzl, hb1⟩
  have c10 := (hb1.cell (p := ⟨w.heap.size, 0, none⟩) (by show w.heap.size < _; omega)).trans a0
  have c11 := (hb1.cell (p := ⟨w.heap.size, 1, none⟩) (by show w.heap.size < _; omega)).trans a1
  have c12 := (hb1.cell (p := ⟨w.heap.size, 2, none⟩) (by show w.heap.size < _; omega)).trans a2
  have c13 := (hb1.cell (p := ⟨w.heap.size, 3, none⟩) (by show w.heap.size < _; omega)).trans a3

  by_cases hneg : z < 0
  · have q : decide (z < 0) = true := by simpa using hneg
    go_wp2_with fail
    go_ret
    exact ⟨rfl, hb0.trans (hb1.mono hb0.size)⟩
  have q : decide (z < 0) = false := by simpa using hneg
  have hwt1 : e.wt ≤ 1048576 := by have := hz (by omega); omega
  have hwt : e.wt ≤ 2 ^ 40 := by omega
  have hnod : 1 + 3 * Ex.nodess e.kids ≤ 2 ^ 39 := by
    have h1 := e.nodes_le
    have h2 : e.nodes = 1 + Ex.nodess e.kids := by cases e; rfl
    omega
  have hwl : (wordsE e).length ≤ 72 := by
    unfold wordsE
    cases h : okP e with
    | none => simp
    | some p =>
      have h1 := p.words_length
      have h2 : p.nodes ≤ 12 := by
        have h3 := (okP_some h).2
        unfold Pt.ok at h3
        simp only [Bool.and_eq_true, decide_eq_true_eq] at h3
        exact h3.2.2
      show p.words.length ≤ 72
      omega
  have HS := Lib.hid (fun (A' : Option Addr) (c' B : Nat) (W : World) (h1 : KidsAt W B A' e.kids) (h2 : e.kids.length ≤ c') (h3 : B ≤ W.heap.size) => specExprWords_any e A' c' B W h1 h2 h3 hwt)
  have HI := Lib.hid (fun (A' : Option Addr) (c' B : Nat) (W : World) (h1 : KidsAt W B A' e.kids) (h2 : e.kids.length ≤ c') (h3 : B ≤ W.heap.size) (hX : Below W0.heap.size W0 W) => exprWords_any e A' c' B W h1 h2 h3 hwt (HL0.out.below hX))
  have HQ := Lib.hid (fun (A1 A2 : Option Addr) (c1 c2 B : Nat) (W : World) (h1 : KidsAt W B A1 e.kids) (h2 : KidsAt W B A2 e.kids) (h3 : e.kids.length ≤ c1) (h4 : e.kids.length ≤ c2) (h5 : B ≤ W.heap.size) => eqExpr_same e A1 A2 c1 c2 B W h1 h2 h3 h4 h5 hwt)
  have HT := Lib.hid (fun (W : World) (hW : Below W0.heap.size W0 W) => HTo.out W hW hwt)
  have HK := Lib.hid (fun (W : World) (lo hi : Nat) (A' : Option Addr) (h : OwnE W e lo hi A') (B : Nat) (hB : hi ≤ B) => own_kids e lo hi A' B h hB)
  have HMX := Lib.hid (fun (A' : Option Addr) (c' lo hi : Nat) (W : World) (h1 : OwnE W e lo hi A') (h2 : hi ≤ W.heap.size) => markExpr_one e A' c' lo hi W h1 h2 hnod)
  have HOK := Lib.hid (fun (W W' : World) (lo hi : Nat) (A' : Option Addr) (h : OwnE W e lo hi A') (hk : ∀ k, lo ≤ k → k < hi → W'.heap[k]? = W.heap[k]?) => own_keep e lo hi A' hk h)
  generalize wordsE e = ss at *
  generalize Ex.nodess e.kids = nd at *
  clear HTo HSz hz hwt hwt1
  have hstr : ∀ u ∈ ss.map strV, ∃ s, u = Value.string s := by
    intro u hu
    obtain ⟨s, _, rfl⟩ := List.mem_map.1 hu
    exact ⟨s, rfl⟩
  have HSt := Lib.hid hstr
  clear hstr
  go_wp2_with fail
  refine (HT.out w1 hb1).mono ?_
  rintro r w2 ⟨A2, c2, rfl, hc2, hO2, hb2'⟩
  have hb2 := hb1.trans (hb2'.mono hb1.size)
  have K2 := Lib.hid (HK.out w2 _ _ A2 hO2 w2.heap.size (Nat.le_refl _))
  have c20 := (hb2.cell (p := ⟨w.heap.size, 0, none⟩) (by show w.heap.size < _; omega)).trans a0
  have c21 := (hb2.cell (p := ⟨w.heap.size, 1, none⟩) (by show w.heap.size < _; omega)).trans a1
  have c22 := (hb2.cell (p := ⟨w.heap.size, 2, none⟩) (by show w.heap.size < _; omega)).trans a2
  have c23 := (hb2.cell (p := ⟨w.heap.size, 3, none⟩) (by show w.heap.size < _; omega)).trans a3

  clear hO2 hb2' c10 c11 c12 c13
  go_wp2_with fail
  refine (HS.out A2 c2 w2.heap.size w2 K2.out hc2 (Nat.le_refl _)).mono ?_
  rintro r w3 ⟨v3, rfl, hv3, hb3'⟩
  obtain ⟨As, cs, rfl, hcs⟩ := own_slice hv3
  have SV := Lib.hid (SlIs.own hv3)
  have hb3 := hb2.trans (hb3'.mono hb2.size)
  have c30 := (hb3.cell (p := ⟨w.heap.size, 0, none⟩) (by show w.heap.size < _; omega)).trans a0
  have c31 := (hb3.cell (p := ⟨w.heap.size, 1, none⟩) (by show w.heap.size < _; omega)).trans a1
  have c32 := (hb3.cell (p := ⟨w.heap.size, 2, none⟩) (by show w.heap.size < _; omega)).trans a2
  have c33 := (hb3.cell (p := ⟨w.heap.size, 3, none⟩) (by show w.heap.size < _; omega)).trans a3

  clear hb3' K2 hv3 c20 c21 c22 c23
  go_wp2_with fail
  refine (HT.out w3 hb3).mono ?_
  rintro r w4 ⟨A4, c4, rfl, hc4, hO4, hb4'⟩
  have hb4 := hb3.trans (hb4'.mono hb3.size)
  have K4 := HK.out w4 _ _ A4 hO4 w4.heap.size (Nat.le_refl _)
  obtain ⟨W5, hW5⟩ : ∃ W5, W5 = w4.alloc (.cells #[.int .i64 e.kind, .int .i64 e.n, .string e.s, .slice A4 e.kids.length c4] 29) := ⟨_, rfl⟩
  have hb5' : Below w4.heap.size w4 W5 := by rw [hW5]; exact (Below.refl _ w4).alloc (Nat.le_refl _) _
  have hs5 : w4.heap.size < W5.heap.size := by rw [hW5]; simp
  have hb5 := hb4.trans (hb5'.mono hb4.size)
  have K5 := Lib.hid (K4.keep hb5')
  have S3 : Below w3.heap.size w3 W5 := hb4'.trans (hb5'.mono hb4'.size)
  have HO4 := Lib.hid hO4
  have b0 : W5.cell? ⟨w4.heap.size, 0, none⟩ = some (.int .i64 e.kind) := by rw [hW5]; exact cell_made4 w4 _ _ 0 _ rfl
  have b1 : W5.cell? ⟨w4.heap.size, 1, none⟩ = some (.int .i64 e.n) := by rw [hW5]; exact cell_made4 w4 _ _ 1 _ rfl
  have b2 : W5.cell? ⟨w4.heap.size, 2, none⟩ = some (.string e.s) := by rw [hW5]; exact cell_made4 w4 _ _ 2 _ rfl
  have b3 : W5.cell? ⟨w4.heap.size, 3, none⟩ = some (.slice A4 e.kids.length c4) := by rw [hW5]; exact cell_made4 w4 _ _ 3 _ rfl
  have hz34 := hb4'.size
  have hz03 := hb3.size
  clear hO4 hb4' K4 c30 c31 c32 c33
  go_wp2_with fail
  rw [← hW5]
  refine (HI.out A4 c4 w4.heap.size W5 K5.out hc4 (by omega) hb5).mono ?_
  rintro r w6 ⟨v6, rfl, hv6, hb6'⟩
  obtain ⟨Ag, cg, rfl, hcg⟩ := own_slice hv6
  have HG6 := Lib.hid hv6
  have S6 : Below w3.heap.size w3 w6 := S3.trans (hb6'.mono S3.size)
  clear hv6 hW5
  go_wp2_with fail
  refine (eqStringS_same Ag As cg cs ss w6 (by omega) (SlIs.own HG6.out) (SV.out.below S6)).mono ?_
  rintro r w7 ⟨rfl, hb7'⟩
  have hb57 : Below W5.heap.size W5 w7 := hb6'.trans (hb7'.mono hb6'.size)
  have hb7 := hb5.trans (hb57.mono hb5.size)
  have HG7 := Lib.hid (own_below HG6.out hb7')
  have S7 : Below w3.heap.size w3 w7 := S6.trans (hb7'.mono S6.size)
  have x0 := (hb57.cell (p := ⟨w4.heap.size, 0, none⟩) (by show w4.heap.size < _; omega)).trans b0
  have x1 := (hb57.cell (p := ⟨w4.heap.size, 1, none⟩) (by show w4.heap.size < _; omega)).trans b1
  have x2 := (hb57.cell (p := ⟨w4.heap.size, 2, none⟩) (by show w4.heap.size < _; omega)).trans b2
  have x3 := (hb57.cell (p := ⟨w4.heap.size, 3, none⟩) (by show w4.heap.size < _; omega)).trans b3
  have y0 := (hb7.cell (p := ⟨w.heap.size, 0, none⟩) (by show w.heap.size < _; omega)).trans a0
  have y1 := (hb7.cell (p := ⟨w.heap.size, 1, none⟩) (by show w.heap.size < _; omega)).trans a1
  have y2 := (hb7.cell (p := ⟨w.heap.size, 2, none⟩) (by show w.heap.size < _; omega)).trans a2
  have y3 := (hb7.cell (p := ⟨w.heap.size, 3, none⟩) (by show w.heap.size < _; omega)).trans a3
  have g1 : w4.heap.size < w7.heap.size := by have := hb57.size; omega
  have g2 : w.heap.size < w7.heap.size := by have := hb7.size; omega
  have K7 := Lib.hid (K5.out.keep (hb57.mono hb5'.size))
  have HO7 := Lib.hid (HOK.out w4 w7 _ _ A4 HO4.out (fun k _ h2 => (hb57.block k (by omega)).trans (hb5'.block k h2)))
  have hz57 := hb57.size
  have HB0 := Lib.hid hb0
  clear b0 b1 b2 b3 hW0 hb6' hb5' K5 hb1 hb2 hb3 hb4 hb5 HG6 hb7' hb57 S3 S6 HO4
  go_wp2_with fail
  go_region_held3 (fun w' => w'.cell? ⟨w4.heap.size, 0, none⟩ = some (.int .i64 e.kind) ∧ w'.cell? ⟨w4.heap.size, 1, none⟩ = some (.int .i64 e.n) ∧ w'.cell? ⟨w4.heap.size, 2, none⟩ = some (.string e.s) ∧ w'.cell? ⟨w4.heap.size, 3, none⟩ = some (.slice A4 e.kids.length c4) ∧ w'.cell? ⟨w.heap.size, 0, none⟩ = some (.int .i64 e.kind) ∧ w'.cell? ⟨w.heap.size, 1, none⟩ = some (.int .i64 e.n) ∧ w'.cell? ⟨w.heap.size, 2, none⟩ = some (.string e.s) ∧ w'.cell? ⟨w.heap.size, 3, none⟩ = some (.slice A e.kids.length c) ∧ Below w7.heap.size w7 w')
    (first | exact ⟨x0, x1, x2, x3, y0, y1, y2, y3, (Below.refl _ w7).drew⟩ | exact ⟨(hb9.cell (p := ⟨w4.heap.size, 0, none⟩) g1).trans x0, (hb9.cell (p := ⟨w4.heap.size, 1, none⟩) g1).trans x1, (hb9.cell (p := ⟨w4.heap.size, 2, none⟩) g1).trans x2, (hb9.cell (p := ⟨w4.heap.size, 3, none⟩) g1).trans x3, (hb9.cell (p := ⟨w.heap.size, 0, none⟩) g2).trans y0, (hb9.cell (p := ⟨w.heap.size, 1, none⟩) g2).trans y1, (hb9.cell (p := ⟨w.heap.size, 2, none⟩) g2).trans y2, (hb9.cell (p := ⟨w.heap.size, 3, none⟩) g2).trans y3, hb9⟩ | exact ⟨(hb8.cell (p := ⟨w4.heap.size, 0, none⟩) g1).trans x0, (hb8.cell (p := ⟨w4.heap.size, 1, none⟩) g1).trans x1, (hb8.cell (p := ⟨w4.heap.size, 2, none⟩) g1).trans x2, (hb8.cell (p := ⟨w4.heap.size, 3, none⟩) g1).trans x3, (hb8.cell (p := ⟨w.heap.size, 0, none⟩) g2).trans y0, (hb8.cell (p := ⟨w.heap.size, 1, none⟩) g2).trans y1, (hb8.cell (p := ⟨w.heap.size, 2, none⟩) g2).trans y2, (hb8.cell (p := ⟨w.heap.size, 3, none⟩) g2).trans y3, hb8⟩)
    (first | (go_at_call 9; refine (HT.out _ (hb7.trans ((Below.refl _ w7).drew.mono hb7.size))).mono ?_; rintro r w8 ⟨A8, c8, rfl, hc8, hO8, hb8'⟩; have hb8 : Below w7.heap.size w7 w8 := (Below.refl _ w7).drew.trans hb8'; have HQ8 := Lib.hid (fun (W : World) (X : Below w8.heap.size w8 W) => HQ.out A4 A8 c4 c8 w8.heap.size W ((K7.out.keep ((hb8.trans (X.mono hb8.size)).mono (Nat.le_of_lt g1))).wide (Nat.le_trans (Nat.le_of_lt g1) hb8.size)) ((HK.out w8 _ _ A8 hO8 w8.heap.size (Nat.le_refl _)).keep X) hc4 hc8 X.size); clear hO8 hb8') | (go_at_call 11; (first | refine (HQ8.out _ (Below.refl _ w8)).mono ?_ | refine (HQ8.out _ (Below.refl _ w8).drew).mono ?_); rintro r w9 ⟨rfl, hb9'⟩; have hb9 : Below w7.heap.size w7 w9 := hb8.trans (hb9'.mono hb8.size)))
  rename_i hh
  have hz9 := hb9.size
  have B9 := hb7.trans (hb9.mono hb7.size)
  have S9 : Below w3.heap.size w3 w9 := S7.trans (hb9.mono S7.size)
  have HG9 := Lib.hid (own_below HG7.out hb9)
  have HO9 := Lib.hid (HOK.out w7 w9 _ _ A4 HO7.out (fun k _ h2 => hb9.block k (by omega)))
  clear HQ8 hb8 hb9' HQ K7 HG7 HO7 x0 x1 x2 x3 y0 y1 y2 y3 hb9 S7 hb7 HS
  obtain ⟨x0, x1, x2, x3, _⟩ := hh
  go_wp2_with fail
  refine (HMX.out A4 c4 w3.heap.size w4.heap.size w9 HO9.out (by omega)).mono ?_
  rintro r w10 ⟨rfl, _, hT10⟩
  have q10 : decide (((1 + 3 * nd : Nat) : Int) < 0) = false := decide_eq_false (by omega)
  have T10 := hT10.below S9.size
  have S10 : Below w3.heap.size w3 w10 := S9.trans T10
  have B10 : Below W0.heap.size W0 w10 := B9.trans (T10.mono hz03)
  have HG10 := Lib.hid (ownsRow_turned HG9.out hT10 (Nat.le_of_lt hs5))
  have hz10 := hT10.size
  clear HG9 HO9 x0 x1 x2 x3 hT10 T10 HMX
  go_wp2_with fail
  refine (eqStringS_same Ag As cg cs ss w10 (by omega) (SlIs.own HG10.out) (SV.out.below S10)).mono ?_
  rintro r w11 ⟨rfl, hb11⟩
  have S11 := S10.trans (hb11.mono S10.size)
  have B11 := B10.trans (hb11.mono B10.size)
  have HG11 := Lib.hid (own_below HG10.out hb11)
  have hz11 := hb11.size
  clear HG10 hb11
  go_wp2_with fail
  refine (markStringS_one W5.heap.size Ag cg ss.length (ss.map strV) w11 (by omega) HG11.out (by omega) HSt.out).mono ?_
  rintro r w12 ⟨rfl, ho12, hb12⟩
  have S12 := S11.trans (hb12.mono (by omega))
  have B12 := B11.trans (hb12.mono (by omega))
  have HG12 := Lib.hid ho12
  clear HG11 ho12 hb12
  have hq1 : decide (((1 + ss.length : Nat) : Int) < 0) = false := decide_eq_false (by omega)
  have hq2 : (((1 + ss.length : Nat) : Int) != ((1 + ss.length : Nat) : Int)) = false := by simp
  go_wp2_with fail
  refine (heldStringS_one Ag cg ss.length w12 (by omega) (SlIs.own HG12.out)).mono ?_
  rintro r w13 ⟨rfl, hb13⟩
  have S13 := S12.trans (hb13.mono S12.size)
  have B13 := B12.trans (hb13.mono B12.size)
  have HG13 := Lib.hid (own_below HG12.out hb13)
  clear HG12 hb13
  have y0 := (B13.cell (p := ⟨w.heap.size, 0, none⟩) (by show w.heap.size < _; omega)).trans a0
  have y1 := (B13.cell (p := ⟨w.heap.size, 1, none⟩) (by show w.heap.size < _; omega)).trans a1
  have y2 := (B13.cell (p := ⟨w.heap.size, 2, none⟩) (by show w.heap.size < _; omega)).trans a2
  have y3 := (B13.cell (p := ⟨w.heap.size, 3, none⟩) (by show w.heap.size < _; omega)).trans a3
  go_wp2_with fail
  refine (HT.out w13 B13).mono ?_
  rintro r w14 ⟨A14, c14, rfl, hc14, hO14, hb14⟩
  have S14 := S13.trans (hb14.mono S13.size)
  have B14 := B13.trans (hb14.mono B13.size)
  have HG14 := Lib.hid (own_below HG13.out hb14)
  have K14 := Lib.hid (HK.out w14 _ _ A14 hO14 w14.heap.size (Nat.le_refl _))
  clear HG13 hb14 hO14 y0 y1 y2 y3
  go_wp2_with fail
  refine (HI.out A14 c14 w14.heap.size w14 K14.out hc14 (Nat.le_refl _) B14).mono ?_
  rintro r w15 ⟨v15, rfl, hv15, hb15⟩
  obtain ⟨Ah, ch, rfl, hch⟩ := own_slice hv15
  have S15 := S14.trans (hb15.mono S14.size)
  have B15 := B14.trans (hb15.mono B14.size)
  have HG15 := Lib.hid (own_below HG14.out hb15)
  have HH15 := Lib.hid (SlIs.own hv15)
  clear HG14 hb15 hv15 K14
  go_wp2_with fail
  refine (eqStringS_same Ah As ch cs ss w15 (by omega) HH15.out (SV.out.below S15)).mono ?_
  rintro r w16 ⟨rfl, hb16⟩
  have B16 := B15.trans (hb16.mono B15.size)
  have HG16 := Lib.hid (own_below HG15.out hb16)
  clear HG15 hb16
  go_wp2_with fail
  refine (heldStringS_one Ag cg ss.length w16 (by omega) (SlIs.own HG16.out)).mono ?_
  rintro r w17 ⟨rfl, hb17⟩
  have B17 := B16.trans (hb17.mono B16.size)
  go_wp2_with fail
  go_ret
  exact ⟨rfl, HB0.out.trans (B17.mono HB0.out.size)⟩

set_option linter.unusedVariables false in
set_option maxRecDepth 100000 in
theorem lifted (os : Os) (started : os.Started) (H : Type) (enc : TypeId × Value → H) :
    ReturnsInHanded {} Tryd.checked os 4 .any (fun w args => (Rows.fnExactExprWordsSpec.pre enc Tryd.prog Tryd.f4 [] false w args ∧ laidMetH Tryd.prog laidL w) ∧ sizedMet enc Tryd.prog Tryd.f4 (OpenSpec.ofChange Rows.fnExactExprWordsSpec) false w args)
      (Rows.fnExactExprWordsSpec.post enc Tryd.prog Tryd.f4 false true false false) := by
  refine returnsInHanded_of_change_and (C := Tryd.checked) (X := fun w _ => laidMetH Tryd.prog laidL w) (fun _ _ _ hh h => h.of_heap hh) own started (by kernel_rfl) Tryd.func4
    (ChangeSpec.witness_shaped (enc := enc) (C := Tryd.checked) (os := os) (X := fun w _ => laidMetH Tryd.prog laidL w) false (World.doorLaid Tryd.prog 62 os) #[.agg #[.int .i64 0, .int .i64 0, .string ByteArray.empty, .slice none 0 0]] 8 rfl (World.shaped_of_RefB (by kernel_rfl) (by kernel_rfl)) (by kernel_rfl) (by kernel_rfl) (by kernel_rfl) (door_met os _)) ?_
  intro W base args ds gs before hval0 hW _ _ hL _
  have hval : ∀ (j : Nat) t v, Tryd.f4.params[j]? = some t → args[j]? = some v → Value.okWide Tryd.prog W .any base t v := hval0
  have hW' := hW
  obtain ⟨p, q, hA0, hV, rfl, hfz, hnd⟩ := hW
  have hA : DataW.TrodAll enc Tryd.prog W 0 (fun _ => true) true Tryd.f4.params.toList args.toList ds p := hA0
  rw [Tryd.params4] at hA hval
  obtain ⟨v0, vs0, d0, ds0, p0, q0, hargs, rfl, rfl, h0, r0⟩ := trodAll_cons hA
  obtain ⟨rfl, rfl, rfl⟩ := trodAll_nil r0
  obtain rfl : args = #[v0] := by cases args; simp_all
  obtain ⟨rfl, rfl⟩ := trodVars_none hV
  have k0 := h0
  have lt0 : ∀ x ∈ p0, x.block < W.heap.size := by obtain ⟨m, hm⟩ := k0; exact DataW.trod_lt m _ _ _ hm
  obtain ⟨a0, A0, c0, e0, w0⟩ := open_ex (hval 0 24 v0 rfl rfl) h0
  subst e0
  clear hA0 hval0
  refine (walk a0 A0 c0 W w0 (of_laid hL)).mono fun e W' ⟨he, bel⟩ => ?_
  subst he
  exact ⟨_, rfl, _, _, _, [], _, [], hW', trodAll_mk1 (shut_bool Tryd.underlying4 _), (trodAll_cons_mk (Below.trod laidOut (by kernel_rfl) (of_decide_eq_true (by kernel_rfl)) k0 bel lt0) trodAll_mk0), rfl, bel.frame _, fun h => by cases h⟩

theorem over : Rows.fnExactExprWordsRow.holds Tryd.pinned (OpenSpec.ofChange Rows.fnExactExprWordsSpec) :=
  OpenClaim.holds_of_wide 4 Tryd.f4 rfl rfl rfl rfl rfl rfl rfl ⟨rfl, rfl, rfl, rfl, rfl⟩ rfl rfl rfl rfl rfl (by kernel_rfl) Tryd.func4 (by kernel_rfl)
    (of_decide_eq_true (by kernel_rfl)) (by unfold Func.isWrapper; first | (rw [if_pos (by decide +kernel)]; kernel_rfl) | (rw [if_neg (by decide +kernel)]; exact ⟨rfl, rfl⟩))
    (fun os started H enc _ => lifted os started H enc)
end Go.Proofs.YtaclndbilpaboaaDoor.fnExactExprWords
namespace Go.Proofs.YtaclndbilpaboaaDoor

/-- The given statement. -/
theorem fnExactExprWords_proved : Rows.FnExactExprWordsCardSaid :=
  Claim7.holds_tied_plain_at .later [] [.data, .data, .data, .sentinel, .sentinel] true (true, "458effa130e5440ecc25a60a7a08ba0ec3bc6484c6fcde7230d9dc0308758b65") true
    fnExactExprWords.over (fun _ h => by cases h) (by kernel_rfl) (fun _ h => by cases h) fnExactExprWords_row_tie rfl ⟨rfl, rfl⟩ (by kernel_rfl) rfl
    (fun f fn hf hfn => by
      obtain rfl : f = 4 := Option.some.inj ((show Tryd.prog.funcNamed "loop.example/interlinear/laws.FnExactExprWords" = some 4 by kernel_rfl).symm.trans hf) |>.symm
      obtain rfl : fn = Tryd.f4 := (Option.some.inj (Tryd.func4.symm.trans hfn)).symm
      exact ⟨by kernel_rfl, fun j t ht => by
        rw [Tryd.params4] at ht
        have hm : t ∈ [24] := by simpa using Array.mem_of_getElem? ht
        have hall : ([24].all fun u => !Tryd.prog.wantsStandIn u) = true := by kernel_rfl
        exact (show Tryd.prog.wantsStandIn t = false by simpa using List.all_eq_true.1 hall t hm)⟩)
    (by kernel_rfl)
#print axioms fnExactExprWords_proved
end Go.Proofs.YtaclndbilpaboaaDoor
