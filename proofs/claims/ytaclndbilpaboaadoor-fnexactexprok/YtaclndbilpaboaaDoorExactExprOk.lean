/-
  'laws.FnExactExprOk' returns true at whatever is to be reckoned: impl.ExprOk and the model's ExprOk answer the same, and nothing is written into the argument.
  Conditions: the library's variables hold what their initialisers lay (tied to the program's text); every value of laws.Expr.
-/
import Derived.Test.YtaclndbilpaboaaDoorExprOk
import Derived.Test.YtaclndbilpaboaaDoorSpecMany
import Derived.Test.YtaclndbilpaboaaDoorOwnLaws
import Derived.Test.YtaclndbilpaboaaDoorEqEx
import Derived.Test.YtaclndbilpaboaaDoorOpenEx
import Derived.Test.YtaclndbilpaboaaDoorLaid
import Derived.Test.YtaclndbilpaboaaDoorCards
import Derived.Test.YtaclndbilpaboaaDoorTie
import Derived.Test.YtaclndbilpaboaaDoorRows
import Derived.WalkKit
import Derived.ProofKit
import Derived.OpenShut
import Derived.ShutString
import Derived.ChangeOld
import Derived.Below
import Derived.Lib.SmallJoins
import Derived.SliceStrings
namespace Go.Proofs.YtaclndbilpaboaaDoor.fnExactExprOk
open Go.ChangeShapes Go.WideShapes Go.ChangeAt Go.RowKit Go.Joins
open Go.ChangeMaps (open_string shut_string)


set_option maxRecDepth 100000 in
set_option maxHeartbeats 4000000 in
theorem walk (e : Ex) (A : Option Addr) (c : Nat) (w : World) (hE : InEx w A c e) (_ : LaidW w) :
    Calls Tryd.prog 3 #[.agg #[.int .i64 e.kind, .int .i64 e.n, .string e.s, .slice A e.kids.length c]] w fun r w' => r = .returned (.bool true) ∧ Below w.heap.size w w' := by
  obtain ⟨hfit, hA, hc⟩ := hE
  have hkl : e.kids.length ≤ maxLen := by cases e; exact hfit.2.1
  unfold maxLen at hkl
  obtain ⟨W0, hW0⟩ : ∃ W0, W0 = w.alloc (.cells #[.int .i64 e.kind, .int .i64 e.n, .string e.s, .slice A e.kids.length c] 24) := ⟨_, rfl⟩
  have hb0 : Below w.heap.size w W0 := by rw [hW0]; exact (Below.refl _ w).alloc (Nat.le_refl _) _
  have hs0 : W0.heap.size = w.heap.size + 1 := by rw [hW0]; simp
  have a0 : W0.cell? ⟨w.heap.size, 0, none⟩ = some (.int .i64 e.kind) := by rw [hW0]; exact cell_made4 w _ _ 0 _ rfl
  have a1 : W0.cell? ⟨w.heap.size, 1, none⟩ = some (.int .i64 e.n) := by rw [hW0]; exact cell_made4 w _ _ 1 _ rfl
  have a2 : W0.cell? ⟨w.heap.size, 2, none⟩ = some (.string e.s) := by rw [hW0]; exact cell_made4 w _ _ 2 _ rfl
  have a3 : W0.cell? ⟨w.heap.size, 3, none⟩ = some (.slice A e.kids.length c) := by rw [hW0]; exact cell_made4 w _ _ 3 _ rfl
  have hA0 := hA.keep hb0
  have HSz := Lib.hid (szExpr_any e A c w.heap.size 1048576 W0 hfit hA0 hc hb0.size (by omega) (by omega))
  have HTo := Lib.hid (fun (W : World) (hW : Below W0.heap.size W0 W) (hw : e.wt ≤ 2 ^ 40) => toExpr_any e A c w.heap.size W (hA0.keep (hW.mono hb0.size)) hc (Nat.le_trans hb0.size hW.size) hw)
  clear hfit hA hA0
  go_enter Tryd.func3, Tryd.ntmps3
  go_wp2_with fail
  rw [← hW0]
  refine HSz.out.mono ?_
  rintro r w1 ⟨z, rfl, hz, hzl, hb1⟩
  have c10 := (hb1.cell (p := ⟨w.heap.size, 0, none⟩) (by show w.heap.size < _; omega)).trans a0
  have c11 := (hb1.cell (p := ⟨w.heap.size, 1, none⟩) (by show w.heap.size < _; omega)).trans a1
  have c12 := (hb1.cell (p := ⟨w.heap.size, 2, none⟩) (by show w.heap.size < _; omega)).trans a2
  have c13 := (hb1.cell (p := ⟨w.heap.size, 3, none⟩) (by show w.heap.size < _; omega)).trans a3
  by_cases hneg : z < 0
  · have q : decide (z < 0) = true := by simpa using hneg
    go_wp2_with fail
    go_ret
    exact ⟨rfl, hb0.trans (hb1.mono hb0.size)⟩
  have q : decide (z < 0) = false := by simpa using hneg
  have hwt : e.wt ≤ 2 ^ 40 := by have := hz (by omega); omega
  have HS := Lib.hid (fun (A' : Option Addr) (c' B : Nat) (W : World) (h1 : KidsAt W B A' e.kids) (h2 : e.kids.length ≤ c') (h3 : B ≤ W.heap.size) => specExprOk_any e A' c' B W h1 h2 h3 hwt)
  have HI := Lib.hid (fun (A' : Option Addr) (c' B : Nat) (W : World) (h1 : KidsAt W B A' e.kids) (h2 : e.kids.length ≤ c') (h3 : B ≤ W.heap.size) => exprOk_any e A' c' B W h1 h2 h3 hwt)
  have HQ := Lib.hid (fun (A1 A2 : Option Addr) (c1 c2 B : Nat) (W : World) (h1 : KidsAt W B A1 e.kids) (h2 : KidsAt W B A2 e.kids) (h3 : e.kids.length ≤ c1) (h4 : e.kids.length ≤ c2) (h5 : B ≤ W.heap.size) => eqExpr_same e A1 A2 c1 c2 B W h1 h2 h3 h4 h5 hwt)
  have HT := Lib.hid (fun (W : World) (hW : Below W0.heap.size W0 W) => HTo.out W hW hwt)
  have HK := Lib.hid (fun (W : World) (lo hi : Nat) (A' : Option Addr) (h : OwnE W e lo hi A') (B : Nat) (hB : hi ≤ B) => own_kids e lo hi A' B h hB)
  generalize okE e = ok at *
  clear HTo HSz hz hwt
  have q2 : (ok != ok) = false := by simp
  go_wp2_with fail
  refine (HT.out w1 hb1).mono ?_
  rintro r w2 ⟨A2, c2, rfl, hc2, hO2, hb2'⟩
  have hb2 := hb1.trans (hb2'.mono hb1.size)
  have K2 := Lib.hid (HK.out w2 _ _ A2 hO2 w2.heap.size (Nat.le_refl _))
  have c20 := (hb2.cell (p := ⟨w.heap.size, 0, none⟩) (by show w.heap.size < _; omega)).trans a0
  have c21 := (hb2.cell (p := ⟨w.heap.size, 1, none⟩) (by show w.heap.size < _; omega)).trans a1
  have c22 := (hb2.cell (p := ⟨w.heap.size, 2, none⟩) (by show w.heap.size < _; omega)).trans a2
  have c23 := (hb2.cell (p := ⟨w.heap.size, 3, none⟩) (by show w.heap.size < _; omega)).trans a3
  clear hO2 hb2' c10 c11 c12 c13
  go_wp2_with fail
  refine (HS.out A2 c2 w2.heap.size w2 K2.out hc2 (Nat.le_refl _)).mono ?_
  rintro r w3 ⟨rfl, hb3'⟩
  have hb3 := hb2.trans (hb3'.mono hb2.size)
  have c30 := (hb3.cell (p := ⟨w.heap.size, 0, none⟩) (by show w.heap.size < _; omega)).trans a0
  have c31 := (hb3.cell (p := ⟨w.heap.size, 1, none⟩) (by show w.heap.size < _; omega)).trans a1
  have c32 := (hb3.cell (p := ⟨w.heap.size, 2, none⟩) (by show w.heap.size < _; omega)).trans a2
  have c33 := (hb3.cell (p := ⟨w.heap.size, 3, none⟩) (by show w.heap.size < _; omega)).trans a3
  clear hb3' K2 c20 c21 c22 c23
  go_wp2_with fail
  refine (HT.out w3 hb3).mono ?_
  rintro r w4 ⟨A4, c4, rfl, hc4, hO4, hb4'⟩
  have hb4 := hb3.trans (hb4'.mono hb3.size)
  have K4 := HK.out w4 _ _ A4 hO4 w4.heap.size (Nat.le_refl _)
  obtain ⟨W5, hW5⟩ : ∃ W5, W5 = w4.alloc (.cells #[.int .i64 e.kind, .int .i64 e.n, .string e.s, .slice A4 e.kids.length c4] 29) := ⟨_, rfl⟩
  have hb5' : Below w4.heap.size w4 W5 := by rw [hW5]; exact (Below.refl _ w4).alloc (Nat.le_refl _) _
  have hs5 : W5.heap.size = w4.heap.size + 1 := by rw [hW5]; simp
  have hb5 := hb4.trans (hb5'.mono hb4.size)
  have K5 := Lib.hid (K4.keep hb5')
  have b0 : W5.cell? ⟨w4.heap.size, 0, none⟩ = some (.int .i64 e.kind) := by rw [hW5]; exact cell_made4 w4 _ _ 0 _ rfl
  have b1 : W5.cell? ⟨w4.heap.size, 1, none⟩ = some (.int .i64 e.n) := by rw [hW5]; exact cell_made4 w4 _ _ 1 _ rfl
  have b2 : W5.cell? ⟨w4.heap.size, 2, none⟩ = some (.string e.s) := by rw [hW5]; exact cell_made4 w4 _ _ 2 _ rfl
  have b3 : W5.cell? ⟨w4.heap.size, 3, none⟩ = some (.slice A4 e.kids.length c4) := by rw [hW5]; exact cell_made4 w4 _ _ 3 _ rfl
  clear hO4 hb4' K4 c30 c31 c32 c33
  go_wp2_with fail
  rw [← hW5]
  refine (HI.out A4 c4 w4.heap.size W5 K5.out hc4 (by omega)).mono ?_
  rintro r w6 ⟨rfl, hb6'⟩
  have hb6 := hb5.trans (hb6'.mono hb5.size)
  have x0 := (hb6'.cell (p := ⟨w4.heap.size, 0, none⟩) (by show w4.heap.size < _; omega)).trans b0
  have x1 := (hb6'.cell (p := ⟨w4.heap.size, 1, none⟩) (by show w4.heap.size < _; omega)).trans b1
  have x2 := (hb6'.cell (p := ⟨w4.heap.size, 2, none⟩) (by show w4.heap.size < _; omega)).trans b2
  have x3 := (hb6'.cell (p := ⟨w4.heap.size, 3, none⟩) (by show w4.heap.size < _; omega)).trans b3
  have y0 := (hb6.cell (p := ⟨w.heap.size, 0, none⟩) (by show w.heap.size < _; omega)).trans a0
  have y1 := (hb6.cell (p := ⟨w.heap.size, 1, none⟩) (by show w.heap.size < _; omega)).trans a1
  have y2 := (hb6.cell (p := ⟨w.heap.size, 2, none⟩) (by show w.heap.size < _; omega)).trans a2
  have y3 := (hb6.cell (p := ⟨w.heap.size, 3, none⟩) (by show w.heap.size < _; omega)).trans a3
  have g1 : w4.heap.size < w6.heap.size := by have := hb6'.size; omega
  have g2 : w.heap.size < w6.heap.size := by have := hb6.size; omega
  have K6 := Lib.hid (K5.out.keep (hb6'.mono hb5'.size))
  have HB := Lib.hid (hb0.trans (hb6.mono hb0.size))
  clear a0 a1 a2 a3 b0 b1 b2 b3 hW5 hW0 hb6' hb5' K5 HS HI hb1 hb2 hb3 hb4 hb5
  go_wp2_with fail
  go_region_held3 (fun w' => w'.cell? ⟨w4.heap.size, 0, none⟩ = some (.int .i64 e.kind) ∧ w'.cell? ⟨w4.heap.size, 1, none⟩ = some (.int .i64 e.n) ∧ w'.cell? ⟨w4.heap.size, 2, none⟩ = some (.string e.s) ∧ w'.cell? ⟨w4.heap.size, 3, none⟩ = some (.slice A4 e.kids.length c4) ∧ w'.cell? ⟨w.heap.size, 0, none⟩ = some (.int .i64 e.kind) ∧ w'.cell? ⟨w.heap.size, 1, none⟩ = some (.int .i64 e.n) ∧ w'.cell? ⟨w.heap.size, 2, none⟩ = some (.string e.s) ∧ w'.cell? ⟨w.heap.size, 3, none⟩ = some (.slice A e.kids.length c) ∧ Below w6.heap.size w6 w')
    (first | exact ⟨x0, x1, x2, x3, y0, y1, y2, y3, (Below.refl _ w6).drew⟩ | exact ⟨(hb8.cell (p := ⟨w4.heap.size, 0, none⟩) g1).trans x0, (hb8.cell (p := ⟨w4.heap.size, 1, none⟩) g1).trans x1, (hb8.cell (p := ⟨w4.heap.size, 2, none⟩) g1).trans x2, (hb8.cell (p := ⟨w4.heap.size, 3, none⟩) g1).trans x3, (hb8.cell (p := ⟨w.heap.size, 0, none⟩) g2).trans y0, (hb8.cell (p := ⟨w.heap.size, 1, none⟩) g2).trans y1, (hb8.cell (p := ⟨w.heap.size, 2, none⟩) g2).trans y2, (hb8.cell (p := ⟨w.heap.size, 3, none⟩) g2).trans y3, hb8⟩ | exact ⟨(hb7.cell (p := ⟨w4.heap.size, 0, none⟩) g1).trans x0, (hb7.cell (p := ⟨w4.heap.size, 1, none⟩) g1).trans x1, (hb7.cell (p := ⟨w4.heap.size, 2, none⟩) g1).trans x2, (hb7.cell (p := ⟨w4.heap.size, 3, none⟩) g1).trans x3, (hb7.cell (p := ⟨w.heap.size, 0, none⟩) g2).trans y0, (hb7.cell (p := ⟨w.heap.size, 1, none⟩) g2).trans y1, (hb7.cell (p := ⟨w.heap.size, 2, none⟩) g2).trans y2, (hb7.cell (p := ⟨w.heap.size, 3, none⟩) g2).trans y3, hb7⟩)
    (first | (go_at_call 9; refine (HT.out _ (hb6.trans ((Below.refl _ w6).drew.mono hb6.size))).mono ?_; rintro r w7 ⟨A7, c7, rfl, hc7, hO7, hb7'⟩; have hb7 : Below w6.heap.size w6 w7 := (Below.refl _ w6).drew.trans hb7'; have HQ7 := Lib.hid (fun (W : World) (X : Below w7.heap.size w7 W) => HQ.out A4 A7 c4 c7 w7.heap.size W ((K6.out.keep ((hb7.trans (X.mono hb7.size)).mono (Nat.le_of_lt g1))).wide (Nat.le_trans (Nat.le_of_lt g1) hb7.size)) ((HK.out w7 _ _ A7 hO7 w7.heap.size (Nat.le_refl _)).keep X) hc4 hc7 X.size); clear hO7 hb7') | (go_at_call 11; (first | refine (HQ7.out _ (Below.refl _ w7)).mono ?_ | refine (HQ7.out _ (Below.refl _ w7).drew).mono ?_); rintro r w8 ⟨rfl, hb8'⟩; have hb8 : Below w6.heap.size w6 w8 := hb7.trans (hb8'.mono hb7.size)))
  rename_i hh
  go_wp2_with fail
  go_ret
  exact ⟨rfl, HB.out.trans (hb8.mono HB.out.size)⟩

set_option linter.unusedVariables false in
set_option maxRecDepth 100000 in
theorem lifted (os : Os) (started : os.Started) (H : Type) (enc : TypeId × Value → H) :
    ReturnsInHanded {} Tryd.checked os 3 .any (fun w args => (Rows.fnExactExprOkSpec.pre enc Tryd.prog Tryd.f3 [] false w args ∧ laidMetH Tryd.prog laidL w) ∧ sizedMet enc Tryd.prog Tryd.f3 (OpenSpec.ofChange Rows.fnExactExprOkSpec) false w args)
      (Rows.fnExactExprOkSpec.post enc Tryd.prog Tryd.f3 false true false false) := by
  refine returnsInHanded_of_change_and (C := Tryd.checked) (X := fun w _ => laidMetH Tryd.prog laidL w) (fun _ _ _ hh h => h.of_heap hh) own started (by kernel_rfl) Tryd.func3
    (ChangeSpec.witness_shaped (enc := enc) (C := Tryd.checked) (os := os) (X := fun w _ => laidMetH Tryd.prog laidL w) false (World.doorLaid Tryd.prog 62 os) #[.agg #[.int .i64 0, .int .i64 0, .string ByteArray.empty, .slice none 0 0]] 8 rfl (World.shaped_of_RefB (by kernel_rfl) (by kernel_rfl)) (by kernel_rfl) (by kernel_rfl) (by kernel_rfl) (door_met os _)) ?_
  intro W base args ds gs before hval0 hW _ _ hL _
  have hval : ∀ (j : Nat) t v, Tryd.f3.params[j]? = some t → args[j]? = some v → Value.okWide Tryd.prog W .any base t v := hval0
  have hW' := hW
  obtain ⟨p, q, hA0, hV, rfl, hfz, hnd⟩ := hW
  have hA : DataW.TrodAll enc Tryd.prog W 0 (fun _ => true) true Tryd.f3.params.toList args.toList ds p := hA0
  rw [Tryd.params3] at hA hval
  obtain ⟨v0, vs0, d0, ds0, p0, q0, hargs, rfl, rfl, h0, r0⟩ := trodAll_cons hA
  obtain ⟨rfl, rfl, rfl⟩ := trodAll_nil r0
  obtain rfl : args = #[v0] := by cases args; simp_all
  obtain ⟨rfl, rfl⟩ := trodVars_none hV
  have k0 := h0
  have lt0 : ∀ x ∈ p0, x.block < W.heap.size := by obtain ⟨m, hm⟩ := k0; exact DataW.trod_lt m _ _ _ hm
  obtain ⟨a0, A0, c0, e0, w0⟩ := open_ex (hval 0 24 v0 rfl rfl) h0
  subst e0
  clear hA0 hval0
  refine (walk a0 A0 c0 W w0 (of_laid hL)).mono fun e W' ⟨he, bel⟩ => ?_
  subst he
  exact ⟨_, rfl, _, _, _, [], _, [], hW', trodAll_mk1 (shut_bool Tryd.underlying4 _), (trodAll_cons_mk (Below.trod laidOut (by kernel_rfl) (of_decide_eq_true (by kernel_rfl)) k0 bel lt0) trodAll_mk0), rfl, bel.frame _, fun h => by cases h⟩

theorem over : Rows.fnExactExprOkRow.holds Tryd.pinned (OpenSpec.ofChange Rows.fnExactExprOkSpec) :=
  OpenClaim.holds_of_wide 3 Tryd.f3 rfl rfl rfl rfl rfl rfl rfl ⟨rfl, rfl, rfl, rfl, rfl⟩ rfl rfl rfl rfl rfl (by kernel_rfl) Tryd.func3 (by kernel_rfl)
    (of_decide_eq_true (by kernel_rfl)) (by unfold Func.isWrapper; first | (rw [if_pos (by decide +kernel)]; kernel_rfl) | (rw [if_neg (by decide +kernel)]; exact ⟨rfl, rfl⟩))
    (fun os started H enc _ => lifted os started H enc)
end Go.Proofs.YtaclndbilpaboaaDoor.fnExactExprOk
namespace Go.Proofs.YtaclndbilpaboaaDoor

/-- The given statement. -/
theorem fnExactExprOk_proved : Rows.FnExactExprOkCardSaid :=
  Claim7.holds_tied_plain_at .later [] [.data, .data, .data, .sentinel, .sentinel] true (true, "458effa130e5440ecc25a60a7a08ba0ec3bc6484c6fcde7230d9dc0308758b65") true
    fnExactExprOk.over (fun _ h => by cases h) (by kernel_rfl) (fun _ h => by cases h) fnExactExprOk_row_tie rfl ⟨rfl, rfl⟩ (by kernel_rfl) rfl
    (fun f fn hf hfn => by
      obtain rfl : f = 3 := Option.some.inj ((show Tryd.prog.funcNamed "loop.example/interlinear/laws.FnExactExprOk" = some 3 by kernel_rfl).symm.trans hf) |>.symm
      obtain rfl : fn = Tryd.f3 := (Option.some.inj (Tryd.func3.symm.trans hfn)).symm
      exact ⟨by kernel_rfl, fun j t ht => by
        rw [Tryd.params3] at ht
        have hm : t ∈ [24] := by simpa using Array.mem_of_getElem? ht
        have hall : ([24].all fun u => !Tryd.prog.wantsStandIn u) = true := by kernel_rfl
        exact (show Tryd.prog.wantsStandIn t = false by simpa using List.all_eq_true.1 hall t hm)⟩)
    (by kernel_rfl)
#print axioms fnExactExprOk_proved
end Go.Proofs.YtaclndbilpaboaaDoor
