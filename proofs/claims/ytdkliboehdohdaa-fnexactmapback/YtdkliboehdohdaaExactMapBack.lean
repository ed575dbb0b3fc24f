/-
  'laws.FnExactMapBack' returns true at every list of Seg and every place: impl.MapBack and the model's MapBack answer the same, nothing is written into the list, and each answer is memory of its own.
  Conditions: none; every list of Seg and every place.
-/
import Derived.Test.YtdkliboehdohdaaMapBackJ
import Derived.Test.YtdkliboehdohdaaOpenSegs
import Derived.Test.YtdkliboehdohdaaRows
import Derived.WalkKit
import Derived.ProofKit
import Derived.OpenShut
import Derived.ShutString
import Derived.ChangeOld
import Derived.Below
import Derived.Lib.SmallJoins
import Derived.SliceStrings
namespace Go.Proofs.Ytdkliboehdohdaa.fnExactMapBack
open Go.ChangeShapes Go.WideShapes Go.ChangeAt Go.RowKit Go.Joins
open Go.ChangeMaps (open_string shut_string)


theorem bel_then {w1 W W' : World} (h : Below w1.heap.size w1 W) (h2 : Below W.heap.size W W') : Below w1.heap.size w1 W' := h.trans (h2.mono h.size)
theorem hsl_then {W W' : World} {A : Option Addr} {xs : List Value} (h : Hid (SlIs W A xs)) (h2 : Below W.heap.size W W') : Hid (SlIs W' A xs) := Lib.hid (h.out.below h2)
theorem hold2 {w1 W : World} {g : Nat} {l cc : Int} (hg : g < w1.heap.size) (a0 : w1.cell? ⟨g, 0, none⟩ = some (.int .i64 l)) (a1 : w1.cell? ⟨g, 1, none⟩ = some (.int .i64 cc)) (h : Below w1.heap.size w1 W) :
    W.cell? ⟨g, 0, none⟩ = some (.int .i64 l) ∧ W.cell? ⟨g, 1, none⟩ = some (.int .i64 cc) ∧ Below w1.heap.size w1 W :=
  ⟨(h.cell (p := ⟨g, 0, none⟩) hg).trans a0, (h.cell (p := ⟨g, 1, none⟩) hg).trans a1, h⟩
/-- What one owns stays as it was where another row is turned, that lay there before. -/
theorem owns_apart {V W W' : World} {B B' sz sz' n n' : Nat} {t t' : TypeId} {v v' : Value} {xs xs' : List Value} (h : W.ownsRow B t sz v n xs) (hx : V.ownsRow B' t' sz' v' n' xs') (hB : V.heap.size ≤ B) (hg : W.grownBy W' v'.ownBlock) : W'.ownsRow B t sz v n xs := by
  refine h.kept hg ?_
  rcases h.2 with ⟨rfl, _⟩ | ⟨g, cap, cur, rfl, hb, _⟩
  · exact .inl rfl
  · refine .inr fun e => ?_
    rcases hx.2 with ⟨rfl, _⟩ | ⟨g', cap', cur', rfl, _, hg', _⟩
    · simp [Value.ownBlock] at e
    · simp [Value.ownBlock] at e
      have := (Array.getElem?_eq_some_iff.1 hg').1
      omega
theorem mark_one (R : Nat → Prop) (h : R 1) : R 1 := h
theorem heldPosS_one (A : Option Addr) (c n : Nat) (w : World) (hl : n ≤ 2 ^ 30) (hA : SlIs w A (marksI 1 (n * 2))) :
    Calls Try.prog 21 #[.slice A n c, .int .i64 1] w fun e w' => e = .returned (.int .i64 ((1 + 2 * n : Nat) : Int)) ∧ w = w' := heldPosS_ok A c 1 n w (by omega) hA
theorem markPosS_one (base : Nat) (A : Option Addr) (c n : Nat) (R : List Value) (w : World) (hl : n ≤ 2 ^ 30) (hown : w.ownsRow base 31 2 (.slice A n c) n R) :
    Calls Try.prog 20 #[.slice A n c, .int .i64 1] w fun e w' => e = .returned (.int .i64 ((1 + 2 * n : Nat) : Int)) ∧ w'.ownsRow base 31 2 (.slice A n c) n (marksI 1 (n * 2)) ∧ Below base w w' ∧ w.grownBy w' (Value.slice A n c).ownBlock := markPosS_own base A c 1 n R w (by omega) hown
theorem markSegS_one (base : Nat) (A : Option Addr) (c n : Nat) (R : List Value) (w : World) (hl : n ≤ 2 ^ 30) (hown : w.ownsRow base 46 4 (.slice A n c) n R) :
    Calls Try.prog 19 #[.slice A n c, .int .i64 1] w fun e w' => e = .returned (.int .i64 ((1 + 4 * n : Nat) : Int)) ∧ w'.ownsRow base 46 4 (.slice A n c) n (marksI 1 (n * 4)) ∧ Below base w w' ∧ w.grownBy w' (Value.slice A n c).ownBlock := markSegS_own base A c 1 n R w (by omega) hown

set_option maxRecDepth 100000 in
set_option maxHeartbeats 4000000 in
theorem walk (A : Option Addr) (n c : Nat) (xs : List Sg) (l cc : Int) (w : World) (hx : IsSegs w A n xs ∧ n ≤ c) (_ : (Lit.int .i64 l).wf = true ∧ (Lit.int .i64 cc).wf = true) :
    Calls Try.prog 5 #[.slice A n c, .agg #[.int .i64 l, .int .i64 cc]] w fun e w' => e = .returned (.bool true) ∧ Below w.heap.size w w' := by
  obtain ⟨hx, _⟩ := hx
  obtain ⟨W0, hW0⟩ : ∃ W0, W0 = w.alloc (.cells #[.int .i64 l, .int .i64 cc] 30) := ⟨_, rfl⟩
  have hb0 : Below w.heap.size w W0 := by rw [hW0]; exact (Below.refl _ w).alloc (Nat.le_refl _) _
  have BP : BlkG W0 w.heap.size #[.int .i64 l, .int .i64 cc] 30 := by rw [hW0]; exact blkG_new w _ _
  have HSX := Lib.hid (szSegS_any A c n 1048576 W0 hx.2.1 (by omega) (by omega))
  obtain ⟨rfl, hm, hA⟩ := hx
  have HA := Lib.hid (hA.below hb0)
  have HBP := Lib.hid BP
  clear hA hm BP
  go_enter Try.func5, Try.ntmps5
  go_wp2_with fail
  rw [← hW0]
  clear hW0
  refine HSX.out.mono ?_
  rintro e w1 ⟨r, rfl, hr, hrl, hb1'⟩
  have hb1 := hb0.trans (hb1'.mono hb0.size)
  by_cases hneg : r < 0
  · have q0 : decide (r < 0) = true := by simpa using hneg
    go_wp2_with fail
    go_ret
    exact ⟨rfl, hb1⟩
  · have hlen : xs.length ≤ 1048576 := by have := hr (by omega); omega
    have q0 : decide (r < 0) = false := by simpa using hneg
    have HA1 := Lib.hid (HA.out.below hb1')
    have HP1 := Lib.hid (HBP.out.stay (hb1'.block _ HBP.out.lt))
    have a0 := HP1.out.cell 0
    have a1 := HP1.out.cell 1
    simp only [List.getElem?_toArray, List.getElem?_cons_zero, List.getElem?_cons_succ] at a0 a1
    have hgw1 := HP1.out.lt
    have HTOw1 := Lib.hid (fun W h => toSegS_any A c xs W (by omega) (HA1.out.below h))
    have HSP := Lib.hid (fun A' c' W (h : SlIs W A' (rowG xs)) => specMapBack_any A' c' xs l cc W (by omega) h)
    have HIM := Lib.hid (fun A' c' W (h : SlIs W A' (rowG xs)) => mapBack_any A' c' xs l cc W (by omega) h)
    unfold GivesQ at HSP HIM
    have HEQ := Lib.hid (fun A' B' c' d' W h1 h2 => eqSegS_same A' B' c' d' xs W (by omega) h1 h2)
    have hql : (backL xs l cc).length ≤ 1048576 := by
      unfold backL
      split
      · exact Nat.le_trans (told_len _ _ _) hlen
      · simp
    have HEP := Lib.hid (fun A' B' c' d' W h1 h2 => eqPosS_same A' B' c' d' (backL xs l cc) W (by omega) h1 h2)
    have HMX := Lib.hid (fun base A' c' W h => markSegS_one base A' c' xs.length (rowG xs) W (by omega) h)
    have HMQ := Lib.hid (fun base A' c' W h => markPosS_one base A' c' (backL xs l cc).length (rowQ (backL xs l cc)) W (by omega) h)
    have HHQ := Lib.hid (fun A' c' W h => heldPosS_one A' c' (backL xs l cc).length W (by omega) h)
    have HPS := Lib.hid (toPos_any l cc)
    generalize backL xs l cc = qs at *
    have q1 : decide (((1 + 4 * xs.length : Nat) : Int) < 0) = false := by simp; omega
    have q2 : decide (((1 + 2 * qs.length : Nat) : Int) < 0) = false := by simp; omega
    have q3 : (((1 + 2 * qs.length : Nat) : Int) != ((1 + 2 * qs.length : Nat) : Int)) = false := by simp
    have q4 : decide ((1 : Int) + 4 * (xs.length : Int) < 0) = false := by simp; omega
    have q5 : decide ((1 : Int) + 2 * (qs.length : Int) < 0) = false := by simp; omega
    have q6 : ((1 : Int) + 2 * (qs.length : Int) != (1 : Int) + 2 * (qs.length : Int)) = false := by simp
    clear hr HSX HA HBP hlen hql
    go_wp2_with fail
    go_region_held3 (fun w' => w'.cell? ⟨w.heap.size, 0, none⟩ = some (.int .i64 l) ∧ w'.cell? ⟨w.heap.size, 1, none⟩ = some (.int .i64 cc) ∧ Below w1.heap.size w1 w')
      (exact hold2 hgw1 a0 a1 (by (with_reducible (first | assumption | exact (Below.refl _ w1).drew))))
      (first | (go_at_call 9; refine (HTOw1.out _ (by (with_reducible (first | assumption | exact (Below.refl _ w1).drew)))).mono ?_; rintro e w2 ⟨v, rfl, hv, hb2'⟩; have hb2 : Below w1.heap.size w1 w2 := bel_then (by (with_reducible (first | assumption | exact (Below.refl _ w1).drew))) hb2'; obtain ⟨A2, c2, rfl, _⟩ := own_sliceG hv; have HS2 := Lib.hid (SlIs.ownG hv); clear hv) | (go_at_call 13; refine (HPS.out _).mono ?_; rintro e w3 ⟨rfl, hb3'⟩; have hb3 := bel_then hb2 hb3'; have HS3 := hsl_then HS2 hb3') | (go_at_call 16; refine (HSP.out _ _ _ HS3.out).mono ?_; rintro e w4 ⟨v, rfl, hv, hb4'⟩; have hb4 := bel_then hb3 hb4'; obtain ⟨A4, c4, rfl, _⟩ := own_sliceG hv; have HO4 := Lib.hid hv; clear hv))
    go_wp2_with fail
    refine (HTOw1.out _ hb4).mono ?_
    rintro e w5 ⟨v, rfl, hv, hb5'⟩
    have hb5 := bel_then hb4 hb5'
    obtain ⟨A5, c5, rfl, _⟩ := own_sliceG hv
    have HX5 := Lib.hid hv
    have HS4 := Lib.hid (SlIs.ownG HO4.out)
    have b0 := (hb5.cell (p := ⟨w.heap.size, 0, none⟩) hgw1).trans a0
    have b1 := (hb5.cell (p := ⟨w.heap.size, 1, none⟩) hgw1).trans a1
    clear hv
    go_wp2_with fail
    refine (HPS.out _).mono ?_
    rintro e w6 ⟨rfl, hb6'⟩
    have hb46 : Below w4.heap.size w4 w6 := bel_then hb5' hb6'
    have HX6 := Lib.hid (own_below HX5.out hb6')
    go_wp2_with fail
    refine (HIM.out _ _ _ (SlIs.ownG HX6.out)).mono ?_
    rintro e w7 ⟨v, rfl, hv, hb7'⟩
    have hb47 := bel_then hb46 hb7'
    obtain ⟨A7, c7, rfl, _⟩ := own_sliceG hv
    have HG7 := Lib.hid hv
    have HX7 := Lib.hid (own_below HX6.out hb7')
    clear hv
    go_wp2_with fail
    refine (HEP.out _ _ _ _ _ (SlIs.ownG HG7.out) (HS4.out.below hb47)).mono ?_
    rintro e w8 ⟨rfl, hb8'⟩
    have hb48 := bel_then hb47 hb8'
    have HX8 := Lib.hid (own_below HX7.out hb8')
    have HG8 := Lib.hid (own_below HG7.out hb8')
    go_wp2_with fail
    refine (HTOw1.out _ (bel_then hb4 hb48)).mono ?_
    rintro e w9 ⟨v, rfl, hv, hb9'⟩
    have hb49 := bel_then hb48 hb9'
    obtain ⟨A9, c9, rfl, _⟩ := own_sliceG hv
    have HS9 := Lib.hid (SlIs.ownG hv)
    have HX9 := Lib.hid (own_below HX8.out hb9')
    have HG9 := Lib.hid (own_below HG8.out hb9')
    clear hv
    go_wp2_with fail
    refine (HEQ.out _ _ _ _ _ (SlIs.ownG HX9.out) HS9.out).mono ?_
    rintro e w10 ⟨rfl, hb10'⟩
    have hb410 := bel_then hb49 hb10'
    have HX10 := Lib.hid (own_below HX9.out hb10')
    have HG10 := Lib.hid (own_below HG9.out hb10')
    go_wp2_with fail
    refine (HMX.out _ _ _ _ HX10.out).mono ?_
    rintro e w11 ⟨rfl, hx11, hb11', hg11⟩
    have hb411 : Below w4.heap.size w4 w11 := hb410.trans hb11'
    have HG11 := Lib.hid (owns_apart HG10.out HX5.out hb6'.size hg11)
    clear hx11 hg11 HX5 HX6 HX7 HX8 HX9 HX10 HG7 HG8 HG9 HG10
    go_wp2_with fail
    refine (HEP.out _ _ _ _ _ (SlIs.ownG HG11.out) (HS4.out.below hb411)).mono ?_
    rintro e w12 ⟨rfl, hb12'⟩
    have hb412 := bel_then hb411 hb12'
    have HG12 := Lib.hid (own_below HG11.out hb12')
    go_wp2_with fail
    refine (HMQ.out _ _ _ _ HG12.out).mono ?_
    rintro e w13 ⟨rfl, hx13, hb13', hg13⟩
    have hb413 : Below w4.heap.size w4 w13 := hb412.trans (hb13'.mono hb46.size)
    have HM13 := Lib.hid (SlIs.ownG hx13)
    clear hx13 hg13 HG11 HG12
    go_wp2_with fail
    refine (HHQ.out _ _ _ HM13.out).mono ?_
    rintro e w14 ⟨rfl, rfl⟩
    have hbz := bel_then hb4 hb413
    have d0 := (hbz.cell (p := ⟨w.heap.size, 0, none⟩) hgw1).trans a0
    have d1 := (hbz.cell (p := ⟨w.heap.size, 1, none⟩) hgw1).trans a1
    have hgw13 := Nat.lt_of_lt_of_le hgw1 hbz.size
    have HTOw13 := Lib.hid (fun W (h : Below w13.heap.size w13 W) => HTOw1.out W (bel_then hbz h))
    go_wp2_with fail
    go_region_held3 (fun w' => w'.cell? ⟨w.heap.size, 0, none⟩ = some (.int .i64 l) ∧ w'.cell? ⟨w.heap.size, 1, none⟩ = some (.int .i64 cc) ∧ Below w13.heap.size w13 w')
      (exact hold2 hgw13 d0 d1 (by (with_reducible (first | assumption | exact (Below.refl _ w13).drew))))
      (first | (go_at_call 9; refine (HTOw13.out _ (by (with_reducible (first | assumption | exact (Below.refl _ w13).drew)))).mono ?_; rintro e w15 ⟨v, rfl, hv, hb15'⟩; have hb15 : Below w13.heap.size w13 w15 := bel_then (by (with_reducible (first | assumption | exact (Below.refl _ w13).drew))) hb15'; obtain ⟨A15, c15, rfl, _⟩ := own_sliceG hv; have HS15 := Lib.hid (SlIs.ownG hv); clear hv) | (go_at_call 13; refine (HPS.out _).mono ?_; rintro e w16 ⟨rfl, hb16'⟩; have hb16 := bel_then hb15 hb16'; have HS16 := hsl_then HS15 hb16') | (go_at_call 17; refine (HIM.out _ _ _ HS16.out).mono ?_; rintro e w17 ⟨v, rfl, hv, hb17'⟩; have hb17 := bel_then hb16 hb17'; obtain ⟨A17, c17, rfl, _⟩ := own_sliceG hv; have HO17 := Lib.hid hv; clear hv))
    go_wp2_with fail
    refine (HEP.out _ _ _ _ _ (SlIs.ownG HO17.out) (HS4.out.below (bel_then hb413 hb17))).mono ?_
    rintro e w18 ⟨rfl, hb18'⟩
    have hb18 := bel_then hb17 hb18'
    go_wp2_with fail
    refine (HHQ.out _ _ _ (HM13.out.below hb18)).mono ?_
    rintro e w19 ⟨rfl, rfl⟩
    go_wp2_with fail
    go_ret
    exact ⟨rfl, hb1.trans ((bel_then hbz hb18).mono hb1.size)⟩

theorem own : ownKnob Try.prog.godebug = none := by kernel_rfl
theorem laidOut : laidOutB Try.prog = true := by kernel_rfl
theorem cellsPos : Try.prog.cellsOf 30 = 2 := by kernel_rfl

set_option linter.unusedVariables false in
set_option maxRecDepth 100000 in
theorem lifted (os : Os) (started : os.Started) (H : Type) (enc : TypeId × Value → H) :
    ReturnsInHanded {} Try.checked os 5 .any (Rows.fnExactMapBackSpec.pre6 enc Try.prog Try.f5 Rows.fnExactMapBackRow.domain false) (Rows.fnExactMapBackSpec.post enc Try.prog Try.f5 false true false false) := by
  refine returnsInHanded_of_change (C := Try.checked) own started (by kernel_rfl) Try.func5
    (ChangeSpec.witness6 (enc := enc) (C := Try.checked) false ⟨#[], #[.slice none 0 0, .agg #[.int .i64 0, .int .i64 0]], []⟩ 8 (by kernel_rfl) (by kernel_rfl) (by kernel_rfl) (by kernel_rfl)) ?_
  intro W base args ds gs before hval0 hW hcnd _
  have hval : ∀ (j : Nat) t v, Try.f5.params[j]? = some t → args[j]? = some v → Value.okWide Try.prog W .any base t v := hval0
  have hW' := hW
  obtain ⟨p, q, hA0, hV, rfl, hfz, hnd⟩ := hW
  have hA : DataW.TrodAll enc Try.prog W 0 (fun _ => true) true Try.f5.params.toList args.toList ds p := hA0
  rw [Try.params5] at hA hval
  obtain ⟨v0, vs0, d0, ds0, p0, q0, hargs, rfl, rfl, h0, r0⟩ := trodAll_cons hA
  obtain ⟨v1, vs1, d1, ds1, p1, q1, rfl, rfl, rfl, h1, r1⟩ := trodAll_cons r0
  obtain ⟨rfl, rfl, rfl⟩ := trodAll_nil r1
  obtain rfl : args = #[v0, v1] := by cases args; simp_all
  obtain ⟨rfl, rfl⟩ := trodVars_none hV
  have k0 := h0
  have lt0 : ∀ x ∈ p0, x.block < W.heap.size := by obtain ⟨m, hm⟩ := k0; exact DataW.trod_lt m _ _ _ hm
  have k1 := h1
  have lt1 : ∀ x ∈ p1, x.block < W.heap.size := by obtain ⟨m, hm⟩ := k1; exact DataW.trod_lt m _ _ _ hm
  obtain ⟨a0, len0, cap0, e0⟩ := okWide_slice Try.underlying22 (hval 0 22 v0 rfl rfl)
  subst e0
  obtain ⟨z0, w0⟩ : ∃ xs, IsSegs W a0 len0 xs ∧ len0 ≤ cap0 := by
    obtain ⟨fuel, hf⟩ := h0
    exact open_segs hf rfl
  obtain ⟨a1, b1, e1, w1⟩ : ∃ a b : Int, v1 = .agg #[.int .i64 a, .int .i64 b] ∧ (Lit.int .i64 a).wf = true ∧ (Lit.int .i64 b).wf = true := by
    obtain ⟨c0, c1, y0, y1, m, rfl, _, _, hy0, hy1⟩ := open_agg2 Try.underlying30 (by kernel_rfl) cellsPos (hval 1 30 v1 rfl rfl) h1
    obtain ⟨a, e0, _, wa⟩ := DataW.trod_int Try.underlying3 hy0
    obtain ⟨b, e1, _, wb⟩ := DataW.trod_int Try.underlying3 hy1
    simp at e0 e1
    subst e0 e1
    exact ⟨a, b, rfl, wa, wb⟩
  subst e1
  clear hA0 hval0
  refine (walk a0 len0 cap0 z0 a1 b1 W w0 w1).mono fun e W' ⟨he, bel⟩ => ?_
  subst he
  exact ⟨_, rfl, _, _, _, [], _, [], hW', trodAll_mk1 (shut_bool Try.underlying4 _), (trodAll_cons_mk (Below.trod laidOut (by kernel_rfl) (of_decide_eq_true (by kernel_rfl)) k0 bel lt0) (trodAll_cons_mk (Below.trod laidOut (by kernel_rfl) (of_decide_eq_true (by kernel_rfl)) k1 bel lt1) trodAll_mk0)), rfl, bel.frame _, fun h => by cases h⟩

theorem fact_inPlace : (Rows.fnExactMapBackRow.inPlace == Try.pinned.checked.prog.inPlace 5) = true := by kernel_rfl
theorem fact_unfollowed : (Rows.fnExactMapBackRow.unfollowed == Try.pinned.checked.prog.unfollowed 5) = true := by kernel_rfl
theorem fact_recurses : (Rows.fnExactMapBackRow.recurses == Try.pinned.checked.prog.recurses 5) = true := by kernel_rfl
theorem fact_named : (Rows.fnExactMapBackRow.named == Try.pinned.checked.prog.varsNamed 5) = true := by kernel_rfl
theorem over : Rows.fnExactMapBackRow.holds Try.pinned (OpenSpec.ofChange Rows.fnExactMapBackSpec) :=
  OpenClaim.holds_of_wide 5 Try.f5 rfl rfl rfl rfl rfl rfl rfl ⟨rfl, rfl, rfl, rfl, rfl⟩ rfl rfl rfl rfl rfl (by kernel_rfl) Try.func5 (by unfold joinedFacts; rw [fact_inPlace, fact_unfollowed, fact_recurses, fact_named]; kernel_rfl)
    (of_decide_eq_true (by kernel_rfl)) (by unfold Func.isWrapper; first | (rw [if_pos (by decide +kernel)]; kernel_rfl) | (rw [if_neg (by decide +kernel)]; exact ⟨rfl, rfl⟩))
    (fun os started H enc _ => lifted os started H enc)
end Go.Proofs.Ytdkliboehdohdaa.fnExactMapBack
namespace Go.Proofs.Ytdkliboehdohdaa

/-- The given statement. -/
theorem fnExactMapBack_proved : Rows.FnExactMapBackSaid := fnExactMapBack.over
#print axioms fnExactMapBack_proved
end Go.Proofs.Ytdkliboehdohdaa
