/-
  'laws.FnExactMapJoin' returns true at every two lists of Seg: impl.MapJoin and the model's MapJoin answer the same, nothing is written into a list, and each answer is memory of its own.
  Conditions: none; every two lists of Seg.
-/
import Derived.Test.YtdkliboehdohdaaMapJoin2
import Derived.Test.YtdkliboehdohdaaOpenSegs
import Derived.Test.YtdkliboehdohdaaRows
import Derived.WalkKit
import Derived.ProofKit
import Derived.OpenShut
import Derived.ShutString
import Derived.ChangeOld
import Derived.Below
import Derived.Lib.SmallJoins
import Derived.SliceStrings
namespace Go.Proofs.Ytdkliboehdohdaa.fnExactMapJoin
open Go.ChangeShapes Go.WideShapes Go.ChangeAt Go.RowKit Go.Joins
open Go.ChangeMaps (open_string shut_string)


theorem bel_then {w1 W W' : World} (h : Below w1.heap.size w1 W) (h2 : Below W.heap.size W W') : Below w1.heap.size w1 W' := h.trans (h2.mono h.size)
theorem hsl_then {W W' : World} {A : Option Addr} {xs : List Value} (h : Hid (SlIs W A xs)) (h2 : Below W.heap.size W W') : Hid (SlIs W' A xs) := Lib.hid (h.out.below h2)
/-- What one owns stays as it was where another row is turned, that lay there before. -/
theorem owns_apart {V W W' : World} {B B' sz sz' n n' : Nat} {t t' : TypeId} {v v' : Value} {xs xs' : List Value} (h : W.ownsRow B t sz v n xs) (hx : V.ownsRow B' t' sz' v' n' xs') (hB : V.heap.size ≤ B) (hg : W.grownBy W' v'.ownBlock) : W'.ownsRow B t sz v n xs := by
  refine h.kept hg ?_
  rcases h.2 with ⟨rfl, _⟩ | ⟨g, cap, cur, rfl, hb, _⟩
  · exact .inl rfl
  · refine .inr fun e => ?_
    rcases hx.2 with ⟨rfl, _⟩ | ⟨g', cap', cur', rfl, _, hg', _⟩
    · simp [Value.ownBlock] at e
    · simp [Value.ownBlock] at e
      have := (Array.getElem?_eq_some_iff.1 hg').1
      omega
theorem heldSegS_one (A : Option Addr) (c n : Nat) (w : World) (hl : n ≤ 2 ^ 30) (hA : SlIs w A (marksI 1 (n * 4))) :
    Calls Try.prog 24 #[.slice A n c, .int .i64 1] w fun e w' => e = .returned (.int .i64 ((1 + 4 * n : Nat) : Int)) ∧ w = w' := heldSegS_ok A c 1 n w (by omega) hA
theorem markSegS_one (base : Nat) (A : Option Addr) (c n : Nat) (R : List Value) (w : World) (hl : n ≤ 2 ^ 30) (hown : w.ownsRow base 46 4 (.slice A n c) n R) :
    Calls Try.prog 19 #[.slice A n c, .int .i64 1] w fun e w' => e = .returned (.int .i64 ((1 + 4 * n : Nat) : Int)) ∧ w'.ownsRow base 46 4 (.slice A n c) n (marksI 1 (n * 4)) ∧ Below base w w' ∧ w.grownBy w' (Value.slice A n c).ownBlock := markSegS_own base A c 1 n R w (by omega) hown
theorem markSegS_two (base : Nat) (A : Option Addr) (c k n : Nat) (R : List Value) (w : World) (hk : k ≤ 2 ^ 35) (hl : n ≤ 2 ^ 30) (hown : w.ownsRow base 46 4 (.slice A n c) n R) :
    Calls Try.prog 19 #[.slice A n c, .int .i64 (k : Int)] w fun e w' => e = .returned (.int .i64 ((k + 4 * n : Nat) : Int)) ∧ w'.ownsRow base 46 4 (.slice A n c) n (marksI k (n * 4)) ∧ Below base w w' ∧ w.grownBy w' (Value.slice A n c).ownBlock := markSegS_own base A c k n R w (by omega) hown

set_option maxRecDepth 100000 in
set_option maxHeartbeats 4000000 in
theorem walk (A : Option Addr) (n c : Nat) (xs : List Sg) (B : Option Addr) (m d : Nat) (ys : List Sg) (w : World) (hx : IsSegs w A n xs ∧ n ≤ c) (hy : IsSegs w B m ys ∧ m ≤ d) :
    Calls Try.prog 6 #[.slice A n c, .slice B m d] w fun e w' => e = .returned (.bool true) ∧ Below w.heap.size w w' := by
  obtain ⟨hx, _⟩ := hx
  obtain ⟨hy, _⟩ := hy
  have HSX := Lib.hid (szSegS_any A c n 1048576 w hx.2.1 (by omega) (by omega))
  have HSY := Lib.hid (fun left W h0 h1 => szSegS_any B d m left W hy.2.1 h0 h1)
  obtain ⟨rfl, hm, hA⟩ := hx
  obtain ⟨rfl, hm2, hB⟩ := hy
  have HA := Lib.hid hA
  have HB := Lib.hid hB
  clear hA hm hB hm2
  go_enter Try.func6, Try.ntmps6
  go_wp2_with fail
  refine HSX.out.mono ?_
  rintro e w0 ⟨r, rfl, hr, hrl, hb0⟩
  by_cases hneg : r < 0
  · have q0 : decide (r < 0) = true := by simpa using hneg
    go_wp2_with fail
    go_ret
    exact ⟨rfl, hb0⟩
  have hlen : xs.length ≤ 1048576 := by have := hr (by omega); omega
  have q0 : decide (r < 0) = false := by simpa using hneg
  go_wp2_with fail
  refine (HSY.out r w0 (by omega) (by omega)).mono ?_
  rintro e w1 ⟨r2, rfl, hr2, hrl2, hb1'⟩
  have hb1 := hb0.trans (hb1'.mono hb0.size)
  by_cases hneg2 : r2 < 0
  · have q0 : decide (r2 < 0) = true := by simpa using hneg2
    go_wp2_with fail
    go_ret
    exact ⟨rfl, hb1⟩
  have hlen2 : ys.length ≤ 1048576 := by have := hr2 (by omega); omega
  have qq0 : decide (r2 < 0) = false := by simpa using hneg2
  have HTA := Lib.hid (fun W h => toSegS_any A c xs W (by omega) (HA.out.below (show Below w.heap.size w W from hb1.trans (Below.mono (h : Below w1.heap.size w1 W) hb1.size))))
  have HTB := Lib.hid (fun W h => toSegS_any B d ys W (by omega) (HB.out.below (show Below w.heap.size w W from hb1.trans (Below.mono (h : Below w1.heap.size w1 W) hb1.size))))
  have HSP := Lib.hid (fun A' c' B' d' W h h2 => specMapJoin_any A' B' c' d' xs ys W (by omega) (by omega) h h2)
  have HIM := Lib.hid (fun A' c' B' d' W h h2 => mapJoin_any A' B' c' d' xs ys W (by omega) (by omega) h h2)
  unfold GivesG at HSP HIM
  have HEA := Lib.hid (fun A' B' c' d' W h1 h2 => eqSegS_same A' B' c' d' xs W (by omega) h1 h2)
  have HEB := Lib.hid (fun A' B' c' d' W h1 h2 => eqSegS_same A' B' c' d' ys W (by omega) h1 h2)
  have hql : (joinL xs ys).length ≤ 1048576 := Nat.le_trans (joinL_len xs ys) hlen
  have HEP := Lib.hid (fun A' B' c' d' W h1 h2 => eqSegS_same A' B' c' d' (joinL xs ys) W (by omega) h1 h2)
  have HMX := Lib.hid (fun base A' c' W h => markSegS_one base A' c' xs.length (rowG xs) W (by omega) h)
  have HMY := Lib.hid (fun base A' c' W h => markSegS_two base A' c' (1 + 4 * xs.length) ys.length (rowG ys) W (by omega) (by omega) h)
  have HMQ := Lib.hid (fun base A' c' W h => markSegS_one base A' c' (joinL xs ys).length (rowG (joinL xs ys)) W (by omega) h)
  have HHQ := Lib.hid (fun A' c' W h => heldSegS_one A' c' (joinL xs ys).length W (by omega) h)
  generalize joinL xs ys = qs at *
  have q1 : decide (((1 + 4 * xs.length : Nat) : Int) < 0) = false := by simp; omega
  have q2 : decide (((1 + 4 * qs.length : Nat) : Int) < 0) = false := by simp; omega
  have q3 : (((1 + 4 * qs.length : Nat) : Int) != ((1 + 4 * qs.length : Nat) : Int)) = false := by simp
  have q4 : decide ((1 : Int) + 4 * (xs.length : Int) < 0) = false := by simp; omega
  have q5 : decide ((1 : Int) + 4 * (qs.length : Int) < 0) = false := by simp; omega
  have q6 : ((1 : Int) + 4 * (qs.length : Int) != (1 : Int) + 4 * (qs.length : Int)) = false := by simp
  have q7 : decide ((1 : Int) + 4 * (xs.length : Int) + 4 * (ys.length : Int) < 0) = false := by simp; omega
  rw [show ((1 + 4 * xs.length : Nat) : Int) = 1 + 4 * (xs.length : Int) by omega] at HMY
  have q8 : decide (((1 + 4 * xs.length + 4 * ys.length : Nat) : Int) < 0) = false := by simp; omega
  clear hr HSX HA HB hlen hlen2 hql hr2 HSY
  go_wp2_with fail
  refine (HTA.out _ (Below.refl _ _)).mono ?_
  rintro e w2 ⟨v, rfl, hv, hb2'⟩
  obtain ⟨A2, c2, rfl, _⟩ := own_sliceG hv
  have HS2 := Lib.hid (SlIs.ownG hv)
  clear hv
  have hb2 : Below w1.heap.size w1 w2 := hb2'
  go_wp2_with fail
  refine (HTB.out _ hb2).mono ?_
  rintro e w3 ⟨v, rfl, hv, hb3'⟩
  obtain ⟨A3, c3, rfl, _⟩ := own_sliceG hv
  have H3 := Lib.hid hv
  clear hv
  have hb3 := bel_then hb2 hb3'
  go_wp2_with fail
  refine (HSP.out _ _ _ _ _ (HS2.out.below hb3') (SlIs.ownG H3.out)).mono ?_
  rintro e w4 ⟨v, rfl, hv, hb4'⟩
  obtain ⟨A4, c4, rfl, _⟩ := own_sliceG hv
  have H4 := Lib.hid hv
  clear hv
  have hb4 := bel_then hb3 hb4'
  have HS4 := Lib.hid (SlIs.ownG H4.out)
  clear HS2 H3 H4
  go_wp2_with fail
  refine (HTA.out _ hb4).mono ?_
  rintro e w5 ⟨v, rfl, hv, hb5'⟩
  obtain ⟨A5, c5, rfl, _⟩ := own_sliceG hv
  have H5 := Lib.hid hv
  clear hv
  have hb45 : Below w4.heap.size w4 w5 := hb5'
  go_wp2_with fail
  refine (HTB.out _ (bel_then hb4 hb45)).mono ?_
  rintro e w6 ⟨v, rfl, hv, hb6'⟩
  obtain ⟨A6, c6, rfl, _⟩ := own_sliceG hv
  have H6 := Lib.hid hv
  clear hv
  have hb46 := bel_then hb45 hb6'
  have HX6 := Lib.hid (own_below H5.out hb6')
  go_wp2_with fail
  refine (HIM.out _ _ _ _ _ (SlIs.ownG HX6.out) (SlIs.ownG H6.out)).mono ?_
  rintro e w7 ⟨v, rfl, hv, hb7'⟩
  obtain ⟨A7, c7, rfl, _⟩ := own_sliceG hv
  have H7 := Lib.hid hv
  clear hv
  have hb47 := bel_then hb46 hb7'
  have HX7 := Lib.hid (own_below HX6.out hb7')
  have HY7 := Lib.hid (own_below H6.out hb7')
  go_wp2_with fail
  refine (HEP.out _ _ _ _ _ (SlIs.ownG H7.out) (HS4.out.below hb47)).mono ?_
  rintro e w8 ⟨rfl, hb8'⟩
  have hb48 := bel_then hb47 hb8'
  go_wp2_with fail
  refine (HTA.out _ (bel_then hb4 hb48)).mono ?_
  rintro e w9 ⟨v, rfl, hv, hb9'⟩
  obtain ⟨A9, c9, rfl, _⟩ := own_sliceG hv
  have H9 := Lib.hid hv
  clear hv
  have hb79 := hb8'.trans (hb9'.mono hb8'.size)
  have hb49 := bel_then hb48 hb9'
  have HX9 := Lib.hid (own_below HX7.out hb79)
  have HY9 := Lib.hid (own_below HY7.out hb79)
  have HG9 := Lib.hid (own_below H7.out hb79)
  clear HX7 HY7 H7 HX6
  go_wp2_with fail
  refine (HEA.out _ _ _ _ _ (SlIs.ownG HX9.out) (SlIs.ownG H9.out)).mono ?_
  rintro e w10 ⟨rfl, hb10'⟩
  have hb410 := bel_then hb49 hb10'
  go_wp2_with fail
  refine (HTB.out _ (bel_then hb4 hb410)).mono ?_
  rintro e w11 ⟨v, rfl, hv, hb11'⟩
  obtain ⟨A11, c11, rfl, _⟩ := own_sliceG hv
  have H11 := Lib.hid hv
  clear hv
  have hb911 := hb10'.trans (hb11'.mono hb10'.size)
  have hb411 := bel_then hb410 hb11'
  have HX11 := Lib.hid (own_below HX9.out hb911)
  have HY11 := Lib.hid (own_below HY9.out hb911)
  have HG11 := Lib.hid (own_below HG9.out hb911)
  clear HX9 HY9 HG9 H9
  go_wp2_with fail
  refine (HEB.out _ _ _ _ _ (SlIs.ownG HY11.out) (SlIs.ownG H11.out)).mono ?_
  rintro e w12 ⟨rfl, hb12'⟩
  have hb412 := bel_then hb411 hb12'
  have HX12 := Lib.hid (own_below HX11.out hb12')
  have HY12 := Lib.hid (own_below HY11.out hb12')
  have HG12 := Lib.hid (own_below HG11.out hb12')
  clear HX11 HY11 HG11 H11
  go_wp2_with fail
  refine (HMX.out _ _ _ _ HX12.out).mono ?_
  rintro e w13 ⟨rfl, hx13, hb13', hg13⟩
  have hb413 : Below w4.heap.size w4 w13 := hb412.trans hb13'
  have HY13 := Lib.hid (owns_apart HY12.out H5.out (Nat.le_refl _) hg13)
  have HG13 := Lib.hid (owns_apart HG12.out H5.out hb6'.size hg13)
  clear hx13 hg13 HX12 HY12 HG12
  go_wp2_with fail
  refine (HMY.out _ _ _ _ HY13.out).mono ?_
  rintro e w14 ⟨rfl, hx14, hb14', hg14⟩
  have hb414 : Below w4.heap.size w4 w14 := hb413.trans (hb14'.mono hb45.size)
  have HG14 := Lib.hid (owns_apart HG13.out H6.out (Nat.le_refl _) hg14)
  clear hx14 hg14 HY13 HG13
  go_wp2_with fail
  refine (HEP.out _ _ _ _ _ (SlIs.ownG HG14.out) (HS4.out.below hb414)).mono ?_
  rintro e w15 ⟨rfl, hb15'⟩
  have hb415 := bel_then hb414 hb15'
  have HG15 := Lib.hid (own_below HG14.out hb15')
  clear HG14
  go_wp2_with fail
  refine (HMQ.out _ _ _ _ HG15.out).mono ?_
  rintro e w16 ⟨rfl, hx16, hb16', hg16⟩
  have hb416 : Below w4.heap.size w4 w16 := hb415.trans (hb16'.mono hb46.size)
  have HM16 := Lib.hid (SlIs.ownG hx16)
  clear hx16 hg16 HG15
  go_wp2_with fail
  refine (HHQ.out _ _ _ HM16.out).mono ?_
  rintro e w17 ⟨rfl, rfl⟩
  go_wp2_with fail
  refine (HTA.out _ (bel_then hb4 hb416)).mono ?_
  rintro e w18 ⟨v, rfl, hv, hb18'⟩
  obtain ⟨A18, c18, rfl, _⟩ := own_sliceG hv
  have H18 := Lib.hid hv
  clear hv
  have hb18 : Below w16.heap.size w16 w18 := hb18'
  go_wp2_with fail
  refine (HTB.out _ (bel_then hb4 (bel_then hb416 hb18))).mono ?_
  rintro e w19 ⟨v, rfl, hv, hb19'⟩
  obtain ⟨A19, c19, rfl, _⟩ := own_sliceG hv
  have H19 := Lib.hid hv
  clear hv
  have hb19 := bel_then hb18 hb19'
  go_wp2_with fail
  refine (HIM.out _ _ _ _ _ ((SlIs.ownG H18.out).below hb19') (SlIs.ownG H19.out)).mono ?_
  rintro e w20 ⟨v, rfl, hv, hb20'⟩
  obtain ⟨A20, c20, rfl, _⟩ := own_sliceG hv
  have H20 := Lib.hid hv
  clear hv
  have hb20 := bel_then hb19 hb20'
  go_wp2_with fail
  refine (HEP.out _ _ _ _ _ (SlIs.ownG H20.out) (HS4.out.below (bel_then hb416 hb20))).mono ?_
  rintro e w21 ⟨rfl, hb21'⟩
  have hb21 := bel_then hb20 hb21'
  go_wp2_with fail
  refine (HHQ.out _ _ _ (HM16.out.below hb21)).mono ?_
  rintro e w22 ⟨rfl, rfl⟩
  go_wp2_with fail
  go_ret
  exact ⟨rfl, hb1.trans ((bel_then hb4 (bel_then hb416 hb21)).mono hb1.size)⟩

theorem own : ownKnob Try.prog.godebug = none := by kernel_rfl
theorem laidOut : laidOutB Try.prog = true := by kernel_rfl

set_option linter.unusedVariables false in
set_option maxRecDepth 100000 in
theorem lifted (os : Os) (started : os.Started) (H : Type) (enc : TypeId × Value → H) :
    ReturnsInHanded {} Try.checked os 6 .any (Rows.fnExactMapJoinSpec.pre6 enc Try.prog Try.f6 Rows.fnExactMapJoinRow.domain false) (Rows.fnExactMapJoinSpec.post enc Try.prog Try.f6 false true false false) := by
  refine returnsInHanded_of_change (C := Try.checked) own started (by kernel_rfl) Try.func6
    (ChangeSpec.witness6 (enc := enc) (C := Try.checked) false ⟨#[], #[.slice none 0 0, .slice none 0 0], []⟩ 8 (by kernel_rfl) (by kernel_rfl) (by kernel_rfl) (by kernel_rfl)) ?_
  intro W base args ds gs before hval0 hW hcnd _
  have hval : ∀ (j : Nat) t v, Try.f6.params[j]? = some t → args[j]? = some v → Value.okWide Try.prog W .any base t v := hval0
  have hW' := hW
  obtain ⟨p, q, hA0, hV, rfl, hfz, hnd⟩ := hW
  have hA : DataW.TrodAll enc Try.prog W 0 (fun _ => true) true Try.f6.params.toList args.toList ds p := hA0
  rw [Try.params6] at hA hval
  obtain ⟨v0, vs0, d0, ds0, p0, q0, hargs, rfl, rfl, h0, r0⟩ := trodAll_cons hA
  obtain ⟨v1, vs1, d1, ds1, p1, q1, rfl, rfl, rfl, h1, r1⟩ := trodAll_cons r0
  obtain ⟨rfl, rfl, rfl⟩ := trodAll_nil r1
  obtain rfl : args = #[v0, v1] := by cases args; simp_all
  obtain ⟨rfl, rfl⟩ := trodVars_none hV
  have k0 := h0
  have lt0 : ∀ x ∈ p0, x.block < W.heap.size := by obtain ⟨m, hm⟩ := k0; exact DataW.trod_lt m _ _ _ hm
  have k1 := h1
  have lt1 : ∀ x ∈ p1, x.block < W.heap.size := by obtain ⟨m, hm⟩ := k1; exact DataW.trod_lt m _ _ _ hm
  obtain ⟨a0, len0, cap0, e0⟩ := okWide_slice Try.underlying22 (hval 0 22 v0 rfl rfl)
  subst e0
  obtain ⟨z0, w0⟩ : ∃ xs, IsSegs W a0 len0 xs ∧ len0 ≤ cap0 := by
    obtain ⟨fuel, hf⟩ := h0
    exact open_segs hf rfl
  obtain ⟨a1, len1, cap1, e1⟩ := okWide_slice Try.underlying22 (hval 1 22 v1 rfl rfl)
  subst e1
  obtain ⟨z1, w1⟩ : ∃ xs, IsSegs W a1 len1 xs ∧ len1 ≤ cap1 := by
    obtain ⟨fuel, hf⟩ := h1
    exact open_segs hf rfl
  clear hA0 hval0
  refine (walk a0 len0 cap0 z0 a1 len1 cap1 z1 W w0 w1).mono fun e W' ⟨he, bel⟩ => ?_
  subst he
  exact ⟨_, rfl, _, _, _, [], _, [], hW', trodAll_mk1 (shut_bool Try.underlying4 _), (trodAll_cons_mk (Below.trod laidOut (by kernel_rfl) (of_decide_eq_true (by kernel_rfl)) k0 bel lt0) (trodAll_cons_mk (Below.trod laidOut (by kernel_rfl) (of_decide_eq_true (by kernel_rfl)) k1 bel lt1) trodAll_mk0)), rfl, bel.frame _, fun h => by cases h⟩

theorem fact_inPlace : (Rows.fnExactMapJoinRow.inPlace == Try.pinned.checked.prog.inPlace 6) = true := by kernel_rfl
theorem fact_unfollowed : (Rows.fnExactMapJoinRow.unfollowed == Try.pinned.checked.prog.unfollowed 6) = true := by kernel_rfl
theorem fact_recurses : (Rows.fnExactMapJoinRow.recurses == Try.pinned.checked.prog.recurses 6) = true := by kernel_rfl
theorem fact_named : (Rows.fnExactMapJoinRow.named == Try.pinned.checked.prog.varsNamed 6) = true := by kernel_rfl
theorem over : Rows.fnExactMapJoinRow.holds Try.pinned (OpenSpec.ofChange Rows.fnExactMapJoinSpec) :=
  OpenClaim.holds_of_wide 6 Try.f6 rfl rfl rfl rfl rfl rfl rfl ⟨rfl, rfl, rfl, rfl, rfl⟩ rfl rfl rfl rfl rfl (by kernel_rfl) Try.func6 (by unfold joinedFacts; rw [fact_inPlace, fact_unfollowed, fact_recurses, fact_named]; kernel_rfl)
    (of_decide_eq_true (by kernel_rfl)) (by unfold Func.isWrapper; first | (rw [if_pos (by decide +kernel)]; kernel_rfl) | (rw [if_neg (by decide +kernel)]; exact ⟨rfl, rfl⟩))
    (fun os started H enc _ => lifted os started H enc)
end Go.Proofs.Ytdkliboehdohdaa.fnExactMapJoin
namespace Go.Proofs.Ytdkliboehdohdaa

/-- The given statement. -/
theorem fnExactMapJoin_proved : Rows.FnExactMapJoinSaid := fnExactMapJoin.over
#print axioms fnExactMapJoin_proved
end Go.Proofs.Ytdkliboehdohdaa
