/-
  'laws.FnExactSegsSame' returns true at every two lists of Seg: impl.SegsSame and the model's SegsSame answer the same, and nothing is written into the lists.
  Conditions: none; every two lists of Seg.
-/
import Derived.Test.YtfknelkbdoiokaaOpenSegs
import Derived.Test.YtfknelkbdoiokaaRows
import Derived.WalkKit
import Derived.ProofKit
import Derived.OpenShut
import Derived.ShutString
import Derived.ChangeOld
import Derived.Below
import Derived.Lib.SmallJoins
import Derived.SliceStrings
namespace Go.Proofs.Ytfknelkbdoiokaa.fnExactSegsSame
open Go.ChangeShapes Go.WideShapes Go.ChangeAt Go.RowKit Go.Joins
open Go.ChangeMaps (open_string shut_string)

set_option maxRecDepth 100000 in
set_option maxHeartbeats 2000000 in
theorem walk (A : Option Addr) (n c : Nat) (xs : List Sg) (B : Option Addr) (m d : Nat) (ys : List Sg) (w : World) (hx : IsSegs w A n xs ∧ n ≤ c) (hy : IsSegs w B m ys ∧ m ≤ d) :
    Calls Try.prog 4 #[.slice A n c, .slice B m d] w fun e w' => e = .returned (.bool true) ∧ Below w.heap.size w w' := by
  obtain ⟨hx, _⟩ := hx
  obtain ⟨hy, _⟩ := hy
  have HSX := Lib.hid (szSegS_any A c n 1048576 w hx.2.1 (by omega) (by omega))
  have HSY := Lib.hid (fun W (hb : Below w.heap.size w W) r (h0 : 0 ≤ r) (h1 : r ≤ 1048576) => szSegS_any B d m r W hy.2.1 h0 (by omega))
  obtain ⟨rfl, hm, hA⟩ := hx
  obtain ⟨rfl, hm', hB⟩ := hy
  have HA := Lib.hid hA
  have HB := Lib.hid hB
  clear hA hm hB hm'
  go_enter Try.func4, Try.ntmps4
  go_wp2_with fail
  refine HSX.out.mono ?_
  rintro e w1 ⟨r, rfl, hr, hrl, hb1⟩
  by_cases hneg : r < 0
  · go_wp2_with fail
    go_ret
    exact ⟨rfl, hb1⟩
  · have hlen : xs.length ≤ 1048576 := by have := hr (by omega); omega
    have q0 : decide (r < 0) = false := by simpa using hneg
    have HS2 := Lib.hid (HSY.out w1 hb1 r (by omega) hrl)
    clear hr HSY HSX
    go_wp2_with fail
    refine HS2.out.mono ?_
    rintro e w2 ⟨r2, rfl, hr2, hrl2, hb2'⟩
    have hb2 := hb1.trans (hb2'.mono hb1.size)
    clear HS2
    by_cases hneg2 : r2 < 0
    · go_wp2_with fail
      go_ret
      exact ⟨rfl, hb2⟩
    · have hlen2 : ys.length ≤ 1048576 := by have := hr2 (by omega); omega
      have q1 : decide (r2 < 0) = false := by simpa using hneg2
      clear hr2
      go_wp2_with fail
      refine (toSegS_any A c xs w2 (by omega) (HA.out.below hb2)).mono ?_
      rintro e w3 ⟨v, rfl, hv, hb3'⟩
      have hb3 := hb2.trans (hb3'.mono hb2.size)
      obtain ⟨A1, c1, rfl, _⟩ := own_sliceG hv
      have H1 := Lib.hid (SlIs.ownG hv)
      clear hv
      go_wp2_with fail
      refine (toSegS_any B d ys w3 (by omega) (HB.out.below hb3)).mono ?_
      rintro e w4 ⟨v, rfl, hv, hb4'⟩
      have hb4 := hb3.trans (hb4'.mono hb3.size)
      obtain ⟨B1, d1, rfl, _⟩ := own_sliceG hv
      have H2 := Lib.hid (SlIs.ownG hv)
      clear hv
      go_wp2_with fail
      refine (specSegsSame_any A1 B1 c1 d1 xs ys w4 (by omega) (H1.out.below hb4') H2.out).mono ?_
      rintro e w5 ⟨rfl, nd, hw5⟩
      have hb5' : Below w4.heap.size w4 w5 := by rw [hw5]; exact below_draws nd
      have hb5 := hb4.trans (hb5'.mono hb4.size)
      clear hw5
      have HTS := Lib.hid (fun A B c d W h1 h2 h3 => segsSame_any A B c d xs ys W h1 h2 h3)
      generalize sameG xs ys = sm at *
      go_wp2_with fail
      refine (toSegS_any A c xs w5 (by omega) (HA.out.below hb5)).mono ?_
      rintro e w6 ⟨v, rfl, hv, hb6'⟩
      have hb6 := hb5.trans (hb6'.mono hb5.size)
      obtain ⟨A2, c2, rfl, _⟩ := own_sliceG hv
      have H3 := Lib.hid (SlIs.ownG hv)
      clear hv
      go_wp2_with fail
      refine (toSegS_any B d ys w6 (by omega) (HB.out.below hb6)).mono ?_
      rintro e w7 ⟨v, rfl, hv, hb7'⟩
      have hb7 := hb6.trans (hb7'.mono hb6.size)
      obtain ⟨B2, d2, rfl, _⟩ := own_sliceG hv
      have H4 := Lib.hid (SlIs.ownG hv)
      clear hv
      go_wp2_with fail
      refine (HTS.out A2 B2 c2 d2 w7 (by omega) (H3.out.below hb7') H4.out).mono ?_
      rintro e w8 ⟨rfl, nd, hw8⟩
      have hb8' : Below w7.heap.size w7 w8 := by rw [hw8]; exact below_draws nd
      have hb8 := hb7.trans (hb8'.mono hb7.size)
      clear hw8
      have q2 : (sm != sm) = false := by simp
      go_wp2_with fail
      refine (toSegS_any A c xs w8 (by omega) (HA.out.below hb8)).mono ?_
      rintro e w9 ⟨v, rfl, hv, hb9'⟩
      have hb9 := hb8.trans (hb9'.mono hb8.size)
      obtain ⟨A3, c3, rfl, _⟩ := own_sliceG hv
      have H5 := Lib.hid (SlIs.ownG hv)
      clear hv
      go_wp2_with fail
      refine (eqSegS_same A2 A3 c2 c3 xs w9 (by omega) ((H3.out.below (hb7'.trans (hb8'.mono hb7'.size))).below hb9') H5.out).mono ?_
      rintro e w10 ⟨rfl, hb10'⟩
      have hb10 := hb9.trans (hb10'.mono hb9.size)
      go_wp2_with fail
      refine (toSegS_any B d ys w10 (by omega) (HB.out.below hb10)).mono ?_
      rintro e w11 ⟨v, rfl, hv, hb11'⟩
      have hb11 := hb10.trans (hb11'.mono hb10.size)
      obtain ⟨B3, d3, rfl, _⟩ := own_sliceG hv
      have H6 := Lib.hid (SlIs.ownG hv)
      clear hv
      have hb711 : Below w7.heap.size w7 w11 := (hb8'.trans (hb9'.mono hb8'.size)).trans ((hb10'.trans (hb11'.mono hb10'.size)).mono (Nat.le_trans hb8'.size hb9'.size))
      go_wp2_with fail
      refine (eqSegS_same B2 B3 d2 d3 ys w11 (by omega) (H4.out.below hb711) H6.out).mono ?_
      rintro e w12 ⟨rfl, hb12'⟩
      go_wp2_with fail
      go_ret
      exact ⟨rfl, hb11.trans (hb12'.mono hb11.size)⟩

theorem own : ownKnob Try.prog.godebug = none := by kernel_rfl
theorem laidOut : laidOutB Try.prog = true := by kernel_rfl

set_option linter.unusedVariables false in
set_option maxRecDepth 100000 in
theorem lifted (os : Os) (started : os.Started) (H : Type) (enc : TypeId × Value → H) :
    ReturnsInHanded {} Try.checked os 4 .any (Rows.fnExactSegsSameSpec.pre6 enc Try.prog Try.f4 Rows.fnExactSegsSameRow.domain false) (Rows.fnExactSegsSameSpec.post enc Try.prog Try.f4 false true false false) := by
  refine returnsInHanded_of_change (C := Try.checked) own started (by kernel_rfl) Try.func4
    (ChangeSpec.witness6 (enc := enc) (C := Try.checked) false ⟨#[], #[.slice none 0 0, .slice none 0 0], []⟩ 8 (by kernel_rfl) (by kernel_rfl) (by kernel_rfl) (by kernel_rfl)) ?_
  intro W base args ds gs before hval0 hW hcnd _
  have hval : ∀ (j : Nat) t v, Try.f4.params[j]? = some t → args[j]? = some v → Value.okWide Try.prog W .any base t v := hval0
  have hW' := hW
  obtain ⟨p, q, hA0, hV, rfl, hfz, hnd⟩ := hW
  have hA : DataW.TrodAll enc Try.prog W 0 (fun _ => true) true Try.f4.params.toList args.toList ds p := hA0
  rw [Try.params4] at hA hval
  obtain ⟨v0, vs0, d0, ds0, p0, q0, hargs, rfl, rfl, h0, r0⟩ := trodAll_cons hA
  obtain ⟨v1, vs1, d1, ds1, p1, q1, rfl, rfl, rfl, h1, r1⟩ := trodAll_cons r0
  obtain ⟨rfl, rfl, rfl⟩ := trodAll_nil r1
  obtain rfl : args = #[v0, v1] := by cases args; simp_all
  obtain ⟨rfl, rfl⟩ := trodVars_none hV
  have k0 := h0
  have lt0 : ∀ x ∈ p0, x.block < W.heap.size := by obtain ⟨m, hm⟩ := k0; exact DataW.trod_lt m _ _ _ hm
  have k1 := h1
  have lt1 : ∀ x ∈ p1, x.block < W.heap.size := by obtain ⟨m, hm⟩ := k1; exact DataW.trod_lt m _ _ _ hm
  obtain ⟨a0, len0, cap0, e0⟩ := okWide_slice Try.underlying22 (hval 0 22 v0 rfl rfl)
  subst e0
  obtain ⟨z0, w0⟩ : ∃ xs, IsSegs W a0 len0 xs ∧ len0 ≤ cap0 := by
    obtain ⟨fuel, hf⟩ := h0
    exact open_segs hf rfl
  obtain ⟨a1, len1, cap1, e1⟩ := okWide_slice Try.underlying22 (hval 1 22 v1 rfl rfl)
  subst e1
  obtain ⟨z1, w1⟩ : ∃ xs, IsSegs W a1 len1 xs ∧ len1 ≤ cap1 := by
    obtain ⟨fuel, hf⟩ := h1
    exact open_segs hf rfl
  clear hA0 hval0
  refine (walk a0 len0 cap0 z0 a1 len1 cap1 z1 W w0 w1).mono fun e W' ⟨he, bel⟩ => ?_
  subst he
  exact ⟨_, rfl, _, _, _, [], _, [], hW', trodAll_mk1 (shut_bool Try.underlying4 _), (trodAll_cons_mk (Below.trod laidOut (by kernel_rfl) (of_decide_eq_true (by kernel_rfl)) k0 bel lt0) (trodAll_cons_mk (Below.trod laidOut (by kernel_rfl) (of_decide_eq_true (by kernel_rfl)) k1 bel lt1) trodAll_mk0)), rfl, bel.frame _, fun h => by cases h⟩

theorem fact_inPlace : (Rows.fnExactSegsSameRow.inPlace == Try.pinned.checked.prog.inPlace 4) = true := by kernel_rfl
theorem fact_unfollowed : (Rows.fnExactSegsSameRow.unfollowed == Try.pinned.checked.prog.unfollowed 4) = true := by kernel_rfl
theorem fact_recurses : (Rows.fnExactSegsSameRow.recurses == Try.pinned.checked.prog.recurses 4) = true := by kernel_rfl
theorem fact_named : (Rows.fnExactSegsSameRow.named == Try.pinned.checked.prog.varsNamed 4) = true := by kernel_rfl
theorem over : Rows.fnExactSegsSameRow.holds Try.pinned (OpenSpec.ofChange Rows.fnExactSegsSameSpec) :=
  OpenClaim.holds_of_wide 4 Try.f4 rfl rfl rfl rfl rfl rfl rfl ⟨rfl, rfl, rfl, rfl, rfl⟩ rfl rfl rfl rfl rfl (by kernel_rfl) Try.func4 (by unfold joinedFacts; rw [fact_inPlace, fact_unfollowed, fact_recurses, fact_named]; kernel_rfl)
    (of_decide_eq_true (by kernel_rfl)) (by unfold Func.isWrapper; first | (rw [if_pos (by decide +kernel)]; kernel_rfl) | (rw [if_neg (by decide +kernel)]; exact ⟨rfl, rfl⟩))
    (fun os started H enc _ => lifted os started H enc)
end Go.Proofs.Ytfknelkbdoiokaa.fnExactSegsSame
namespace Go.Proofs.Ytfknelkbdoiokaa

/-- The given statement. -/
theorem fnExactSegsSame_proved : Rows.FnExactSegsSameSaid := fnExactSegsSame.over
#print axioms fnExactSegsSame_proved
end Go.Proofs.Ytfknelkbdoiokaa
