/-
  'laws.FnExactMapText' returns true at every list of Seg: impl.MapText and the model's MapText answer the same, and nothing is written into the list.
  Conditions: none; every list of Seg.
-/
import Derived.Test.YtdkliboehdohdaaMapTImpl
import Derived.Test.YtdkliboehdohdaaOpenSegs
import Derived.Test.YtdkliboehdohdaaRows
import Derived.WalkKit
import Derived.ProofKit
import Derived.OpenShut
import Derived.ShutString
import Derived.ChangeOld
import Derived.Below
import Derived.Lib.SmallJoins
import Derived.SliceStrings
namespace Go.Proofs.Ytdkliboehdohdaa.fnExactMapText
open Go.ChangeShapes Go.WideShapes Go.ChangeAt Go.RowKit Go.Joins
open Go.ChangeMaps (open_string shut_string)

set_option maxRecDepth 100000 in
set_option maxHeartbeats 2000000 in
theorem walk (A : Option Addr) (n c : Nat) (xs : List Sg) (w : World) (hx : IsSegs w A n xs ∧ n ≤ c) :
    Calls Try.prog 3 #[.slice A n c] w fun e w' => e = .returned (.bool true) ∧ Below w.heap.size w w' := by
  obtain ⟨hx, _⟩ := hx
  have HSX := Lib.hid (szSegS_any A c n 1048576 w hx.2.1 (by omega) (by omega))
  obtain ⟨rfl, hm, hA⟩ := hx
  have HA := Lib.hid hA
  clear hA hm
  go_enter Try.func3, Try.ntmps3
  go_wp2_with fail
  refine HSX.out.mono ?_
  rintro e w1 ⟨r, rfl, hr, hrl, hb1⟩
  by_cases hneg : r < 0
  · go_wp2_with fail
    go_ret
    exact ⟨rfl, hb1⟩
  · have hlen : xs.length ≤ 1048576 := by have := hr (by omega); omega
    have q0 : decide (r < 0) = false := by simpa using hneg
    clear hr HSX
    go_wp2_with fail
    refine (toSegS_any A c xs w1 (by omega) (HA.out.below hb1)).mono ?_
    rintro e w3 ⟨v, rfl, hv, hb3'⟩
    have hb3 := hb1.trans (hb3'.mono hb1.size)
    obtain ⟨A1, c1, rfl, _⟩ := own_sliceG hv
    have H1 := Lib.hid (SlIs.ownG hv)
    clear hv
    go_wp2_with fail
    refine (specMapText_any A1 c1 xs w3 (by omega) H1.out).mono ?_
    rintro e w5 ⟨rfl, hb5'⟩
    have hb5 := hb3.trans (hb5'.mono hb3.size)
    have HTS := Lib.hid (fun A c W h1 h2 => mapText_any A c xs W h1 h2)
    generalize mapT xs = sm at *
    go_wp2_with fail
    refine (toSegS_any A c xs w5 (by omega) (HA.out.below hb5)).mono ?_
    rintro e w6 ⟨v, rfl, hv, hb6'⟩
    have hb6 := hb5.trans (hb6'.mono hb5.size)
    obtain ⟨A2, c2, rfl, _⟩ := own_sliceG hv
    have H3 := Lib.hid (SlIs.ownG hv)
    clear hv
    go_wp2_with fail
    refine (HTS.out A2 c2 w6 (by omega) H3.out).mono ?_
    rintro e w8 ⟨rfl, hb8'⟩
    have hb8 := hb6.trans (hb8'.mono hb6.size)
    have q2 : (!sm.toList == sm.toList) = false := by simp
    go_wp2_with fail
    refine (toSegS_any A c xs w8 (by omega) (HA.out.below hb8)).mono ?_
    rintro e w9 ⟨v, rfl, hv, hb9'⟩
    have hb9 := hb8.trans (hb9'.mono hb8.size)
    obtain ⟨A3, c3, rfl, _⟩ := own_sliceG hv
    have H5 := Lib.hid (SlIs.ownG hv)
    clear hv
    go_wp2_with fail
    refine (eqSegS_same A2 A3 c2 c3 xs w9 (by omega) ((H3.out.below hb8').below hb9') H5.out).mono ?_
    rintro e w10 ⟨rfl, hb10'⟩
    go_wp2_with fail
    go_ret
    exact ⟨rfl, hb9.trans (hb10'.mono hb9.size)⟩

theorem own : ownKnob Try.prog.godebug = none := by kernel_rfl
theorem laidOut : laidOutB Try.prog = true := by kernel_rfl

set_option linter.unusedVariables false in
set_option maxRecDepth 100000 in
theorem lifted (os : Os) (started : os.Started) (H : Type) (enc : TypeId × Value → H) :
    ReturnsInHanded {} Try.checked os 3 .any (Rows.fnExactMapTextSpec.pre6 enc Try.prog Try.f3 Rows.fnExactMapTextRow.domain false) (Rows.fnExactMapTextSpec.post enc Try.prog Try.f3 false true false false) := by
  refine returnsInHanded_of_change (C := Try.checked) own started (by kernel_rfl) Try.func3
    (ChangeSpec.witness6 (enc := enc) (C := Try.checked) false ⟨#[], #[.slice none 0 0], []⟩ 8 (by kernel_rfl) (by kernel_rfl) (by kernel_rfl) (by kernel_rfl)) ?_
  intro W base args ds gs before hval0 hW hcnd _
  have hval : ∀ (j : Nat) t v, Try.f3.params[j]? = some t → args[j]? = some v → Value.okWide Try.prog W .any base t v := hval0
  have hW' := hW
  obtain ⟨p, q, hA0, hV, rfl, hfz, hnd⟩ := hW
  have hA : DataW.TrodAll enc Try.prog W 0 (fun _ => true) true Try.f3.params.toList args.toList ds p := hA0
  rw [Try.params3] at hA hval
  obtain ⟨v0, vs0, d0, ds0, p0, q0, hargs, rfl, rfl, h0, r0⟩ := trodAll_cons hA
  obtain ⟨rfl, rfl, rfl⟩ := trodAll_nil r0
  obtain rfl : args = #[v0] := by cases args; simp_all
  obtain ⟨rfl, rfl⟩ := trodVars_none hV
  have k0 := h0
  have lt0 : ∀ x ∈ p0, x.block < W.heap.size := by obtain ⟨m, hm⟩ := k0; exact DataW.trod_lt m _ _ _ hm
  obtain ⟨a0, len0, cap0, e0⟩ := okWide_slice Try.underlying22 (hval 0 22 v0 rfl rfl)
  subst e0
  obtain ⟨z0, w0⟩ : ∃ xs, IsSegs W a0 len0 xs ∧ len0 ≤ cap0 := by
    obtain ⟨fuel, hf⟩ := h0
    exact open_segs hf rfl
  clear hA0 hval0
  refine (walk a0 len0 cap0 z0 W w0).mono fun e W' ⟨he, bel⟩ => ?_
  subst he
  exact ⟨_, rfl, _, _, _, [], _, [], hW', trodAll_mk1 (shut_bool Try.underlying4 _), (trodAll_cons_mk (Below.trod laidOut (by kernel_rfl) (of_decide_eq_true (by kernel_rfl)) k0 bel lt0) trodAll_mk0), rfl, bel.frame _, fun h => by cases h⟩

theorem fact_inPlace : (Rows.fnExactMapTextRow.inPlace == Try.pinned.checked.prog.inPlace 3) = true := by kernel_rfl
theorem fact_unfollowed : (Rows.fnExactMapTextRow.unfollowed == Try.pinned.checked.prog.unfollowed 3) = true := by kernel_rfl
theorem fact_recurses : (Rows.fnExactMapTextRow.recurses == Try.pinned.checked.prog.recurses 3) = true := by kernel_rfl
theorem fact_named : (Rows.fnExactMapTextRow.named == Try.pinned.checked.prog.varsNamed 3) = true := by kernel_rfl
theorem over : Rows.fnExactMapTextRow.holds Try.pinned (OpenSpec.ofChange Rows.fnExactMapTextSpec) :=
  OpenClaim.holds_of_wide 3 Try.f3 rfl rfl rfl rfl rfl rfl rfl ⟨rfl, rfl, rfl, rfl, rfl⟩ rfl rfl rfl rfl rfl (by kernel_rfl) Try.func3 (by unfold joinedFacts; rw [fact_inPlace, fact_unfollowed, fact_recurses, fact_named]; kernel_rfl)
    (of_decide_eq_true (by kernel_rfl)) (by unfold Func.isWrapper; first | (rw [if_pos (by decide +kernel)]; kernel_rfl) | (rw [if_neg (by decide +kernel)]; exact ⟨rfl, rfl⟩))
    (fun os started H enc _ => lifted os started H enc)
end Go.Proofs.Ytdkliboehdohdaa.fnExactMapText
namespace Go.Proofs.Ytdkliboehdohdaa

/-- The given statement. -/
theorem fnExactMapText_proved : Rows.FnExactMapTextSaid := fnExactMapText.over
#print axioms fnExactMapText_proved
end Go.Proofs.Ytdkliboehdohdaa
