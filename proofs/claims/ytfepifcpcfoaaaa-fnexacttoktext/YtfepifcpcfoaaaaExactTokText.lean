/-
  'laws.FnExactTokText' returns true at every list of texts: impl.TokText and the model's TokText answer the same, and nothing is written into the list.
  Conditions: none; every list of strings.
-/
import Derived.Test.YtfepifcpcfoaaaaJoinTok
import Derived.Test.YtfepifcpcfoaaaaRows
import Derived.WalkKit
import Derived.ProofKit
import Derived.OpenShut
import Derived.ShutString
import Derived.ChangeOld
import Derived.Below
import Derived.Lib.SmallJoins
import Derived.SliceStrings
namespace Go.Proofs.Ytfepifcpcfoaaaa.fnExactTokText
open Go.ChangeShapes Go.WideShapes Go.ChangeAt Go.RowKit Go.Joins
open Go.ChangeMaps (open_string shut_string)

set_option maxHeartbeats 1000000 in
theorem walk (A : Option Addr) (n c : Nat) (ss : List ByteArray) (w : World) (hss : IsStrs w A n ss ∧ n ≤ c) :
    Calls Try.prog 4 #[.slice A n c] w fun e w' => e = .returned (.bool true) ∧ Below w.heap.size w w' := by
  obtain ⟨hss, _⟩ := hss
  have HSZ := Lib.hid (szStringS_any A c n 1048576 ss w hss (by omega) (by omega))
  obtain ⟨rfl, hm, hA, hz⟩ := hss
  have HA := Lib.hid hA
  clear hA hz hm
  go_enter Try.func4, Try.ntmps4
  go_wp2_with fail
  refine HSZ.out.mono ?_
  rintro e w' ⟨r, rfl, hr, rfl⟩
  by_cases hneg : r < 0
  · go_wp2_with fail
    go_ret
    exact ⟨rfl, Below.refl _ _⟩
  · have htot : tot ss ≤ 1048576 := by have := hr (by omega); omega
    have hlen := length_le_tot ss
    clear hr
    have q0 : decide (r < 0) = false := by simpa using hneg
    go_wp2_with fail
    refine (toStringS_any A c ss w (by omega) HA.out).mono ?_
    rintro e w1 ⟨v, rfl, hv, hb1⟩
    rw [List.length_map] at hv
    obtain ⟨B, d, rfl, hd⟩ := own_slice hv
    have HB := Lib.hid (SlIs.own hv)
    clear hv
    go_wp2_with fail
    refine (specTokText_any B d ss w1 (by omega) HB.out).mono ?_
    rintro e w' ⟨rfl, rfl⟩
    generalize hj : joinK ss ss.length = t at *
    have HJ := Lib.hid hj
    clear hj
    go_wp2_with fail
    refine (toStringS_any A c ss w1 (by omega) (HA.out.below hb1)).mono ?_
    rintro e w2 ⟨v, rfl, hv, hb2⟩
    rw [List.length_map] at hv
    obtain ⟨C, d2, rfl, hd2⟩ := own_slice hv
    have HC := Lib.hid (SlIs.own hv)
    clear hv
    go_wp2_with fail
    have HTJ := Lib.hid (tokText_any C d2 ss w2 (by omega) hd2 HC.out)
    rw [HJ.out] at HTJ
    refine HTJ.out.mono ?_
    rintro e w3 ⟨rfl, hb3⟩
    have hB2 : Below w.heap.size w w2 := hb1.trans (hb2.mono hb1.size)
    have hB3 : Below w.heap.size w w3 := hB2.trans (hb3.mono hB2.size)
    go_wp2_with fail
    refine (toStringS_any A c ss w3 (by omega) (HA.out.below hB3)).mono ?_
    rintro e w4 ⟨v, rfl, hv, hb4⟩
    rw [List.length_map] at hv
    obtain ⟨D, d4, rfl, hd4⟩ := own_slice hv
    have HD := Lib.hid (SlIs.own hv)
    clear hv
    have hB4 : Below w.heap.size w w4 := hB3.trans (hb4.mono hB3.size)
    go_wp2_with fail
    refine (eqStringS_same C D d2 d4 ss w4 (by omega) ((HC.out.below hb3).below hb4) HD.out).mono ?_
    rintro e w5 ⟨rfl, hb5⟩
    go_wp2_with fail
    go_ret
    exact ⟨rfl, hB4.trans (hb5.mono hB4.size)⟩

theorem own : ownKnob Try.prog.godebug = none := by kernel_rfl
theorem laidOut : laidOutB Try.prog = true := by kernel_rfl

set_option linter.unusedVariables false in
set_option maxRecDepth 100000 in
theorem lifted (os : Os) (started : os.Started) (H : Type) (enc : TypeId × Value → H) :
    ReturnsInHanded {} Try.checked os 4 .any (Rows.fnExactTokTextSpec.pre6 enc Try.prog Try.f4 Rows.fnExactTokTextRow.domain false) (Rows.fnExactTokTextSpec.post enc Try.prog Try.f4 false true false false) := by
  refine returnsInHanded_of_change (C := Try.checked) own started (by kernel_rfl) Try.func4
    (ChangeSpec.witness6 (enc := enc) (C := Try.checked) false ⟨#[], #[.slice none 0 0], []⟩ 8 (by kernel_rfl) (by kernel_rfl) (by kernel_rfl) (by kernel_rfl)) ?_
  intro W base args ds gs before hval0 hW hcnd _
  have hval : ∀ (j : Nat) t v, Try.f4.params[j]? = some t → args[j]? = some v → Value.okWide Try.prog W .any base t v := hval0
  have hW' := hW
  obtain ⟨p, q, hA0, hV, rfl, hfz, hnd⟩ := hW
  have hA : DataW.TrodAll enc Try.prog W 0 (fun _ => true) true Try.f4.params.toList args.toList ds p := hA0
  rw [Try.params4] at hA hval
  obtain ⟨v0, vs0, d0, ds0, p0, q0, hargs, rfl, rfl, h0, r0⟩ := trodAll_cons hA
  obtain ⟨rfl, rfl, rfl⟩ := trodAll_nil r0
  obtain rfl : args = #[v0] := by cases args; simp_all
  obtain ⟨rfl, rfl⟩ := trodVars_none hV
  have k0 := h0
  have lt0 : ∀ x ∈ p0, x.block < W.heap.size := by obtain ⟨m, hm⟩ := k0; exact DataW.trod_lt m _ _ _ hm
  obtain ⟨a0, len0, cap0, e0⟩ := okWide_slice Try.underlying30 (hval 0 30 v0 rfl rfl)
  subst e0
  obtain ⟨z0, w0⟩ : ∃ ss, IsStrs W a0 len0 ss ∧ len0 ≤ cap0 := by
    obtain ⟨fuel, hf⟩ := h0
    rcases open_strings Try.underlying30 Try.underlying9 (by kernel_rfl) hf with ⟨hcs, _⟩ | ⟨x, l, c, ss, hcs, _, hl, hm, hz, _, hcell, hws⟩
    · simp [Value.cells] at hcs
      obtain ⟨rfl, rfl, rfl⟩ := hcs
      exact ⟨[], isStrs_nil W, Nat.le_refl _⟩
    · simp [Value.cells] at hcs
      obtain ⟨rfl, rfl, rfl⟩ := hcs
      exact ⟨ss.take _, isStrs_of hl hm (by simpa using hz) hcell hws, hl⟩
  clear hA0 hval0
  refine (walk a0 len0 cap0 z0 W w0).mono fun e W' ⟨he, bel⟩ => ?_
  subst he
  exact ⟨_, rfl, _, _, _, [], _, [], hW', trodAll_mk1 (shut_bool Try.underlying4 _), (trodAll_cons_mk (Below.trod laidOut (by kernel_rfl) (of_decide_eq_true (by kernel_rfl)) k0 bel lt0) trodAll_mk0), rfl, bel.frame _, fun h => by cases h⟩

theorem over : Rows.fnExactTokTextRow.holds Try.pinned (OpenSpec.ofChange Rows.fnExactTokTextSpec) :=
  OpenClaim.holds_of_wide 4 Try.f4 rfl rfl rfl rfl rfl rfl rfl ⟨rfl, rfl, rfl, rfl, rfl⟩ rfl rfl rfl rfl rfl (by kernel_rfl) Try.func4 (by kernel_rfl)
    (of_decide_eq_true (by kernel_rfl)) (by unfold Func.isWrapper; first | (rw [if_pos (by decide +kernel)]; kernel_rfl) | (rw [if_neg (by decide +kernel)]; exact ⟨rfl, rfl⟩))
    (fun os started H enc _ => lifted os started H enc)
end Go.Proofs.Ytfepifcpcfoaaaa.fnExactTokText
namespace Go.Proofs.Ytfepifcpcfoaaaa

/-- The given statement. -/
theorem fnExactTokText_proved : Rows.FnExactTokTextSaid := fnExactTokText.over
#print axioms fnExactTokText_proved
end Go.Proofs.Ytfepifcpcfoaaaa
