/-
  'laws.FnExactProgText' returns true at whatever lines: impl.ProgText and the model's ProgText answer the same, and nothing is written into an argument.
  Conditions: the library's variables and the program's own error hold what their initialisers lay (tied to the program's text); every value of []laws.Stmt.
-/
import Derived.Test.YtkllhnhinealfaaGreatDoorWalkExactProgText
import Derived.Test.YtkllhnhinealfaaGreatDoorImplPText
import Derived.Test.YtkllhnhinealfaaGreatDoorSpecPText
import Derived.Test.YtkllhnhinealfaaGreatDoorOpenSts
import Derived.Test.YtkllhnhinealfaaGreatDoorLaidN
import Derived.Test.YtkllhnhinealfaaGreatDoorCards
import Derived.Test.YtkllhnhinealfaaGreatDoorTie
import Derived.Test.YtkllhnhinealfaaGreatDoorFacts
import Derived.Test.YtkllhnhinealfaaGreatDoorRows
import Derived.WalkKit
import Derived.ProofKit
import Derived.OpenShut
import Derived.ShutString
import Derived.ChangeOld
import Derived.Below
import Derived.Lib.SmallJoins
import Derived.SliceStrings
namespace Go.Proofs.YtkllhnhinealfaaGreatDoor.fnExactProgText
open Go.ChangeShapes Go.WideShapes Go.ChangeAt Go.RowKit Go.Joins
open Go.ChangeMaps (open_string shut_string)


set_option linter.unusedVariables false in
set_option maxRecDepth 100000 in
theorem lifted (os : Os) (started : os.Started) (H : Type) (enc : TypeId × Value → H) :
    ReturnsInHanded {} Tryz.checked os 8 .any (fun w args => (Rows.fnExactProgTextSpec.pre enc Tryz.prog Tryz.f8 [] false w args ∧ laidMetH Tryz.prog laidL6 w) ∧ sizedMet enc Tryz.prog Tryz.f8 (OpenSpec.ofChange Rows.fnExactProgTextSpec) false w args)
      (Rows.fnExactProgTextSpec.post enc Tryz.prog Tryz.f8 false true false false) := by
  refine returnsInHanded_of_change_and (C := Tryz.checked) (X := fun w _ => laidMetH Tryz.prog laidL6 w) (fun _ _ _ hh h => h.of_heap hh) own started (by kernel_rfl) Tryz.func8
    (ChangeSpec.witness_shaped (enc := enc) (C := Tryz.checked) (os := os) (X := fun w _ => laidMetH Tryz.prog laidL6 w) false (World.doorLaid Tryz.prog 81 os) #[.slice none 0 0] 8 rfl (World.shaped_of_RefB (by kernel_rfl) (by kernel_rfl)) (by kernel_rfl) (by kernel_rfl) (by kernel_rfl) (door_met6 os _)) ?_
  intro W base args ds gs before hval0 hW _ _ hL _
  have hval : ∀ (j : Nat) t v, Tryz.f8.params[j]? = some t → args[j]? = some v → Value.okWide Tryz.prog W .any base t v := hval0
  have hW' := hW
  obtain ⟨p, q, hA0, hV, rfl, hfz, hnd⟩ := hW
  have hA : DataW.TrodAll enc Tryz.prog W 0 (fun _ => true) true Tryz.f8.params.toList args.toList ds p := hA0
  rw [Tryz.params8] at hA hval
  obtain ⟨v0, vs0, d0, ds0, p0, q0, hargs, rfl, rfl, h0, r0⟩ := trodAll_cons hA
  obtain ⟨rfl, rfl, rfl⟩ := trodAll_nil r0
  obtain rfl : args = #[v0] := by cases args; simp_all
  obtain ⟨dg, rfl⟩ : ∃ dg, gs = [dg] := by obtain ⟨_, _, _, _, dg, _, hg, _⟩ := trodVars_one hV; exact ⟨dg, hg⟩
  have k0 := h0
  have lt0 : ∀ x ∈ p0, x.block < W.heap.size := by obtain ⟨m, hm⟩ := k0; exact DataW.trod_lt m _ _ _ hm
  obtain ⟨a0, len0, cap0, e0⟩ := okWide_slice Tryz.underlying46 (hval 0 46 v0 rfl rfl)
  subst e0
  obtain ⟨z0, hz0, w0⟩ : ∃ xs, xs.length = len0 ∧ InSts W a0 cap0 xs := by
    obtain ⟨fuel, hf⟩ := h0
    exact open_stmts hf rfl
  subst hz0
  clear hA0 hval0
  refine (walk a0 cap0 z0 W w0 (of_laid6 hL)).mono fun e W' ⟨he, bel⟩ => ?_
  subst he
  exact ⟨_, rfl, _, _, _, [], _, q, hW', trodAll_mk1 (shut_bool Tryz.underlying4 _), (trodAll_cons_mk (Below.trod laidOut (by kernel_rfl) (of_decide_eq_true (by kernel_rfl)) k0 bel lt0) trodAll_mk0), Below.trodVars laidOut bel (by kernel_rfl) hV, bel.frame _, fun h => by cases h⟩

theorem fact_inPlace : (Rows.fnExactProgTextRow.inPlace == Tryz.pinned.checked.prog.inPlace 8) = true := by kernel_rfl
theorem fact_unfollowed : (Rows.fnExactProgTextRow.unfollowed == Tryz.pinned.checked.prog.unfollowed 8) = true := by kernel_rfl
theorem fact_recurses : (Rows.fnExactProgTextRow.recurses == Tryz.pinned.checked.prog.recurses 8) = true := by kernel_rfl
theorem fact_named : (Rows.fnExactProgTextRow.named == Tryz.pinned.checked.prog.varsNamed 8) = true := by kernel_rfl
theorem fact_looks : true = Tryz.pinned.checked.prog.looks [] := by kernel_rfl
theorem fact_goes : false = Rows.fnExactProgTextRow.goesBy Tryz.pinned.checked.prog := by kernel_rfl
theorem over : Rows.fnExactProgTextRow.holds Tryz.pinned (OpenSpec.ofChange Rows.fnExactProgTextSpec) :=
  OpenClaim.holds_of_wide 8 Tryz.f8 rfl rfl rfl rfl rfl rfl rfl ⟨rfl, rfl, rfl, rfl, rfl⟩ rfl rfl rfl rfl rfl (by kernel_rfl) Tryz.func8 (by unfold joinedFacts; rw [fact_inPlace, fact_unfollowed, fact_recurses, fact_named, fact_mayEnter, fact_liftsFinal, fact_make]; kernel_rfl)
    (of_decide_eq_true (by kernel_rfl)) (by unfold Func.isWrapper; first | (rw [if_pos (by decide +kernel)]; kernel_rfl) | (rw [if_neg (by decide +kernel)]; exact ⟨rfl, rfl⟩))
    (fun os started H enc _ => lifted os started H enc)
end Go.Proofs.YtkllhnhinealfaaGreatDoor.fnExactProgText
namespace Go.Proofs.YtkllhnhinealfaaGreatDoor

/-- The given statement. -/
theorem fnExactProgText_proved : Rows.FnExactProgTextCardSaid :=
  Claim7.holds_tied_plain_at .later [] [.data, .data, .data, .sentinel, .sentinel, .sentinel] true (true, "348b55e6dfa10a4d7db9c32e31893a0301f00dc3c8dd475d412680cc3e2900f2") true
    fnExactProgText.over (fun _ h => by cases h) (by kernel_rfl) (fun _ h => by cases h) fnExactProgText_row_tie rfl ⟨rfl, rfl⟩ fact_mainIs rfl
    (fun f fn hf hfn => by
      obtain rfl : f = 8 := Option.some.inj ((show Tryz.prog.funcNamed "loop.example/interlinear/laws.FnExactProgText" = some 8 by kernel_rfl).symm.trans hf) |>.symm
      obtain rfl : fn = Tryz.f8 := (Option.some.inj (Tryz.func8.symm.trans hfn)).symm
      exact ⟨fnExactProgText.fact_looks, fun j t ht => by
        rw [Tryz.params8] at ht
        have hm : t ∈ [46] := by simpa using Array.mem_of_getElem? ht
        have hall : ([46].all fun u => !Tryz.prog.wantsStandIn u) = true := by kernel_rfl
        exact (show Tryz.prog.wantsStandIn t = false by simpa using List.all_eq_true.1 hall t hm)⟩)
    fnExactProgText.fact_goes
#print axioms fnExactProgText_proved
end Go.Proofs.YtkllhnhinealfaaGreatDoor
