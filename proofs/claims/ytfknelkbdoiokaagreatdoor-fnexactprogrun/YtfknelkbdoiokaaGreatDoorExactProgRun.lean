/-
  'laws.FnExactProgRun' returns true at whatever lines: impl.ProgRun and the model's ProgRun answer the same, nothing is written into an argument, and each answer is memory of its own.
  Conditions: the library's variables and the program's own error hold what their initialisers lay (tied to the program's text); every value of []laws.Stmt.
-/
import Derived.Test.YtfknelkbdoiokaaGreatDoorWalkExactProgRun
import Derived.Test.YtfknelkbdoiokaaGreatDoorImplRun
import Derived.Test.YtfknelkbdoiokaaGreatDoorSpecRun
import Derived.Test.YtfknelkbdoiokaaGreatDoorStOwn
import Derived.Test.YtfknelkbdoiokaaGreatDoorInts
import Derived.Test.YtfknelkbdoiokaaGreatDoorOpenSts
import Derived.Test.YtfknelkbdoiokaaGreatDoorLaidN
import Derived.Test.YtfknelkbdoiokaaGreatDoorCards
import Derived.Test.YtfknelkbdoiokaaGreatDoorTie
import Derived.Test.YtfknelkbdoiokaaGreatDoorFacts
import Derived.Test.YtfknelkbdoiokaaGreatDoorRows
import Derived.WalkKit
import Derived.ProofKit
import Derived.OpenShut
import Derived.ShutString
import Derived.ChangeOld
import Derived.Below
import Derived.Lib.SmallJoins
import Derived.SliceStrings
namespace Go.Proofs.YtfknelkbdoiokaaGreatDoor.fnExactProgRun
open Go.ChangeShapes Go.WideShapes Go.ChangeAt Go.RowKit Go.Joins
open Go.ChangeMaps (open_string shut_string)


set_option linter.unusedVariables false in
set_option maxRecDepth 100000 in
theorem lifted (os : Os) (started : os.Started) (H : Type) (enc : TypeId × Value → H) :
    ReturnsInHanded {} Tryz.checked os 10 .any (fun w args => (Rows.fnExactProgRunSpec.pre enc Tryz.prog Tryz.f10 [] false w args ∧ laidMetH Tryz.prog laidL6 w) ∧ sizedMet enc Tryz.prog Tryz.f10 (OpenSpec.ofChange Rows.fnExactProgRunSpec) false w args)
      (Rows.fnExactProgRunSpec.post enc Tryz.prog Tryz.f10 false true false false) := by
  refine returnsInHanded_of_change_and (C := Tryz.checked) (X := fun w _ => laidMetH Tryz.prog laidL6 w) (fun _ _ _ hh h => h.of_heap hh) own started (by kernel_rfl) Tryz.func10
    (ChangeSpec.witness_shaped (enc := enc) (C := Tryz.checked) (os := os) (X := fun w _ => laidMetH Tryz.prog laidL6 w) false (World.doorLaid Tryz.prog 81 os) #[.slice none 0 0] 8 rfl (World.shaped_of_RefB (by kernel_rfl) (by kernel_rfl)) (by kernel_rfl) (by kernel_rfl) (by kernel_rfl) (door_met6 os _)) ?_
  intro W base args ds gs before hval0 hW _ _ hL _
  have hval : ∀ (j : Nat) t v, Tryz.f10.params[j]? = some t → args[j]? = some v → Value.okWide Tryz.prog W .any base t v := hval0
  have hW' := hW
  obtain ⟨p, q, hA0, hV, rfl, hfz, hnd⟩ := hW
  have hA : DataW.TrodAll enc Tryz.prog W 0 (fun _ => true) true Tryz.f10.params.toList args.toList ds p := hA0
  rw [Tryz.params10] at hA hval
  obtain ⟨v0, vs0, d0, ds0, p0, q0, hargs, rfl, rfl, h0, r0⟩ := trodAll_cons hA
  obtain ⟨rfl, rfl, rfl⟩ := trodAll_nil r0
  obtain rfl : args = #[v0] := by cases args; simp_all
  obtain ⟨dg, rfl⟩ : ∃ dg, gs = [dg] := by obtain ⟨_, _, _, _, dg, _, hg, _⟩ := trodVars_one hV; exact ⟨dg, hg⟩
  have k0 := h0
  have lt0 : ∀ x ∈ p0, x.block < W.heap.size := by obtain ⟨m, hm⟩ := k0; exact DataW.trod_lt m _ _ _ hm
  obtain ⟨a0, len0, cap0, e0⟩ := okWide_slice Tryz.underlying61 (hval 0 61 v0 rfl rfl)
  subst e0
  obtain ⟨z0, hz0, w0⟩ : ∃ xs, xs.length = len0 ∧ InSts W a0 cap0 xs := by
    obtain ⟨fuel, hf⟩ := h0
    exact open_stmts hf rfl
  subst hz0
  clear hA0 hval0
  refine (walk a0 cap0 z0 W w0 (of_laid6 hL)).mono fun e W' ⟨he, bel⟩ => ?_
  subst he
  exact ⟨_, rfl, _, _, _, [], _, q, hW', trodAll_mk1 (shut_bool Tryz.underlying4 _), (trodAll_cons_mk (Below.trod laidOut (by kernel_rfl) (of_decide_eq_true (by kernel_rfl)) k0 bel lt0) trodAll_mk0), Below.trodVars laidOut bel (by kernel_rfl) hV, bel.frame _, fun h => by cases h⟩

theorem fact_inPlace : (Rows.fnExactProgRunRow.inPlace == Tryz.pinned.checked.prog.inPlace 10) = true := by kernel_rfl
theorem fact_unfollowed : (Rows.fnExactProgRunRow.unfollowed == Tryz.pinned.checked.prog.unfollowed 10) = true := by kernel_rfl
theorem fact_recurses : (Rows.fnExactProgRunRow.recurses == Tryz.pinned.checked.prog.recurses 10) = true := by kernel_rfl
theorem fact_named : (Rows.fnExactProgRunRow.named == Tryz.pinned.checked.prog.varsNamed 10) = true := by kernel_rfl
theorem fact_looks : true = Tryz.pinned.checked.prog.looks [] := by kernel_rfl
theorem fact_goes : false = Rows.fnExactProgRunRow.goesBy Tryz.pinned.checked.prog := by kernel_rfl
theorem over : Rows.fnExactProgRunRow.holds Tryz.pinned (OpenSpec.ofChange Rows.fnExactProgRunSpec) :=
  OpenClaim.holds_of_wide 10 Tryz.f10 rfl rfl rfl rfl rfl rfl rfl ⟨rfl, rfl, rfl, rfl, rfl⟩ rfl rfl rfl rfl rfl (by kernel_rfl) Tryz.func10 (by unfold joinedFacts; rw [fact_inPlace, fact_unfollowed, fact_recurses, fact_named, fact_mayEnter, fact_liftsFinal, fact_make]; kernel_rfl)
    (of_decide_eq_true (by kernel_rfl)) (by unfold Func.isWrapper; first | (rw [if_pos (by decide +kernel)]; kernel_rfl) | (rw [if_neg (by decide +kernel)]; exact ⟨rfl, rfl⟩))
    (fun os started H enc _ => lifted os started H enc)
end Go.Proofs.YtfknelkbdoiokaaGreatDoor.fnExactProgRun
namespace Go.Proofs.YtfknelkbdoiokaaGreatDoor

/-- The given statement. -/
theorem fnExactProgRun_proved : Rows.FnExactProgRunCardSaid :=
  Claim7.holds_tied_plain_at .later [] [.data, .data, .data, .sentinel, .sentinel, .sentinel] true (true, "6a8621b4d754e4af97c753730d1bcd420fab67a4abfe2fa865d592b02e3c6e1c") true
    fnExactProgRun.over (fun _ h => by cases h) (by kernel_rfl) (fun _ h => by cases h) fnExactProgRun_row_tie rfl ⟨rfl, rfl⟩ fact_mainIs rfl
    (fun f fn hf hfn => by
      obtain rfl : f = 10 := Option.some.inj ((show Tryz.prog.funcNamed "loop.example/interlinear/laws.FnExactProgRun" = some 10 by kernel_rfl).symm.trans hf) |>.symm
      obtain rfl : fn = Tryz.f10 := (Option.some.inj (Tryz.func10.symm.trans hfn)).symm
      exact ⟨fnExactProgRun.fact_looks, fun j t ht => by
        rw [Tryz.params10] at ht
        have hm : t ∈ [61] := by simpa using Array.mem_of_getElem? ht
        have hall : ([61].all fun u => !Tryz.prog.wantsStandIn u) = true := by kernel_rfl
        exact (show Tryz.prog.wantsStandIn t = false by simpa using List.all_eq_true.1 hall t hm)⟩)
    fnExactProgRun.fact_goes
#print axioms fnExactProgRun_proved
end Go.Proofs.YtfknelkbdoiokaaGreatDoor
