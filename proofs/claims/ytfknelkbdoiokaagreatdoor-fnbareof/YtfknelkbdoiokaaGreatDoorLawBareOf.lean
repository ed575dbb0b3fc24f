/-
  'laws.FnBareOf' returns true at every code: a drawn line without types has its kind and name, and no type in what it reckons; it is at most four wider.
  Conditions: the library's variables and the program's own error hold what their initialisers lay (tied to the program's text); every list of bytes.
-/
import Derived.Test.YtfknelkbdoiokaaGreatDoorWalkBareOf
import Derived.Test.YtfknelkbdoiokaaGreatDoorGH
import Derived.Test.YtfknelkbdoiokaaGreatDoorGV
import Derived.Test.YtfknelkbdoiokaaGreatDoorSpecOfB
import Derived.Test.YtfknelkbdoiokaaGreatDoorDrawLn
import Derived.Test.YtfknelkbdoiokaaGreatDoorImplStmt
import Derived.Test.YtfknelkbdoiokaaGreatDoorImplBare
import Derived.Test.YtfknelkbdoiokaaGreatDoorImplLine
import Derived.Test.YtfknelkbdoiokaaGreatDoorExprBare
import Derived.Test.YtfknelkbdoiokaaGreatDoorBareSame
import Derived.Test.YtfknelkbdoiokaaGreatDoorGB
import Derived.Test.YtfknelkbdoiokaaGreatDoorLaidN
import Derived.Test.YtfknelkbdoiokaaGreatDoorCards
import Derived.Test.YtfknelkbdoiokaaGreatDoorTie
import Derived.Test.YtfknelkbdoiokaaGreatDoorFacts
import Derived.Test.YtfknelkbdoiokaaGreatDoorRows
import Derived.WalkKit
import Derived.ProofKit
import Derived.OpenShut
import Derived.ShutString
import Derived.ChangeOld
import Derived.Below
import Derived.Lib.SmallJoins
import Derived.SliceStrings
namespace Go.Proofs.YtfknelkbdoiokaaGreatDoor.fnBareOf
open Go.ChangeShapes Go.WideShapes Go.ChangeAt Go.RowKit Go.Joins
open Go.ChangeMaps (open_string shut_string)


set_option linter.unusedVariables false in
set_option maxRecDepth 100000 in
theorem lifted (os : Os) (started : os.Started) (H : Type) (enc : TypeId × Value → H) :
    ReturnsInHanded {} Tryz.checked os 6 .any (fun w args => (Rows.fnBareOfSpec.pre enc Tryz.prog Tryz.f6 [] false w args ∧ laidMetH Tryz.prog laidL6 w) ∧ sizedMet enc Tryz.prog Tryz.f6 (OpenSpec.ofChange Rows.fnBareOfSpec) false w args)
      (Rows.fnBareOfSpec.post enc Tryz.prog Tryz.f6 false true false false) := by
  refine returnsInHanded_of_change_and (C := Tryz.checked) (X := fun w _ => laidMetH Tryz.prog laidL6 w) (fun _ _ _ hh h => h.of_heap hh) own started (by kernel_rfl) Tryz.func6
    (ChangeSpec.witness_shaped (enc := enc) (C := Tryz.checked) (os := os) (X := fun w _ => laidMetH Tryz.prog laidL6 w) false (World.doorLaid Tryz.prog 81 os) #[.slice none 0 0] 8 rfl (World.shaped_of_RefB (by kernel_rfl) (by kernel_rfl)) (by kernel_rfl) (by kernel_rfl) (by kernel_rfl) (door_met6 os _)) ?_
  intro W base args ds gs before hval0 hW _ _ hL _
  have hval : ∀ (j : Nat) t v, Tryz.f6.params[j]? = some t → args[j]? = some v → Value.okWide Tryz.prog W .any base t v := hval0
  have hW' := hW
  obtain ⟨p, q, hA0, hV, rfl, hfz, hnd⟩ := hW
  have hA : DataW.TrodAll enc Tryz.prog W 0 (fun _ => true) true Tryz.f6.params.toList args.toList ds p := hA0
  rw [Tryz.params6] at hA hval
  obtain ⟨v0, vs0, d0, ds0, p0, q0, hargs, rfl, rfl, h0, r0⟩ := trodAll_cons hA
  obtain ⟨rfl, rfl, rfl⟩ := trodAll_nil r0
  obtain rfl : args = #[v0] := by cases args; simp_all
  obtain ⟨dg, rfl⟩ : ∃ dg, gs = [dg] := by obtain ⟨_, _, _, _, dg, _, hg, _⟩ := trodVars_one hV; exact ⟨dg, hg⟩
  have k0 := h0
  have lt0 : ∀ x ∈ p0, x.block < W.heap.size := by obtain ⟨m, hm⟩ := k0; exact DataW.trod_lt m _ _ _ hm
  obtain ⟨a0, len0, cap0, e0⟩ := okWide_slice Tryz.underlying22 (hval 0 22 v0 rfl rfl)
  subst e0
  have w0 : InCode W a0 len0 cap0 := by
    obtain ⟨fuel, hf⟩ := h0
    rcases open_ints Tryz.underlying22 Tryz.underlying5 (by kernel_rfl) hf with ⟨hcs, _⟩ | ⟨x, l, c, zs, hcs, _, hl, hm, hz, _, hcell, hwz⟩
    · simp [Value.cells] at hcs
      obtain ⟨rfl, rfl, rfl⟩ := hcs
      exact inCode_nil W
    · simp [Value.cells] at hcs
      obtain ⟨rfl, rfl, rfl⟩ := hcs
      exact inCode_of hl hm (by simpa using hz) hcell hwz
  clear hA0 hval0
  refine (walk a0 len0 cap0 W w0 (of_laid6 hL)).mono fun e W' ⟨he, bel⟩ => ?_
  subst he
  exact ⟨_, rfl, _, _, _, [], _, q, hW', trodAll_mk1 (shut_bool Tryz.underlying4 _), (trodAll_cons_mk (Below.trod laidOut (by kernel_rfl) (of_decide_eq_true (by kernel_rfl)) k0 bel lt0) trodAll_mk0), Below.trodVars laidOut bel (by kernel_rfl) hV, bel.frame _, fun h => by cases h⟩

theorem fact_inPlace : (Rows.fnBareOfRow.inPlace == Tryz.pinned.checked.prog.inPlace 6) = true := by kernel_rfl
theorem fact_unfollowed : (Rows.fnBareOfRow.unfollowed == Tryz.pinned.checked.prog.unfollowed 6) = true := by kernel_rfl
theorem fact_recurses : (Rows.fnBareOfRow.recurses == Tryz.pinned.checked.prog.recurses 6) = true := by kernel_rfl
theorem fact_named : (Rows.fnBareOfRow.named == Tryz.pinned.checked.prog.varsNamed 6) = true := by kernel_rfl
theorem fact_looks : true = Tryz.pinned.checked.prog.looks [] := by kernel_rfl
theorem fact_goes : false = Rows.fnBareOfRow.goesBy Tryz.pinned.checked.prog := by kernel_rfl
theorem over : Rows.fnBareOfRow.holds Tryz.pinned (OpenSpec.ofChange Rows.fnBareOfSpec) :=
  OpenClaim.holds_of_wide 6 Tryz.f6 rfl rfl rfl rfl rfl rfl rfl ⟨rfl, rfl, rfl, rfl, rfl⟩ rfl rfl rfl rfl rfl (by kernel_rfl) Tryz.func6 (by unfold joinedFacts; rw [fact_inPlace, fact_unfollowed, fact_recurses, fact_named, fact_mayEnter, fact_liftsFinal, fact_make]; kernel_rfl)
    (of_decide_eq_true (by kernel_rfl)) (by unfold Func.isWrapper; first | (rw [if_pos (by decide +kernel)]; kernel_rfl) | (rw [if_neg (by decide +kernel)]; exact ⟨rfl, rfl⟩))
    (fun os started H enc _ => lifted os started H enc)
end Go.Proofs.YtfknelkbdoiokaaGreatDoor.fnBareOf
namespace Go.Proofs.YtfknelkbdoiokaaGreatDoor

/-- The given statement. -/
theorem fnBareOf_proved : Rows.FnBareOfCardSaid :=
  Claim7.holds_tied_plain_at .later [] [.data, .data, .data, .sentinel, .sentinel, .sentinel] true (true, "6a8621b4d754e4af97c753730d1bcd420fab67a4abfe2fa865d592b02e3c6e1c") true
    fnBareOf.over (fun _ h => by cases h) (by kernel_rfl) (fun _ h => by cases h) fnBareOf_row_tie rfl ⟨rfl, rfl⟩ fact_mainIs rfl
    (fun f fn hf hfn => by
      obtain rfl : f = 6 := Option.some.inj ((show Tryz.prog.funcNamed "loop.example/interlinear/laws.FnBareOf" = some 6 by kernel_rfl).symm.trans hf) |>.symm
      obtain rfl : fn = Tryz.f6 := (Option.some.inj (Tryz.func6.symm.trans hfn)).symm
      exact ⟨fnBareOf.fact_looks, fun j t ht => by
        rw [Tryz.params6] at ht
        have hm : t ∈ [22] := by simpa using Array.mem_of_getElem? ht
        have hall : ([22].all fun u => !Tryz.prog.wantsStandIn u) = true := by kernel_rfl
        exact (show Tryz.prog.wantsStandIn t = false by simpa using List.all_eq_true.1 hall t hm)⟩)
    fnBareOf.fact_goes
#print axioms fnBareOf_proved
end Go.Proofs.YtfknelkbdoiokaaGreatDoor
