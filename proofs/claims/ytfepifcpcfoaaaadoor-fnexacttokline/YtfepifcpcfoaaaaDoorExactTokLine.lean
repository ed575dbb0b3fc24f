/-
  'laws.FnExactTokLine' returns true at every line: impl.TokLine and the model's TokLine answer the same, and each answer is memory of its own.
  Conditions: the library's variables hold what their initialisers lay (tied to the program's text); every string.
-/
import Derived.Test.YtfepifcpcfoaaaaDoorImplLine
import Derived.Test.YtfepifcpcfoaaaaDoorMarkToks
import Derived.Test.YtfepifcpcfoaaaaDoorTokDraw
import Derived.Test.YtfepifcpcfoaaaaDoorLaid
import Derived.Test.YtfepifcpcfoaaaaDoorCards
import Derived.Test.YtfepifcpcfoaaaaDoorTie
import Derived.Test.YtfepifcpcfoaaaaDoorRows
import Derived.WalkKit
import Derived.ProofKit
import Derived.OpenShut
import Derived.ShutString
import Derived.ChangeOld
import Derived.Below
import Derived.Lib.SmallJoins
import Derived.SliceStrings
namespace Go.Proofs.YtfepifcpcfoaaaaDoor.fnExactTokLine
open Go.ChangeShapes Go.WideShapes Go.ChangeAt Go.RowKit Go.Joins
open Go.ChangeMaps (open_string shut_string)


theorem markTokS_one (base : Nat) (A : Option Addr) (c n : Nat) (xs : List Tv) (w : World) (hl : 1 + 3 * n ≤ 2 ^ 39) (hn : xs.length = n) (hown : w.ownsRow base 31 3 (.slice A n c) n (rowT xs)) :
    Calls Tryd.prog 27 #[.slice A n c, .int .i64 1] w fun e w' => e = .returned (.int .i64 ((1 + 3 * n : Nat) : Int)) ∧ w'.ownsRow base 31 3 (.slice A n c) n (rowT (marksT 1 n)) ∧ Below base w w' :=
  markTokS_any base A c 1 n xs w (by omega) hl hn hown
theorem heldTokS_one (A : Option Addr) (c n : Nat) (w : World) (hl : 1 + 3 * n ≤ 2 ^ 39) (hA : SlIs w A (rowT (marksT 1 n))) :
    Calls Tryd.prog 28 #[.slice A n c, .int .i64 1] w fun e w' => e = .returned (.int .i64 ((1 + 3 * n : Nat) : Int)) ∧ Below w.heap.size w w' :=
  heldTokS_ok A c 1 n w (by omega) hl hA
theorem reads_len {w : World} {s : ByteArray} {e : Ending} {w' : World} (h : ReadsT w s e w') : ∃ v, e = .returned (.tuple #[v, .bool (toksR s).isSome]) ∧ w'.ownsRow w.heap.size 31 3 v (((toksR s).getD []).map tkV).length (rowT (((toksR s).getD []).map tkV)) ∧ Below w.heap.size w w' := by
  obtain ⟨v, h1, h2, h3⟩ := h
  exact ⟨v, h1, by rw [List.length_map]; exact h2, h3⟩

set_option maxRecDepth 100000 in
set_option maxHeartbeats 4000000 in
theorem walk (s : ByteArray) (w : World) (_ : s.size ≤ maxLen) (hw : LaidW w) :
    Calls Tryd.prog 10 #[.string s] w fun e w' => e = .returned (.bool true) ∧ Below w.heap.size w w' := by
  by_cases hl : 1048576 < s.size
  · have q1 : decide ((1048576 : Int) < (s.size : Int)) = true := by simp; omega
    go_enter Tryd.func10, Tryd.ntmps10
    go_wp2_with fail
    go_ret
    exact ⟨rfl, Below.refl _ _⟩
  · have q1 : decide ((1048576 : Int) < (s.size : Int)) = false := by simp; omega
    have hn := toksR_length s
    rw [← List.length_map (f := tkV)] at hn
    have HSp := Lib.hid (fun w => (specTokLine_any s w (by omega)).mono (fun _ _ h => reads_len h))
    have HIm := Lib.hid (fun w hw => (tokLine_any s w (by omega) hw).mono (fun _ _ h => reads_len h))
    have HW := Lib.hid hw
    clear hw
    generalize (toksR s).isSome = ok at *
    generalize ((toksR s).getD []).map tkV = xs at *
    go_enter Tryd.func10, Tryd.ntmps10
    go_wp2_with fail
    refine (HSp.out w).mono ?_
    rintro e w1 ⟨v, rfl, hv, hb1⟩
    obtain ⟨A, c, rfl, _⟩ := own_sliceK hv
    have HA := Lib.hid (SlIs.ownK hv)
    clear hv
    go_wp2_with fail
    refine (HIm.out w1 (HW.out.below hb1)).mono ?_
    rintro e w2 ⟨v, rfl, hv, hb2⟩
    obtain ⟨B, d, rfl, _⟩ := own_sliceK hv
    have HO := Lib.hid hv
    clear hv
    go_wp2_with fail
    refine (eqTokS_same B A d c xs w2 (by omega) (SlIs.ownK HO.out) (HA.out.below hb2)).mono ?_
    rintro e w3 ⟨rfl, hb3⟩
    have hB3 : Below w1.heap.size w1 w3 := hb2.trans (hb3.mono hb2.size)
    have q2 : (ok != ok) = false := by simp
    go_wp2_with fail
    refine (markTokS_one w1.heap.size B d xs.length xs w3 (by omega) rfl (own_below HO.out hb3)).mono ?_
    rintro e w4 ⟨rfl, ho4, hb4⟩
    have HO4 := Lib.hid ho4
    clear ho4 HO
    have hB4 : Below w1.heap.size w1 w4 := hB3.trans hb4
    go_wp2_with fail
    refine (heldTokS_one B d xs.length w4 (by omega) (SlIs.ownK HO4.out)).mono ?_
    rintro e w5 ⟨rfl, hb5⟩
    have hB5 : Below w1.heap.size w1 w5 := hB4.trans (hb5.mono hB4.size)
    have q3 : decide ((1 : Int) + 3 * (xs.length : Int) < 0) = false := by simp; omega
    have q4 : ((((1 + 3 * xs.length : Nat) : Int)) != ((1 + 3 * xs.length : Nat) : Int)) = false := by simp
    go_wp2_with fail
    refine (HIm.out w5 (HW.out.below (hb1.trans (hB5.mono hb1.size)))).mono ?_
    rintro e w6 ⟨v, rfl, hv, hb6⟩
    obtain ⟨C, d6, rfl, _⟩ := own_sliceK hv
    have HC := Lib.hid (SlIs.ownK hv)
    clear hv
    have hB6 : Below w1.heap.size w1 w6 := hB5.trans (hb6.mono hB5.size)
    go_wp2_with fail
    refine (eqTokS_same C A d6 c xs w6 (by omega) HC.out (HA.out.below hB6)).mono ?_
    rintro e w7 ⟨rfl, hb7⟩
    have hB7 : Below w1.heap.size w1 w7 := hB6.trans (hb7.mono hB6.size)
    have hb47 : Below w4.heap.size w4 w7 := (hb5.trans (hb6.mono hb5.size)).trans (hb7.mono (Nat.le_trans hb5.size hb6.size))
    go_wp2_with fail
    refine (heldTokS_one B d xs.length w7 (by omega) ((SlIs.ownK HO4.out).below hb47)).mono ?_
    rintro e w8 ⟨rfl, hb8⟩
    have hB8 : Below w1.heap.size w1 w8 := hB7.trans (hb8.mono hB7.size)
    go_wp2_with fail
    go_ret
    exact ⟨rfl, hb1.trans (hB8.mono hb1.size)⟩


set_option linter.unusedVariables false in
set_option maxRecDepth 100000 in
theorem lifted (os : Os) (started : os.Started) (H : Type) (enc : TypeId × Value → H) :
    ReturnsInHanded {} Tryd.checked os 10 .any (fun w args => (Rows.fnExactTokLineSpec.pre enc Tryd.prog Tryd.f10 [] false w args ∧ laidMetH Tryd.prog laidL w) ∧ sizedMet enc Tryd.prog Tryd.f10 (OpenSpec.ofChange Rows.fnExactTokLineSpec) false w args)
      (Rows.fnExactTokLineSpec.post enc Tryd.prog Tryd.f10 false true false false) := by
  refine returnsInHanded_of_change_and (C := Tryd.checked) (X := fun w _ => laidMetH Tryd.prog laidL w) (fun _ _ _ hh h => h.of_heap hh) own started (by kernel_rfl) Tryd.func10
    (ChangeSpec.witness_shaped (enc := enc) (C := Tryd.checked) (os := os) (X := fun w _ => laidMetH Tryd.prog laidL w) false (World.doorLaid Tryd.prog 62 os) #[.string ByteArray.empty] 8 rfl (World.shaped_of_RefB (by kernel_rfl) (by kernel_rfl)) (by kernel_rfl) (by kernel_rfl) (by kernel_rfl) (door_met os _)) ?_
  intro W base args ds gs before hval0 hW _ _ hL _
  have hval : ∀ (j : Nat) t v, Tryd.f10.params[j]? = some t → args[j]? = some v → Value.okWide Tryd.prog W .any base t v := hval0
  have hW' := hW
  obtain ⟨p, q, hA0, hV, rfl, hfz, hnd⟩ := hW
  have hA : DataW.TrodAll enc Tryd.prog W 0 (fun _ => true) true Tryd.f10.params.toList args.toList ds p := hA0
  rw [Tryd.params10] at hA hval
  obtain ⟨v0, vs0, d0, ds0, p0, q0, hargs, rfl, rfl, h0, r0⟩ := trodAll_cons hA
  obtain ⟨rfl, rfl, rfl⟩ := trodAll_nil r0
  obtain rfl : args = #[v0] := by cases args; simp_all
  obtain ⟨rfl, rfl⟩ := trodVars_none hV
  have k0 := h0
  have lt0 : ∀ x ∈ p0, x.block < W.heap.size := by obtain ⟨m, hm⟩ := k0; exact DataW.trod_lt m _ _ _ hm
  obtain ⟨a0, e0, w0⟩ : ∃ a : ByteArray, v0 = .string a ∧ a.size ≤ maxLen := by
    obtain ⟨a, rfl, _, _, w0⟩ := open_string Tryd.underlying9 (hval 0 9 v0 rfl rfl) h0
    exact ⟨a, rfl, w0⟩
  subst e0
  clear hA0 hval0
  refine (walk a0 W w0 (of_laid hL)).mono fun e W' ⟨he, bel⟩ => ?_
  subst he
  exact ⟨_, rfl, _, _, _, [], _, [], hW', trodAll_mk1 (shut_bool Tryd.underlying4 _), (trodAll_cons_mk (Below.trod laidOut (by kernel_rfl) (of_decide_eq_true (by kernel_rfl)) k0 bel lt0) trodAll_mk0), rfl, bel.frame _, fun h => by cases h⟩

theorem over : Rows.fnExactTokLineRow.holds Tryd.pinned (OpenSpec.ofChange Rows.fnExactTokLineSpec) :=
  OpenClaim.holds_of_wide 10 Tryd.f10 rfl rfl rfl rfl rfl rfl rfl ⟨rfl, rfl, rfl, rfl, rfl⟩ rfl rfl rfl rfl rfl (by kernel_rfl) Tryd.func10 (by kernel_rfl)
    (of_decide_eq_true (by kernel_rfl)) (by unfold Func.isWrapper; first | (rw [if_pos (by decide +kernel)]; kernel_rfl) | (rw [if_neg (by decide +kernel)]; exact ⟨rfl, rfl⟩))
    (fun os started H enc _ => lifted os started H enc)
end Go.Proofs.YtfepifcpcfoaaaaDoor.fnExactTokLine
namespace Go.Proofs.YtfepifcpcfoaaaaDoor

/-- The given statement. -/
theorem fnExactTokLine_proved : Rows.FnExactTokLineCardSaid :=
  Claim7.holds_tied_plain_at .later [] [.data, .data, .data, .sentinel, .sentinel] true (true, "29ed2e23a74b36dc8cab4763febb46758cd644b74055fc42faa0c447b9c48a81") true
    fnExactTokLine.over (fun _ h => by cases h) (by kernel_rfl) (fun _ h => by cases h) fnExactTokLine_row_tie rfl ⟨rfl, rfl⟩ (by kernel_rfl) rfl
    (fun f fn hf hfn => by
      obtain rfl : f = 10 := Option.some.inj ((show Tryd.prog.funcNamed "loop.example/interlinear/laws.FnExactTokLine" = some 10 by kernel_rfl).symm.trans hf) |>.symm
      obtain rfl : fn = Tryd.f10 := (Option.some.inj (Tryd.func10.symm.trans hfn)).symm
      exact ⟨by kernel_rfl, fun j t ht => by
        rw [Tryd.params10] at ht
        have hm : t ∈ [9] := by simpa using Array.mem_of_getElem? ht
        have hall : ([9].all fun u => !Tryd.prog.wantsStandIn u) = true := by kernel_rfl
        exact (show Tryd.prog.wantsStandIn t = false by simpa using List.all_eq_true.1 hall t hm)⟩)
    (by kernel_rfl)
#print axioms fnExactTokLine_proved
end Go.Proofs.YtfepifcpcfoaaaaDoor
