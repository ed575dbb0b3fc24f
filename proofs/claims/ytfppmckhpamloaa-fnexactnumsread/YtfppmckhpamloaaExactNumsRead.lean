/-
  'laws.FnExactNumsRead' returns true at every text: impl.NumsRead and the model's NumsRead answer the same, and each answer is memory of its own.
  Conditions: none; every string.
-/
import Derived.Test.YtfppmckhpamloaaNumsRead
import Derived.Test.YtfppmckhpamloaaRows
import Derived.WalkKit
import Derived.ProofKit
import Derived.OpenShut
import Derived.ShutString
import Derived.ChangeOld
import Derived.Below
import Derived.Lib.SmallJoins
import Derived.SliceStrings
namespace Go.Proofs.Ytfppmckhpamloaa.fnExactNumsRead
open Go.ChangeShapes Go.WideShapes Go.ChangeAt Go.RowKit Go.Joins
open Go.ChangeMaps (open_string shut_string)

theorem markIntS_one (base : Nat) (A : Option Addr) (c n : Nat) (xs : List Value) (w : World) (hl : 1 + n ≤ 2 ^ 40) (hown : w.ownsRow base 3 1 (.slice A n c) n xs) (hint : ∀ u ∈ xs, ∃ z, u = Value.int .i64 z) :
    Calls Try.prog 31 #[.slice A n c, .int .i64 1] w fun e w' => e = .returned (.int .i64 ((1 + n : Nat) : Int)) ∧ w'.ownsRow base 3 1 (.slice A n c) n (marksI 1 n) ∧ Below base w w' :=
  markIntS_any base A c 1 n xs w (by omega) hl hown hint
theorem heldIntS_one (A : Option Addr) (c n : Nat) (w : World) (hl : 1 + n ≤ 2 ^ 40) (hA : SlIs w A (marksI 1 n)) :
    Calls Try.prog 32 #[.slice A n c, .int .i64 1] w fun e w' => e = .returned (.int .i64 ((1 + n : Nat) : Int)) ∧ w = w' :=
  heldIntS_ok A c 1 n w (by omega) hl hA
theorem numsR_length (s : ByteArray) : ((numsR s).getD []).length ≤ s.size := by
  by_cases h : ∃ zs, Are (L s) zs
  · obtain ⟨zs, hz⟩ := h
    rw [numsR_yes hz]
    have hf : Far s s.size zs := ⟨Nat.le_refl _, by rw [List.take_of_length_le (by rw [L_length]; exact Nat.le_refl _)]; exact hz⟩
    exact hf.len
  · rw [numsR_no h]; simp

set_option maxRecDepth 100000 in
set_option maxHeartbeats 2000000 in
theorem walk (s : ByteArray) (w : World) (_ : s.size ≤ maxLen) :
    Calls Try.prog 13 #[.string s] w fun e w' => e = .returned (.bool true) ∧ Below w.heap.size w w' := by
  by_cases hl : 1048576 < s.size
  · have q1 : decide ((1048576 : Int) < (s.size : Int)) = true := by simp; omega
    go_enter Try.func13, Try.ntmps13
    go_wp2_with fail
    go_ret
    exact ⟨rfl, Below.refl _ _⟩
  · have q1 : decide ((1048576 : Int) < (s.size : Int)) = false := by simp; omega
    have hn := numsR_length s
    have HSp := Lib.hid (fun w => specNumsRead_any s w (by omega))
    have HIm := Lib.hid (fun w => numsRead_any s w (by omega))
    unfold ReadsAll at HSp HIm
    generalize (numsR s).isSome = ok at *
    generalize (numsR s).getD [] = zs at *
    go_enter Try.func13, Try.ntmps13
    go_wp2_with fail
    refine (HSp.out w).mono ?_
    rintro e w1 ⟨v, rfl, hv, hb1⟩
    obtain ⟨A, c, rfl, _⟩ := own_slice hv
    have HA := Lib.hid (SlIs.own hv)
    clear hv
    go_wp2_with fail
    refine (HIm.out w1).mono ?_
    rintro e w2 ⟨v, rfl, hv, hb2⟩
    obtain ⟨B, d, rfl, _⟩ := own_slice hv
    have HO := Lib.hid hv
    clear hv
    go_wp2_with fail
    refine (eqIntS_same B A d c zs w2 (by omega) (SlIs.own HO.out) (HA.out.below hb2)).mono ?_
    rintro e w3 ⟨rfl, hb3⟩
    have hB3 : Below w1.heap.size w1 w3 := hb2.trans (hb3.mono hb2.size)
    have HSt := Lib.hid (show ∀ u ∈ zs.map intV, ∃ z, u = Value.int .i64 z by
      intro u hu
      obtain ⟨z, _, rfl⟩ := List.mem_map.1 hu
      exact ⟨z, rfl⟩)
    have q2 : (ok != ok) = false := by simp
    go_wp2_with fail
    refine (markIntS_one w1.heap.size B d zs.length (zs.map intV) w3 (by omega) (own_below HO.out hb3) HSt.out).mono ?_
    rintro e w4 ⟨rfl, ho4, hb4⟩
    have HO4 := Lib.hid ho4
    clear ho4 HO
    have hB4 : Below w1.heap.size w1 w4 := hB3.trans hb4
    go_wp2_with fail
    refine (heldIntS_one B d zs.length w4 (by omega) (SlIs.own HO4.out)).mono ?_
    rintro e w' ⟨rfl, rfl⟩
    have q3 : decide ((1 : Int) + (zs.length : Int) < 0) = false := by simp; omega
    go_wp2_with fail
    refine (HIm.out w4).mono ?_
    rintro e w5 ⟨v, rfl, hv, hb5⟩
    obtain ⟨C, d5, rfl, _⟩ := own_slice hv
    have HC := Lib.hid (SlIs.own hv)
    clear hv
    have hB5 : Below w1.heap.size w1 w5 := hB4.trans (hb5.mono hB4.size)
    go_wp2_with fail
    refine (eqIntS_same C A d5 c zs w5 (by omega) HC.out (HA.out.below hB5)).mono ?_
    rintro e w6 ⟨rfl, hb6⟩
    have hB6 : Below w1.heap.size w1 w6 := hB5.trans (hb6.mono hB5.size)
    have hb56 : Below w4.heap.size w4 w6 := hb5.trans (hb6.mono hb5.size)
    go_wp2_with fail
    refine (heldIntS_one B d zs.length w6 (by omega) ((SlIs.own HO4.out).below hb56)).mono ?_
    rintro e w' ⟨rfl, rfl⟩
    go_wp2_with fail
    go_ret
    exact ⟨rfl, hb1.trans (hB6.mono hb1.size)⟩

theorem own : ownKnob Try.prog.godebug = none := by kernel_rfl
theorem laidOut : laidOutB Try.prog = true := by kernel_rfl

set_option linter.unusedVariables false in
set_option maxRecDepth 100000 in
theorem lifted (os : Os) (started : os.Started) (H : Type) (enc : TypeId × Value → H) :
    ReturnsInHanded {} Try.checked os 13 .any (Rows.fnExactNumsReadSpec.pre6 enc Try.prog Try.f13 Rows.fnExactNumsReadRow.domain false) (Rows.fnExactNumsReadSpec.post enc Try.prog Try.f13 false true false false) := by
  refine returnsInHanded_of_change (C := Try.checked) own started (by kernel_rfl) Try.func13
    (ChangeSpec.witness6 (enc := enc) (C := Try.checked) false ⟨#[], #[.string ByteArray.empty], []⟩ 8 (by kernel_rfl) (by kernel_rfl) (by kernel_rfl) (by kernel_rfl)) ?_
  intro W base args ds gs before hval0 hW hcnd _
  have hval : ∀ (j : Nat) t v, Try.f13.params[j]? = some t → args[j]? = some v → Value.okWide Try.prog W .any base t v := hval0
  have hW' := hW
  obtain ⟨p, q, hA0, hV, rfl, hfz, hnd⟩ := hW
  have hA : DataW.TrodAll enc Try.prog W 0 (fun _ => true) true Try.f13.params.toList args.toList ds p := hA0
  rw [Try.params13] at hA hval
  obtain ⟨v0, vs0, d0, ds0, p0, q0, hargs, rfl, rfl, h0, r0⟩ := trodAll_cons hA
  obtain ⟨rfl, rfl, rfl⟩ := trodAll_nil r0
  obtain rfl : args = #[v0] := by cases args; simp_all
  obtain ⟨rfl, rfl⟩ := trodVars_none hV
  have k0 := h0
  have lt0 : ∀ x ∈ p0, x.block < W.heap.size := by obtain ⟨m, hm⟩ := k0; exact DataW.trod_lt m _ _ _ hm
  obtain ⟨a0, e0, w0⟩ : ∃ a : ByteArray, v0 = .string a ∧ a.size ≤ maxLen := by
    obtain ⟨a, rfl, _, _, w0⟩ := open_string Try.underlying9 (hval 0 9 v0 rfl rfl) h0
    exact ⟨a, rfl, w0⟩
  subst e0
  clear hA0 hval0
  refine (walk a0 W w0).mono fun e W' ⟨he, bel⟩ => ?_
  subst he
  exact ⟨_, rfl, _, _, _, [], _, [], hW', trodAll_mk1 (shut_bool Try.underlying4 _), (trodAll_cons_mk (Below.trod laidOut (by kernel_rfl) (of_decide_eq_true (by kernel_rfl)) k0 bel lt0) trodAll_mk0), rfl, bel.frame _, fun h => by cases h⟩

theorem over : Rows.fnExactNumsReadRow.holds Try.pinned (OpenSpec.ofChange Rows.fnExactNumsReadSpec) :=
  OpenClaim.holds_of_wide 13 Try.f13 rfl rfl rfl rfl rfl rfl rfl ⟨rfl, rfl, rfl, rfl, rfl⟩ rfl rfl rfl rfl rfl (by kernel_rfl) Try.func13 (by kernel_rfl)
    (of_decide_eq_true (by kernel_rfl)) (by unfold Func.isWrapper; first | (rw [if_pos (by decide +kernel)]; kernel_rfl) | (rw [if_neg (by decide +kernel)]; exact ⟨rfl, rfl⟩))
    (fun os started H enc _ => lifted os started H enc)
end Go.Proofs.Ytfppmckhpamloaa.fnExactNumsRead
namespace Go.Proofs.Ytfppmckhpamloaa

/-- The given statement. -/
theorem fnExactNumsRead_proved : Rows.FnExactNumsReadSaid := fnExactNumsRead.over
#print axioms fnExactNumsRead_proved
end Go.Proofs.Ytfppmckhpamloaa
