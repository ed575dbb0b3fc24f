/-
  'laws.FnExactTextLines' returns true at every text: impl.TextLines and the model's TextLines answer the same, and each answer is memory of its own.
  Conditions: none; every string.
-/
import Derived.Test.YtnpcohbbjfjjaaaSpecCut
import Derived.Test.YtnpcohbbjfjjaaaMarks
import Derived.Test.YtnpcohbbjfjjaaaRows
import Derived.WalkKit
import Derived.ProofKit
import Derived.OpenShut
import Derived.ShutString
import Derived.ChangeOld
import Derived.Below
import Derived.Lib.SmallJoins
import Derived.SliceStrings
namespace Go.Proofs.Ytnpcohbbjfjjaaa.fnExactTextLines
open Go.ChangeShapes Go.WideShapes Go.ChangeAt Go.RowKit Go.Joins
open Go.ChangeMaps (open_string shut_string)

/-- The lines of a text, as texts. -/
def lineTexts (s : ByteArray) : List ByteArray := if okB s then (lines s).map (fun x => s.extract x.1 x.2) else []
theorem linesV_eq (s : ByteArray) : linesV s = (lineTexts s).map strV := by
  unfold linesV lineTexts
  cases okB s
  · rfl
  · simp only [if_true, List.map_map]; rfl
theorem lineTexts_length (s : ByteArray) : (lineTexts s).length ≤ s.size + 1 := by
  unfold lineTexts
  cases okB s
  · simp
  · simpa using lines_length s

theorem own_slice {w : World} {base : Nat} {e : TypeId} {v : Value} {n : Nat} {xs : List Value} (h : w.ownsRow base e 1 v n xs) : ∃ A c, v = .slice A n c := by
  rcases h.2 with ⟨rfl, rfl⟩ | ⟨g, cap, _, rfl, _⟩
  · exact ⟨none, 0, rfl⟩
  · exact ⟨_, cap, rfl⟩

theorem markStringS_one (base : Nat) (A : Option Addr) (c n : Nat) (xs : List Value) (w : World) (hl : 1 + n ≤ 2 ^ 40) (hown : w.ownsRow base 9 1 (.slice A n c) n xs) (hbase : base ≤ w.heap.size) (hstr : ∀ u ∈ xs, ∃ s, u = Value.string s) :
    Calls Try.prog 36 #[.slice A n c, .int .i64 1] w fun e w' => e = .returned (.int .i64 ((1 + n : Nat) : Int)) ∧ w'.ownsRow base 9 1 (.slice A n c) n (marksV 1 n) ∧ Below base w w' :=
  markStringS_any base A c 1 n xs w (by omega) hl hown hbase hstr
theorem heldStringS_one (A : Option Addr) (c n : Nat) (w : World) (hl : 1 + n ≤ 2 ^ 40) (hA : SlIs w A (marksV 1 n)) :
    Calls Try.prog 37 #[.slice A n c, .int .i64 1] w fun e w' => e = .returned (.int .i64 ((1 + n : Nat) : Int)) ∧ Below w.heap.size w w' :=
  heldStringS_ok A c 1 n w (by omega) hl hA

set_option maxHeartbeats 2000000 in
theorem walk (s : ByteArray) (w : World) (_ : s.size ≤ maxLen) :
    Calls Try.prog 11 #[.string s] w fun e w' => e = .returned (.bool true) ∧ Below w.heap.size w w' := by
  by_cases hl : 1048576 < s.size
  · have q1 : decide ((1048576 : Int) < (s.size : Int)) = true := by simp; omega
    go_enter Try.func11, Try.ntmps11
    go_wp2_with fail
    go_ret
    exact ⟨rfl, Below.refl _ _⟩
  · have q1 : decide ((1048576 : Int) < (s.size : Int)) = false := by simp; omega
    have hn := lineTexts_length s
    have HV := Lib.hid (linesV_eq s)
    go_enter Try.func11, Try.ntmps11
    go_wp2_with fail
    refine (specTextLines_any s _ (by omega)).mono ?_
    rintro e w1 ⟨v, rfl, hv, hb1⟩
    rw [HV.out, List.length_map] at hv
    obtain ⟨A, c, rfl⟩ := own_slice hv
    have sv := Lib.hid (SlIs.own hv)
    clear hv
    generalize hm : lineTexts s = ss at *
    have HMm := Lib.hid hm; clear hm
    go_wp2_with fail
    refine (textLines_any s _ (by omega)).mono ?_
    rintro e w2 ⟨v, rfl, hv, hb2⟩
    rw [HV.out, List.length_map] at hv
    obtain ⟨B, d, rfl⟩ := own_slice hv
    have HO := Lib.hid hv
    clear hv
    go_wp2_with fail
    refine (eqStringS_same B A d c ss w2 (by omega) (SlIs.own HO.out) (sv.out.below hb2)).mono ?_
    rintro e w3 ⟨rfl, hb3⟩
    go_wp2_with fail
    have hB3 : Below w1.heap.size w1 w3 := hb2.trans (hb3.mono hb2.size)
    have hstr : ∀ u ∈ ss.map strV, ∃ s, u = Value.string s := by
      intro u hu
      obtain ⟨s, _, rfl⟩ := List.mem_map.1 hu
      exact ⟨s, rfl⟩
    have HSt := Lib.hid hstr
    clear hstr
    refine (markStringS_one w1.heap.size B d ss.length (ss.map strV) w3 (by omega) (own_below HO.out hb3) hB3.size HSt.out).mono ?_
    rintro e w4 ⟨rfl, ho4, hb4⟩
    have HO4 := Lib.hid ho4
    clear ho4 HO
    have hB4 : Below w1.heap.size w1 w4 := hB3.trans hb4
    go_wp2_with fail
    refine (heldStringS_one B d ss.length w4 (by omega) (SlIs.own HO4.out)).mono ?_
    rintro e w5 ⟨rfl, hb5⟩
    have hB5 : Below w1.heap.size w1 w5 := hB4.trans (hb5.mono hB4.size)
    go_wp2_with fail
    refine (textLines_any s _ (by omega)).mono ?_
    rintro e w6 ⟨v, rfl, hv, hb6⟩
    rw [HV.out, List.length_map] at hv
    obtain ⟨C, f, rfl⟩ := own_slice hv
    have HO6 := Lib.hid hv
    clear hv
    have hB6 : Below w1.heap.size w1 w6 := hB5.trans (hb6.mono hB5.size)
    go_wp2_with fail
    refine (eqStringS_same C A f c ss w6 (by omega) (SlIs.own HO6.out) (sv.out.below hB6)).mono ?_
    rintro e w7 ⟨rfl, hb7⟩
    have hB7 : Below w1.heap.size w1 w7 := hB6.trans (hb7.mono hB6.size)
    go_wp2_with fail
    refine (heldStringS_one B d ss.length w7 (by omega) (SlIs.own (own_below (own_below (own_below HO4.out hb5) hb6) hb7))).mono ?_
    rintro e w8 ⟨rfl, hb8⟩
    have hB8 : Below w1.heap.size w1 w8 := hB7.trans (hb8.mono hB7.size)
    go_wp2_with fail
    go_ret
    exact ⟨rfl, hb1.trans (hB8.mono hb1.size)⟩

theorem own : ownKnob Try.prog.godebug = none := by kernel_rfl
theorem laidOut : laidOutB Try.prog = true := by kernel_rfl

set_option linter.unusedVariables false in
set_option maxRecDepth 100000 in
theorem lifted (os : Os) (started : os.Started) (H : Type) (enc : TypeId × Value → H) :
    ReturnsInHanded {} Try.checked os 11 .any (Rows.fnExactTextLinesSpec.pre6 enc Try.prog Try.f11 Rows.fnExactTextLinesRow.domain false) (Rows.fnExactTextLinesSpec.post enc Try.prog Try.f11 false true false false) := by
  refine returnsInHanded_of_change (C := Try.checked) own started (by kernel_rfl) Try.func11
    (ChangeSpec.witness6 (enc := enc) (C := Try.checked) false ⟨#[], #[.string ByteArray.empty], []⟩ 8 (by kernel_rfl) (by kernel_rfl) (by kernel_rfl) (by kernel_rfl)) ?_
  intro W base args ds gs before hval0 hW hcnd _
  have hval : ∀ (j : Nat) t v, Try.f11.params[j]? = some t → args[j]? = some v → Value.okWide Try.prog W .any base t v := hval0
  have hW' := hW
  obtain ⟨p, q, hA0, hV, rfl, hfz, hnd⟩ := hW
  have hA : DataW.TrodAll enc Try.prog W 0 (fun _ => true) true Try.f11.params.toList args.toList ds p := hA0
  rw [Try.params11] at hA hval
  obtain ⟨v0, vs0, d0, ds0, p0, q0, hargs, rfl, rfl, h0, r0⟩ := trodAll_cons hA
  obtain ⟨rfl, rfl, rfl⟩ := trodAll_nil r0
  obtain rfl : args = #[v0] := by cases args; simp_all
  obtain ⟨rfl, rfl⟩ := trodVars_none hV
  have k0 := h0
  have lt0 : ∀ x ∈ p0, x.block < W.heap.size := by obtain ⟨m, hm⟩ := k0; exact DataW.trod_lt m _ _ _ hm
  obtain ⟨a0, e0, w0⟩ : ∃ a : ByteArray, v0 = .string a ∧ a.size ≤ maxLen := by
    obtain ⟨a, rfl, _, _, w0⟩ := open_string Try.underlying9 (hval 0 9 v0 rfl rfl) h0
    exact ⟨a, rfl, w0⟩
  subst e0
  clear hA0 hval0
  refine (walk a0 W w0).mono fun e W' ⟨he, bel⟩ => ?_
  subst he
  exact ⟨_, rfl, _, _, _, [], _, [], hW', trodAll_mk1 (shut_bool Try.underlying4 _), (trodAll_cons_mk (Below.trod laidOut (by kernel_rfl) (of_decide_eq_true (by kernel_rfl)) k0 bel lt0) trodAll_mk0), rfl, bel.frame _, fun h => by cases h⟩

theorem over : Rows.fnExactTextLinesRow.holds Try.pinned (OpenSpec.ofChange Rows.fnExactTextLinesSpec) :=
  OpenClaim.holds_of_wide 11 Try.f11 rfl rfl rfl rfl rfl rfl rfl ⟨rfl, rfl, rfl, rfl, rfl⟩ rfl rfl rfl rfl rfl (by kernel_rfl) Try.func11 (by kernel_rfl)
    (of_decide_eq_true (by kernel_rfl)) (by unfold Func.isWrapper; first | (rw [if_pos (by decide +kernel)]; kernel_rfl) | (rw [if_neg (by decide +kernel)]; exact ⟨rfl, rfl⟩))
    (fun os started H enc _ => lifted os started H enc)
end Go.Proofs.Ytnpcohbbjfjjaaa.fnExactTextLines
namespace Go.Proofs.Ytnpcohbbjfjjaaa

/-- The given statement. -/
theorem fnExactTextLines_proved : Rows.FnExactTextLinesSaid := fnExactTextLines.over
#print axioms fnExactTextLines_proved
end Go.Proofs.Ytnpcohbbjfjjaaa
