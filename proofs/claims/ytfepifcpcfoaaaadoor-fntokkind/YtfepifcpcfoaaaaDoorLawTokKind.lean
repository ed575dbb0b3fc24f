/-
  'laws.FnTokKind' returns true at every code: a drawn text is a word of one kind at most, which is its kind.
  Conditions: the library's variables hold what their initialisers lay (tied to the program's text); every slice of bytes.
-/
import Derived.Test.YtfepifcpcfoaaaaDoorTokDraw
import Derived.Test.YtfepifcpcfoaaaaDoorLaid
import Derived.Test.YtfepifcpcfoaaaaDoorCards
import Derived.Test.YtfepifcpcfoaaaaDoorTie
import Derived.Test.YtfepifcpcfoaaaaDoorRows
import Derived.WalkKit
import Derived.ProofKit
import Derived.OpenShut
import Derived.ShutString
import Derived.ChangeOld
import Derived.Below
import Derived.Lib.SmallJoins
import Derived.SliceStrings
namespace Go.Proofs.YtfepifcpcfoaaaaDoor.fnTokKind
open Go.ChangeShapes Go.WideShapes Go.ChangeAt Go.RowKit Go.Joins
open Go.ChangeMaps (open_string shut_string)


theorem word_other {l : List UInt8} (h : wordL l = true) : decL l = false ∧ markL l = false := by
  simp only [wordL, Bool.and_eq_true, decide_eq_true_eq] at h
  cases l with
  | nil => simp at h
  | cons c t =>
    have hc : isLet c = true := List.all_eq_true.1 h.2.2 c (by simp)
    refine ⟨?_, ?_⟩
    · unfold decL; rw [List.all_cons, let_dig hc]; rfl
    · cases t with
      | nil =>
        cases hm : isMark c
        · exact hm
        · rw [(mark_toNat hm).1] at hc; cases hc
      | cons d t => rfl
theorem dec_other {l : List UInt8} (h : decL l = true) : wordL l = false ∧ markL l = false := by
  cases hw : wordL l
  · refine ⟨rfl, ?_⟩
    simp only [decL, Bool.and_eq_true] at h
    cases l with
    | nil => rfl
    | cons c t =>
      have hc : isDig c = true := List.all_eq_true.1 h.1 c (by simp)
      cases t with
      | nil =>
        cases hm : isMark c
        · exact hm
        · rw [(mark_toNat hm).2.1] at hc; cases hc
      | cons d t => rfl
  · rw [(word_other hw).1] at h; cases h
/-- A text is a word of a kind just if this is its kind. -/
theorem ok_eq (k : Nat) (l : List UInt8) : okL (k : Int) l = (decide (kindL l = k) && decide (k ≠ 0)) := by
  have hk : k = 0 ∨ k = 1 ∨ k = 2 ∨ k = 3 ∨ 4 ≤ k := by omega
  unfold kindL
  rcases hk with rfl | rfl | rfl | rfl | hk
  · rw [okL_else (by omega) (by omega) (by omega)]; simp
  · rw [show ((1 : Nat) : Int) = 1 from rfl, okL_one]
    cases h1 : wordL l
    · cases h2 : decL l <;> cases h3 : markL l <;> rfl
    · rfl
  · rw [show ((2 : Nat) : Int) = 2 from rfl, okL_two]
    cases h1 : wordL l
    · cases h2 : decL l
      · cases h3 : markL l <;> rfl
      · rfl
    · rw [(word_other h1).1]; rfl
  · rw [show ((3 : Nat) : Int) = 3 from rfl, okL_three]
    cases h1 : wordL l
    · cases h2 : decL l
      · cases h3 : markL l <;> rfl
      · rw [(dec_other h2).2]; rfl
    · rw [(word_other h1).2]; rfl
  · rw [okL_else (by omega) (by omega) (by omega)]
    have : ¬ (if wordL l = true then 1 else if decL l = true then 2 else if markL l = true then 3 else 0) = k := by
      split
      · omega
      · split
        · omega
        · split <;> omega
    rw [decide_eq_false this]; rfl
theorem kindL_le (l : List UInt8) : kindL l ≤ 3 := by
  unfold kindL
  split
  · omega
  · split
    · omega
    · split <;> omega

set_option maxRecDepth 100000 in
set_option maxHeartbeats 4000000 in
theorem walk (A : Option Addr) (len cap : Nat) (w : World) (h : InCode w A len cap) (hw : LaidW w) :
    Calls Tryd.prog 5 #[.slice A len cap] w fun e w' => e = .returned (.bool true) ∧ Below w.heap.size w w' := by
  have hlc : len ≤ 9223372036854775807 := by have h1 := h.1; have h2 := h.2.1; unfold maxLen at h2; omega
  have HI := Lib.hid h
  have HW := Lib.hid hw
  clear h hw
  by_cases hl : 1048576 < len
  · have q0 : decide ((1048576 : Int) < (len : Int)) = true := by simp; omega
    go_enter Tryd.func5, Tryd.ntmps5
    go_wp2_with fail
    go_ret
    exact ⟨rfl, Below.refl _ _⟩
  · have q0 : decide ((1048576 : Int) < (len : Int)) = false := by simp; omega
    have HD1 := Lib.hid (drawTokOk_any A len cap w HI.out)
    clear hl
    go_enter Tryd.func5, Tryd.ntmps5
    go_wp2_with fail
    refine HD1.out.mono ?_
    rintro e w1 ⟨kd, s, hkd, hs, rfl, hb1⟩
    have HD2 := Lib.hid (drawTokKind_any A len cap w1 (HI.out.below hb1))
    clear HD1
    go_wp2_with fail
    refine HD2.out.mono ?_
    rintro e w2 ⟨u, hu, rfl, hb2'⟩
    have hb2 := hb1.trans (hb2'.mono hb1.size)
    clear HD2 HI
    have HO := Lib.hid (fun W hW => tokOk_any (kd : Int) s W (by omega) hW)
    have HSO := Lib.hid (fun W => specTokOk_any (kd : Int) s W (by omega))
    have HK := Lib.hid (fun W hW => tokKind_any u W (by omega) hW)
    have HSK := Lib.hid (fun W => specTokKind_any u W (by omega))
    have HOU := Lib.hid (fun (k : Nat) W hW => tokOk_any (k : Int) u W (by omega) hW)
    have HEQU := Lib.hid (fun (k : Nat) => ok_eq k (L u))
    have hK3 := kindL_le (L u)
    generalize okL (kd : Int) (L s) = ok at HO HSO
    have q1 : (ok != ok) = false := by simp
    generalize kindL (L u) = K at *
    have q2 : ((K : Int) != (K : Int)) = false := by simp
    go_wp2_with fail
    refine (HO.out _ (HW.out.below hb2)).mono ?_
    rintro e w3 ⟨rfl, hb3'⟩
    have hb3 := hb2.trans (hb3'.mono hb2.size)
    go_wp2_with fail
    refine (HSO.out _).mono ?_
    rintro e w4 ⟨rfl, n4, hw4⟩
    have hb4' : Below w3.heap.size w3 w4 := by rw [hw4]; exact below_draws n4
    have hb4 := hb3.trans (hb4'.mono hb3.size)
    clear hw4
    go_wp2_with fail
    refine (HK.out _ (HW.out.below hb4)).mono ?_
    rintro e w5 ⟨rfl, hb5'⟩
    have hb5 := hb4.trans (hb5'.mono hb4.size)
    go_wp2_with fail
    refine (HSK.out _).mono ?_
    rintro e w6 ⟨rfl, n6, hw6⟩
    have hb6' : Below w5.heap.size w5 w6 := by rw [hw6]; exact below_draws n6
    have hb6 := hb5.trans (hb6'.mono hb5.size)
    clear hw6 HO HSO HSK
    go_wp2_with fail
    go_loopw [6, 7] (fun d i wr => ∃ k m : Nat, d = .int .i64 (m : Int) ∧ i = .int .i64 (k : Int) ∧ k ≤ 5 ∧ m ≤ 1 ∧ Hid (m = if K ≠ 0 ∧ K < k then 1 else 0) ∧ Below w.heap.size w wr) (fun _ i _ => 5 - (intOf i).toNat)
    case atStart => exact ⟨0, 0, rfl, rfl, by omega, by omega, by rw [if_neg (by omega)]; exact Lib.hid rfl, hb6⟩
    case round =>
      obtain ⟨k, m, rfl, rfl, hk5, hm1, HM, hB⟩ := hrel
      by_cases hlt : k < 5
      · have q3 : (k : Int) < 5 := by omega
        have HOk := Lib.hid (HOU.out k)
        rw [HEQU.out k] at HOk
        by_cases hkk : K = k ∧ k ≠ 0
        · have e2 : (decide (K = k) && decide (k ≠ 0)) = true := by rw [decide_eq_true hkk.1, decide_eq_true hkk.2]; rfl
          rw [e2] at HOk
          obtain rfl : m = 0 := by rw [HM.out, if_neg (by omega)]
          have q4 : ((K : Int) != (k : Int)) = false := by rw [bne_eq_false_iff_eq]; omega
          have HM2 := Lib.hid (show 1 = if K ≠ 0 ∧ K < k + 1 then 1 else 0 by rw [if_pos (by omega)])
          clear e2 hkk HM
          go_wp2_with fail
          refine (HOk.out _ (HW.out.below hB)).mono ?_
          rintro e W1 ⟨rfl, hb1⟩
          have hB1 := hB.trans (hb1.mono hB.size)
          go_wp2_with fail
          refine (HK.out _ (HW.out.below hB1)).mono ?_
          rintro e W2 ⟨rfl, hb2⟩
          have hB2 := hB1.trans (hb2.mono hB1.size)
          go_wp2_with fail
          go_roundw
          case rel => exact ⟨k + 1, 1, rfl, by go_num, by omega, by omega, HM2, hB2⟩
          case measure => simp [intOf]; omega
        · have e2 : (decide (K = k) && decide (k ≠ 0)) = false := by
            cases h : (decide (K = k) && decide (k ≠ 0))
            · rfl
            · rw [Bool.and_eq_true, decide_eq_true_eq, decide_eq_true_eq] at h; exact absurd h hkk
          rw [e2] at HOk
          have HM2 := Lib.hid (show m = if K ≠ 0 ∧ K < k + 1 then 1 else 0 by
            rw [HM.out]
            by_cases hc : K ≠ 0 ∧ K < k
            · rw [if_pos hc, if_pos (by omega)]
            · rw [if_neg hc, if_neg (by omega)])
          clear e2 hkk HM
          go_wp2_with fail
          refine (HOk.out _ (HW.out.below hB)).mono ?_
          rintro e W1 ⟨rfl, hb1⟩
          have hB1 := hB.trans (hb1.mono hB.size)
          go_wp2_with fail
          go_roundw
          case rel => exact ⟨k + 1, m, rfl, by go_num, by omega, by omega, HM2, hB1⟩
          case measure => simp [intOf]; omega
      · obtain rfl : k = 5 := by omega
        by_cases hK0 : K = 0
        · obtain rfl : m = 0 := by rw [HM.out, if_neg (by omega)]
          subst hK0
          clear HM HOU HEQU
          have HO2 := Lib.hid (fun W hW => tokOk_any (kd : Int) s W (by omega) hW)
          have HK2 := Lib.hid (fun W hW => tokKind_any s W (by omega) hW)
          have HEQ := Lib.hid (ok_eq kd (L s))
          rw [HEQ.out] at HO2
          generalize kindL (L s) = K2 at *
          by_cases hk2 : K2 = kd ∧ kd ≠ 0
          · have e2 : (decide (K2 = kd) && decide (kd ≠ 0)) = true := by rw [decide_eq_true hk2.1, decide_eq_true hk2.2]; rfl
            rw [e2] at HO2
            have q8 : ((K2 : Int) == (kd : Int)) = true := by rw [beq_iff_eq]; omega
            clear hk2 e2 HEQ
            go_wp2_with fail
            refine (HK.out _ (HW.out.below hB)).mono ?_
            rintro e W1 ⟨rfl, hb1⟩
            have hB1 := hB.trans (hb1.mono hB.size)
            go_wp2_with fail
            refine (HO2.out _ (HW.out.below hB1)).mono ?_
            rintro e W2 ⟨rfl, hb2⟩
            have hB2 := hB1.trans (hb2.mono hB1.size)
            go_wp2_with fail
            refine (HK2.out _ (HW.out.below hB2)).mono ?_
            rintro e W3 ⟨rfl, hb3⟩
            go_wp2_with fail
            go_ret
            exact ⟨rfl, hB2.trans (hb3.mono hB2.size)⟩
          · have e2 : (decide (K2 = kd) && decide (kd ≠ 0)) = false := by
              cases h : (decide (K2 = kd) && decide (kd ≠ 0))
              · rfl
              · rw [Bool.and_eq_true, decide_eq_true_eq, decide_eq_true_eq] at h; exact absurd h hk2
            rw [e2] at HO2
            clear hk2 e2 HEQ
            go_wp2_with fail
            refine (HK.out _ (HW.out.below hB)).mono ?_
            rintro e W1 ⟨rfl, hb1⟩
            have hB1 := hB.trans (hb1.mono hB.size)
            go_wp2_with fail
            refine (HO2.out _ (HW.out.below hB1)).mono ?_
            rintro e W2 ⟨rfl, hb2⟩
            go_wp2_with fail
            go_ret
            exact ⟨rfl, hB1.trans (hb2.mono hB1.size)⟩

        · obtain rfl : m = 1 := by rw [HM.out, if_pos (by omega)]
          have q5 : decide ((0 : Int) < (K : Int)) = true := by simp; omega
          clear HM HOU HEQU
          have HO2 := Lib.hid (fun W hW => tokOk_any (kd : Int) s W (by omega) hW)
          have HK2 := Lib.hid (fun W hW => tokKind_any s W (by omega) hW)
          have HEQ := Lib.hid (ok_eq kd (L s))
          rw [HEQ.out] at HO2
          generalize kindL (L s) = K2 at *
          by_cases hk2 : K2 = kd ∧ kd ≠ 0
          · have e2 : (decide (K2 = kd) && decide (kd ≠ 0)) = true := by rw [decide_eq_true hk2.1, decide_eq_true hk2.2]; rfl
            rw [e2] at HO2
            have q8 : ((K2 : Int) == (kd : Int)) = true := by rw [beq_iff_eq]; omega
            clear hk2 e2 HEQ
            go_wp2_with fail
            refine (HK.out _ (HW.out.below hB)).mono ?_
            rintro e W1 ⟨rfl, hb1⟩
            have hB1 := hB.trans (hb1.mono hB.size)
            go_wp2_with fail
            refine (HO2.out _ (HW.out.below hB1)).mono ?_
            rintro e W2 ⟨rfl, hb2⟩
            have hB2 := hB1.trans (hb2.mono hB1.size)
            go_wp2_with fail
            refine (HK2.out _ (HW.out.below hB2)).mono ?_
            rintro e W3 ⟨rfl, hb3⟩
            go_wp2_with fail
            go_ret
            exact ⟨rfl, hB2.trans (hb3.mono hB2.size)⟩
          · have e2 : (decide (K2 = kd) && decide (kd ≠ 0)) = false := by
              cases h : (decide (K2 = kd) && decide (kd ≠ 0))
              · rfl
              · rw [Bool.and_eq_true, decide_eq_true_eq, decide_eq_true_eq] at h; exact absurd h hk2
            rw [e2] at HO2
            clear hk2 e2 HEQ
            go_wp2_with fail
            refine (HK.out _ (HW.out.below hB)).mono ?_
            rintro e W1 ⟨rfl, hb1⟩
            have hB1 := hB.trans (hb1.mono hB.size)
            go_wp2_with fail
            refine (HO2.out _ (HW.out.below hB1)).mono ?_
            rintro e W2 ⟨rfl, hb2⟩
            go_wp2_with fail
            go_ret
            exact ⟨rfl, hB1.trans (hb2.mono hB1.size)⟩


set_option linter.unusedVariables false in
set_option maxRecDepth 100000 in
theorem lifted (os : Os) (started : os.Started) (H : Type) (enc : TypeId × Value → H) :
    ReturnsInHanded {} Tryd.checked os 5 .any (fun w args => (Rows.fnTokKindSpec.pre enc Tryd.prog Tryd.f5 [] false w args ∧ laidMetH Tryd.prog laidL w) ∧ sizedMet enc Tryd.prog Tryd.f5 (OpenSpec.ofChange Rows.fnTokKindSpec) false w args)
      (Rows.fnTokKindSpec.post enc Tryd.prog Tryd.f5 false true false false) := by
  refine returnsInHanded_of_change_and (C := Tryd.checked) (X := fun w _ => laidMetH Tryd.prog laidL w) (fun _ _ _ hh h => h.of_heap hh) own started (by kernel_rfl) Tryd.func5
    (ChangeSpec.witness_shaped (enc := enc) (C := Tryd.checked) (os := os) (X := fun w _ => laidMetH Tryd.prog laidL w) false (World.doorLaid Tryd.prog 62 os) #[.slice none 0 0] 8 rfl (World.shaped_of_RefB (by kernel_rfl) (by kernel_rfl)) (by kernel_rfl) (by kernel_rfl) (by kernel_rfl) (door_met os _)) ?_
  intro W base args ds gs before hval0 hW _ _ hL _
  have hval : ∀ (j : Nat) t v, Tryd.f5.params[j]? = some t → args[j]? = some v → Value.okWide Tryd.prog W .any base t v := hval0
  have hW' := hW
  obtain ⟨p, q, hA0, hV, rfl, hfz, hnd⟩ := hW
  have hA : DataW.TrodAll enc Tryd.prog W 0 (fun _ => true) true Tryd.f5.params.toList args.toList ds p := hA0
  rw [Tryd.params5] at hA hval
  obtain ⟨v0, vs0, d0, ds0, p0, q0, hargs, rfl, rfl, h0, r0⟩ := trodAll_cons hA
  obtain ⟨rfl, rfl, rfl⟩ := trodAll_nil r0
  obtain rfl : args = #[v0] := by cases args; simp_all
  obtain ⟨rfl, rfl⟩ := trodVars_none hV
  have k0 := h0
  have lt0 : ∀ x ∈ p0, x.block < W.heap.size := by obtain ⟨m, hm⟩ := k0; exact DataW.trod_lt m _ _ _ hm
  obtain ⟨a0, len0, cap0, e0⟩ := okWide_slice Tryd.underlying22 (hval 0 22 v0 rfl rfl)
  subst e0
  have w0 : InCode W a0 len0 cap0 := by
    obtain ⟨fuel, hf⟩ := h0
    rcases open_ints Tryd.underlying22 Tryd.underlying5 (by kernel_rfl) hf with ⟨hcs, _⟩ | ⟨x, l, c, zs, hcs, _, hl, hm, hz, _, hcell, hwz⟩
    · simp [Value.cells] at hcs
      obtain ⟨rfl, rfl, rfl⟩ := hcs
      exact inCode_nil W
    · simp [Value.cells] at hcs
      obtain ⟨rfl, rfl, rfl⟩ := hcs
      exact inCode_of hl hm (by simpa using hz) hcell hwz
  clear hA0 hval0
  refine (walk a0 len0 cap0 W w0 (of_laid hL)).mono fun e W' ⟨he, bel⟩ => ?_
  subst he
  exact ⟨_, rfl, _, _, _, [], _, [], hW', trodAll_mk1 (shut_bool Tryd.underlying4 _), (trodAll_cons_mk (Below.trod laidOut (by kernel_rfl) (of_decide_eq_true (by kernel_rfl)) k0 bel lt0) trodAll_mk0), rfl, bel.frame _, fun h => by cases h⟩

theorem over : Rows.fnTokKindRow.holds Tryd.pinned (OpenSpec.ofChange Rows.fnTokKindSpec) :=
  OpenClaim.holds_of_wide 5 Tryd.f5 rfl rfl rfl rfl rfl rfl rfl ⟨rfl, rfl, rfl, rfl, rfl⟩ rfl rfl rfl rfl rfl (by kernel_rfl) Tryd.func5 (by kernel_rfl)
    (of_decide_eq_true (by kernel_rfl)) (by unfold Func.isWrapper; first | (rw [if_pos (by decide +kernel)]; kernel_rfl) | (rw [if_neg (by decide +kernel)]; exact ⟨rfl, rfl⟩))
    (fun os started H enc _ => lifted os started H enc)
end Go.Proofs.YtfepifcpcfoaaaaDoor.fnTokKind
namespace Go.Proofs.YtfepifcpcfoaaaaDoor

/-- The given statement. -/
theorem fnTokKind_proved : Rows.FnTokKindCardSaid :=
  Claim7.holds_tied_plain_at .later [] [.data, .data, .data, .sentinel, .sentinel] true (true, "29ed2e23a74b36dc8cab4763febb46758cd644b74055fc42faa0c447b9c48a81") true
    fnTokKind.over (fun _ h => by cases h) (by kernel_rfl) (fun _ h => by cases h) fnTokKind_row_tie rfl ⟨rfl, rfl⟩ (by kernel_rfl) rfl
    (fun f fn hf hfn => by
      obtain rfl : f = 5 := Option.some.inj ((show Tryd.prog.funcNamed "loop.example/interlinear/laws.FnTokKind" = some 5 by kernel_rfl).symm.trans hf) |>.symm
      obtain rfl : fn = Tryd.f5 := (Option.some.inj (Tryd.func5.symm.trans hfn)).symm
      exact ⟨by kernel_rfl, fun j t ht => by
        rw [Tryd.params5] at ht
        have hm : t ∈ [22] := by simpa using Array.mem_of_getElem? ht
        have hall : ([22].all fun u => !Tryd.prog.wantsStandIn u) = true := by kernel_rfl
        exact (show Tryd.prog.wantsStandIn t = false by simpa using List.all_eq_true.1 hall t hm)⟩)
    (by kernel_rfl)
#print axioms fnTokKind_proved
end Go.Proofs.YtfepifcpcfoaaaaDoor
