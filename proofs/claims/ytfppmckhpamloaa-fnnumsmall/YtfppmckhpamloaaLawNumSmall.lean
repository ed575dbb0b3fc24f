/-
  'laws.FnNumSmall' returns true at every code: a number has as many letters as twice it has digits of sixteen, and the first of them tells by its lowest bit whether it is below 0.
  Conditions: none; every []byte.
-/
import Derived.Test.YtfppmckhpamloaaNumText
import Derived.Test.YtfppmckhpamloaaNumDraw
import Derived.Test.YtfppmckhpamloaaRows
import Derived.WalkKit
import Derived.ProofKit
import Derived.OpenShut
import Derived.ShutString
import Derived.ChangeOld
import Derived.Below
import Derived.Lib.SmallJoins
import Derived.SliceStrings
namespace Go.Proofs.Ytfppmckhpamloaa.fnNumSmall
open Go.ChangeShapes Go.WideShapes Go.ChangeAt Go.RowKit Go.Joins
open Go.ChangeMaps (open_string shut_string)

theorem isEmpty_out {n : Int} (h : inB n = false) : (numT n).toList.isEmpty = true := by rw [numT_out h, Lib.toList_data]; rfl
theorem isEmpty_in {n : Int} (h : inB n = true) : (numT n).toList.isEmpty = false := by
  rw [Lib.toList_data]
  have h1 := L_numT n
  have h2 := numL_ne h
  unfold L at h1
  rw [h1]
  cases hn : numL n with
  | nil => exact absurd hn h2
  | cons a l => rfl
theorem beq_same (s : ByteArray) : (s.toList == s.toList) = true := by simp
theorem digs_odd (k : Nat) : (digs (k * 2 + 1)).length = (digs (k * 2)).length := by
  by_cases h : k * 2 < 16
  · rw [digs_small h, digs_small (by omega : k * 2 + 1 < 16)]; rfl
  · rw [digs_big h, digs_big (by omega : ¬ k * 2 + 1 < 16), List.length_cons, List.length_cons, show (k * 2 + 1) / 16 = k * 2 / 16 by omega]
/-- The size of a number without its sign. -/
def bare (n : Int) : Nat := if n < 0 then (-n).toNat else n.toNat
theorem size_bare {n : Int} (h : inB n = true) : (numT n).size = (digs (bare n * 2)).length := by
  rw [numT_size, numL_in h]
  unfold codeOf bare
  split
  · rw [digs_odd]
  · rfl
/-- The first digit. -/
def first (n : Int) : Nat := if codeOf n < 16 then codeOf n else 16 + codeOf n % 16
theorem first_lt (n : Int) : first n < 32 := by unfold first; split <;> omega
theorem first_odd (n : Int) : decide (first n % 2 = 1) = decide (n < 0) := by
  rw [decide_eq_decide]
  unfold first codeOf
  split <;> split <;> omega
theorem head_cut {n : Int} (h : inB n = true) : (numT n).extract 0 1 = letB (first n) := by
  apply ByteArray.ext
  apply Array.toList_inj.1
  have h1 := L_extract (numT n) 0 1
  unfold L at h1
  rw [h1]
  have h2 := L_numT n
  unfold L at h2
  rw [h2, numL_in h]
  unfold first letB
  by_cases h16 : codeOf n < 16
  · rw [digs_small h16, if_pos h16]; rfl
  · rw [digs_big h16, if_neg h16]; rfl
theorem letB_eq {a b : Nat} (ha : a < 32) (hb : b < 32) : ((letB a).toList == (letB b).toList) = decide (a = b) := by
  by_cases h : a = b
  · subst h; simp
  · rw [decide_eq_false h, beq_eq_false_iff_ne, Lib.toList_data, Lib.toList_data]
    intro e
    have e1 : letU a = letU b := by simpa [letB] using e
    have h1 := digU_letU a ha
    have h2 := digU_letU b hb
    rw [e1] at h1
    omega

set_option maxRecDepth 100000 in
set_option maxHeartbeats 2000000 in
theorem walk (A : Option Addr) (len cap : Nat) (w : World) (h : InCode w A len cap) :
    Calls Try.prog 8 #[.slice A len cap] w fun e w' => e = .returned (.bool true) ∧ Below w.heap.size w w' := by
  by_cases hl : 1048576 < len
  · have q1 : decide ((1048576 : Int) < (len : Int)) = true := by simp; omega
    clear h
    go_enter Try.func8, Try.ntmps8
    go_wp2_with fail
    go_ret
    exact ⟨rfl, Below.refl _ _⟩
  · have q1 : decide ((1048576 : Int) < (len : Int)) = false := by simp; omega
    have HD := Lib.hid (drawNumText_any A len cap w h)
    clear h
    go_enter Try.func8, Try.ntmps8
    go_wp2_with fail
    refine HD.out.mono ?_
    clear HD
    rintro e w1 ⟨n, hn1, hn2, rfl, hb1⟩
    go_wp2_with fail
    refine (numText_any n w1).mono ?_
    rintro e w2 ⟨rfl, hb2⟩
    have hB2 := hb1.trans (hb2.mono hb1.size)
    have HSp := Lib.hid (fun W => specNumText_any n W)
    have qs := beq_same (numT n)
    cases hbn : inB n
    · have q3 := isEmpty_out hbn
      clear hbn
      generalize numT n = s at *
      go_wp2_with fail
      refine (HSp.out w2).mono ?_
      rintro e w' ⟨rfl, rfl⟩
      go_wp2_with fail
      refine (HSp.out w2).mono ?_
      rintro e w' ⟨rfl, rfl⟩
      go_wp2_with fail
      go_ret
      exact ⟨rfl, hB2⟩
    · have q3 := isEmpty_in hbn
      have HSZ := Lib.hid (size_bare hbn)
      have HFC := Lib.hid (head_cut hbn)
      have HFO := Lib.hid (first_odd n)
      have hfl := first_lt n
      have hsz0 : 1 ≤ (numT n).size := by rw [numT_size]; exact List.length_pos_iff.2 (numL_ne hbn)
      have hsz6 : (numT n).size ≤ 6 := by rw [numT_size]; exact numL_length n
      clear hbn
      generalize numT n = s at *
      generalize first n = c at *
      by_cases hneg : n < 0
      · have qn : decide (n < 0) = true := by simpa using hneg
        have HBR := Lib.hid (show ((bare n * 2 : Nat) : Int) = 2 * -n by unfold bare; rw [if_pos hneg]; omega)
        have hbl : bare n * 2 ≤ 2000002 := by have := HBR.out; omega
        rw [qn] at HFO
        generalize bare n * 2 = M at *
        go_wp2_with fail
        refine (HSp.out w2).mono ?_
        rintro e w' ⟨rfl, rfl⟩
        go_wp2_with fail
        rw [← HBR.out]
        go_loop [6, 7] (fun g k => ∃ j kk : Nat, g = .int .i64 j ∧ k = .int .i64 kk ∧ kk ≤ 2000002 ∧ 1 ≤ j ∧ j + (digs kk).length = s.size + 1) (fun _ k => (intOf k).toNat)
        case atStart => exact ⟨1, M, rfl, rfl, hbl, Nat.le_refl _, by rw [HSZ.out, Nat.add_comm]⟩
        case round =>
          obtain ⟨j, kk, rfl, rfl, hkk, hj1, hjl⟩ := hrel
          by_cases h16 : kk < 16
          · have q4 : decide ((16 : Int) ≤ (kk : Int)) = false := by simp; omega
            have hjs : j = s.size := by rw [digs_small h16] at hjl; simpa using hjl
            clear hjl
            subst hjs
            go_wp2_with fail
            go_loopw [8, 9] (fun o d wr => ∃ k : Nat, k ≤ 33 ∧ k % 2 = 1 ∧ d = .int .i64 k ∧ o = .bool (decide (c % 2 = 1 ∧ c < k)) ∧ Below w.heap.size w wr) (fun _ d _ => 34 - (intOf d).toNat)
            case atStart => exact ⟨1, by omega, rfl, rfl, by rw [decide_eq_false (by omega)], hB2⟩
            case round =>
              obtain ⟨k, hk33, hk2, rfl, rfl, hB⟩ := hrel
              have HK2 := Lib.hid hk2
              clear hk2
              by_cases h32 : k < 32
              · have q5 : decide ((k : Int) < 32) = true := by simp; omega
                cases ho : decide (c % 2 = 1 ∧ c < k)
                · have HNL := Lib.hid (fun W => numLetter_in (k : Int) W (by omega) (by omega))
                  have HOK := Lib.hid (show ((letB k).toList == (letB c).toList) = decide (c % 2 = 1 ∧ c < k + 2) by
                    rw [letB_eq (by omega) hfl, decide_eq_decide]
                    have h1 := of_decide_eq_false ho
                    have h2 := HK2.out
                    omega)
                  rw [Int.toNat_natCast] at HNL
                  rw [← HFC.out] at HOK
                  clear ho
                  have i1 : (1 : Int) ≤ (s.size : Int) := by omega
                  go_wp2_with fail
                  go_region_held3 (fun _ => True) (trivial) (first | (go_at_call 27; refine (HNL.out _).mono ?_; rintro e w3 ⟨rfl, hb3⟩))
                  go_wp2_with fail
                  go_roundw
                  case rel => exact ⟨k + 2, by omega, by have := HK2.out; omega, by go_num, by rw [← HOK.out], (hB.drew).trans (hb3.mono hB.size)⟩
                  case measure => simp [intOf]; omega
                · have HOK := Lib.hid (show decide (c % 2 = 1 ∧ c < k + 2) = true by
                    have h1 := of_decide_eq_true ho
                    exact decide_eq_true (by omega))
                  clear ho
                  go_wp2_with fail
                  go_quiet (fail)
                  go_wp2_with fail
                  go_roundw
                  case rel => exact ⟨k + 2, by omega, by have := HK2.out; omega, by go_num, by rw [HOK.out], below_drewN hB nq⟩
                  case measure => simp [intOf]; omega
              · have q5 : decide ((k : Int) < 32) = false := by simp; omega
                have HOK := Lib.hid (show decide (c % 2 = 1 ∧ c < k) = decide (c % 2 = 1) by rw [decide_eq_decide]; omega)
                rw [HOK.out, HFO.out]
                go_wp2_with fail
                go_ret
                exact ⟨rfl, hB⟩
          · have q4 : decide ((16 : Int) ≤ (kk : Int)) = true := by simp; omega
            have HJ := Lib.hid (show j + 1 + (digs (kk / 16)).length = s.size + 1 by rw [digs_big h16, List.length_cons] at hjl; omega)
            have hj7 : j ≤ 7 := by omega
            clear hjl
            go_wp2_with fail
            go_round
            case rel => exact ⟨j + 1, kk / 16, by go_num, by go_num, by omega, by omega, HJ.out⟩
            case measure => simp [intOf]; omega
      · have qn : decide (n < 0) = false := by simpa using hneg
        have HBR := Lib.hid (show ((bare n * 2 : Nat) : Int) = 2 * n by unfold bare; rw [if_neg hneg]; omega)
        have hbl : bare n * 2 ≤ 2000002 := by have := HBR.out; omega
        rw [qn] at HFO
        generalize bare n * 2 = M at *
        go_wp2_with fail
        refine (HSp.out w2).mono ?_
        rintro e w' ⟨rfl, rfl⟩
        go_wp2_with fail
        rw [← HBR.out]
        go_loop [6, 7] (fun g k => ∃ j kk : Nat, g = .int .i64 j ∧ k = .int .i64 kk ∧ kk ≤ 2000002 ∧ 1 ≤ j ∧ j + (digs kk).length = s.size + 1) (fun _ k => (intOf k).toNat)
        case atStart => exact ⟨1, M, rfl, rfl, hbl, Nat.le_refl _, by rw [HSZ.out, Nat.add_comm]⟩
        case round =>
          obtain ⟨j, kk, rfl, rfl, hkk, hj1, hjl⟩ := hrel
          by_cases h16 : kk < 16
          · have q4 : decide ((16 : Int) ≤ (kk : Int)) = false := by simp; omega
            have hjs : j = s.size := by rw [digs_small h16] at hjl; simpa using hjl
            clear hjl
            subst hjs
            go_wp2_with fail
            go_loopw [8, 9] (fun o d wr => ∃ k : Nat, k ≤ 33 ∧ k % 2 = 1 ∧ d = .int .i64 k ∧ o = .bool (decide (c % 2 = 1 ∧ c < k)) ∧ Below w.heap.size w wr) (fun _ d _ => 34 - (intOf d).toNat)
            case atStart => exact ⟨1, by omega, rfl, rfl, by rw [decide_eq_false (by omega)], hB2⟩
            case round =>
              obtain ⟨k, hk33, hk2, rfl, rfl, hB⟩ := hrel
              have HK2 := Lib.hid hk2
              clear hk2
              by_cases h32 : k < 32
              · have q5 : decide ((k : Int) < 32) = true := by simp; omega
                cases ho : decide (c % 2 = 1 ∧ c < k)
                · have HNL := Lib.hid (fun W => numLetter_in (k : Int) W (by omega) (by omega))
                  have HOK := Lib.hid (show ((letB k).toList == (letB c).toList) = decide (c % 2 = 1 ∧ c < k + 2) by
                    rw [letB_eq (by omega) hfl, decide_eq_decide]
                    have h1 := of_decide_eq_false ho
                    have h2 := HK2.out
                    omega)
                  rw [Int.toNat_natCast] at HNL
                  rw [← HFC.out] at HOK
                  clear ho
                  have i1 : (1 : Int) ≤ (s.size : Int) := by omega
                  go_wp2_with fail
                  go_region_held3 (fun _ => True) (trivial) (first | (go_at_call 27; refine (HNL.out _).mono ?_; rintro e w3 ⟨rfl, hb3⟩))
                  go_wp2_with fail
                  go_roundw
                  case rel => exact ⟨k + 2, by omega, by have := HK2.out; omega, by go_num, by rw [← HOK.out], (hB.drew).trans (hb3.mono hB.size)⟩
                  case measure => simp [intOf]; omega
                · have HOK := Lib.hid (show decide (c % 2 = 1 ∧ c < k + 2) = true by
                    have h1 := of_decide_eq_true ho
                    exact decide_eq_true (by omega))
                  clear ho
                  go_wp2_with fail
                  go_quiet (fail)
                  go_wp2_with fail
                  go_roundw
                  case rel => exact ⟨k + 2, by omega, by have := HK2.out; omega, by go_num, by rw [HOK.out], below_drewN hB nq⟩
                  case measure => simp [intOf]; omega
              · have q5 : decide ((k : Int) < 32) = false := by simp; omega
                have HOK := Lib.hid (show decide (c % 2 = 1 ∧ c < k) = decide (c % 2 = 1) by rw [decide_eq_decide]; omega)
                rw [HOK.out, HFO.out]
                go_wp2_with fail
                go_ret
                exact ⟨rfl, hB⟩
          · have q4 : decide ((16 : Int) ≤ (kk : Int)) = true := by simp; omega
            have HJ := Lib.hid (show j + 1 + (digs (kk / 16)).length = s.size + 1 by rw [digs_big h16, List.length_cons] at hjl; omega)
            have hj7 : j ≤ 7 := by omega
            clear hjl
            go_wp2_with fail
            go_round
            case rel => exact ⟨j + 1, kk / 16, by go_num, by go_num, by omega, by omega, HJ.out⟩
            case measure => simp [intOf]; omega

theorem own : ownKnob Try.prog.godebug = none := by kernel_rfl
theorem laidOut : laidOutB Try.prog = true := by kernel_rfl

set_option linter.unusedVariables false in
set_option maxRecDepth 100000 in
theorem lifted (os : Os) (started : os.Started) (H : Type) (enc : TypeId × Value → H) :
    ReturnsInHanded {} Try.checked os 8 .any (Rows.fnNumSmallSpec.pre6 enc Try.prog Try.f8 Rows.fnNumSmallRow.domain false) (Rows.fnNumSmallSpec.post enc Try.prog Try.f8 false true false false) := by
  refine returnsInHanded_of_change (C := Try.checked) own started (by kernel_rfl) Try.func8
    (ChangeSpec.witness6 (enc := enc) (C := Try.checked) false ⟨#[], #[.slice none 0 0], []⟩ 8 (by kernel_rfl) (by kernel_rfl) (by kernel_rfl) (by kernel_rfl)) ?_
  intro W base args ds gs before hval0 hW hcnd _
  have hval : ∀ (j : Nat) t v, Try.f8.params[j]? = some t → args[j]? = some v → Value.okWide Try.prog W .any base t v := hval0
  have hW' := hW
  obtain ⟨p, q, hA0, hV, rfl, hfz, hnd⟩ := hW
  have hA : DataW.TrodAll enc Try.prog W 0 (fun _ => true) true Try.f8.params.toList args.toList ds p := hA0
  rw [Try.params8] at hA hval
  obtain ⟨v0, vs0, d0, ds0, p0, q0, hargs, rfl, rfl, h0, r0⟩ := trodAll_cons hA
  obtain ⟨rfl, rfl, rfl⟩ := trodAll_nil r0
  obtain rfl : args = #[v0] := by cases args; simp_all
  obtain ⟨rfl, rfl⟩ := trodVars_none hV
  have k0 := h0
  have lt0 : ∀ x ∈ p0, x.block < W.heap.size := by obtain ⟨m, hm⟩ := k0; exact DataW.trod_lt m _ _ _ hm
  obtain ⟨a0, len0, cap0, e0⟩ := okWide_slice Try.underlying22 (hval 0 22 v0 rfl rfl)
  subst e0
  have w0 : InCode W a0 len0 cap0 := by
    obtain ⟨fuel, hf⟩ := h0
    rcases open_ints Try.underlying22 Try.underlying5 (by kernel_rfl) hf with ⟨hcs, _⟩ | ⟨x, l, c, zs, hcs, _, hl, hm, hz, _, hcell, hwz⟩
    · simp [Value.cells] at hcs
      obtain ⟨rfl, rfl, rfl⟩ := hcs
      exact inCode_nil W
    · simp [Value.cells] at hcs
      obtain ⟨rfl, rfl, rfl⟩ := hcs
      exact inCode_of hl hm (by simpa using hz) hcell hwz
  clear hA0 hval0
  refine (walk a0 len0 cap0 W w0).mono fun e W' ⟨he, bel⟩ => ?_
  subst he
  exact ⟨_, rfl, _, _, _, [], _, [], hW', trodAll_mk1 (shut_bool Try.underlying4 _), (trodAll_cons_mk (Below.trod laidOut (by kernel_rfl) (of_decide_eq_true (by kernel_rfl)) k0 bel lt0) trodAll_mk0), rfl, bel.frame _, fun h => by cases h⟩

theorem over : Rows.fnNumSmallRow.holds Try.pinned (OpenSpec.ofChange Rows.fnNumSmallSpec) :=
  OpenClaim.holds_of_wide 8 Try.f8 rfl rfl rfl rfl rfl rfl rfl ⟨rfl, rfl, rfl, rfl, rfl⟩ rfl rfl rfl rfl rfl (by kernel_rfl) Try.func8 (by kernel_rfl)
    (of_decide_eq_true (by kernel_rfl)) (by unfold Func.isWrapper; first | (rw [if_pos (by decide +kernel)]; kernel_rfl) | (rw [if_neg (by decide +kernel)]; exact ⟨rfl, rfl⟩))
    (fun os started H enc _ => lifted os started H enc)
end Go.Proofs.Ytfppmckhpamloaa.fnNumSmall
namespace Go.Proofs.Ytfppmckhpamloaa

/-- The given statement. -/
theorem fnNumSmall_proved : Rows.FnNumSmallSaid := fnNumSmall.over
#print axioms fnNumSmall_proved
end Go.Proofs.Ytfppmckhpamloaa
