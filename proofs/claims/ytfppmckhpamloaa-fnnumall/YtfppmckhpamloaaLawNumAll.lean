/-
  'laws.FnNumAll' returns true at every pair of codes: of two numbers no letters begin with the letters of the other one, but for the same number.
  Conditions: none; every []byte, twice.
-/
import Derived.Test.YtfppmckhpamloaaNumRead
import Derived.Test.YtfppmckhpamloaaNumDraw
import Derived.Test.YtfppmckhpamloaaRows
import Derived.WalkKit
import Derived.ProofKit
import Derived.OpenShut
import Derived.ShutString
import Derived.ChangeOld
import Derived.Below
import Derived.Lib.SmallJoins
import Derived.SliceStrings
namespace Go.Proofs.Ytfppmckhpamloaa.fnNumAll
open Go.ChangeShapes Go.WideShapes Go.ChangeAt Go.RowKit Go.Joins
open Go.ChangeMaps (open_string shut_string)

theorem isEmpty_out {n : Int} (h : inB n = false) : (numT n).toList.isEmpty = true := by rw [numT_out h, Lib.toList_data]; rfl
theorem isEmpty_in {n : Int} (h : inB n = true) : (numT n).toList.isEmpty = false := by
  rw [Lib.toList_data]
  have h1 := L_numT n
  have h2 := numL_ne h
  unfold L at h1
  rw [h1]
  cases hn : numL n with
  | nil => exact absurd hn h2
  | cons a l => rfl
theorem beq_same (s : ByteArray) : (s.toList == s.toList) = true := by simp
/-- The letters of one number are at the front of another's just if they are the same number. -/
theorem front_eq {n m : Int} (hn : inB n = true) (hm : inB m = true) (h : (((numT m).extract 0 (numT n).size).toList == (numT n).toList) = true) : n = m := by
  rw [beq_iff_eq, Lib.toList_data, Lib.toList_data] at h
  have h1 : L ((numT m).extract 0 (numT n).size) = L (numT n) := h
  rw [L_extract, L_numT, L_numT, List.drop_zero] at h1
  have h2 : numL n ++ (numL m).drop (numT n).size = numL m ++ [] := by rw [← h1, List.append_nil, List.take_append_drop]
  exact num_unique hn hm h2
theorem num_ne {n m : Int} (hn : inB n = true) (hm : inB m = true) (h : n ≠ m) : ((numT n).toList == (numT m).toList) = false := by
  rw [beq_eq_false_iff_ne, Lib.toList_data, Lib.toList_data]
  intro e
  have h1 : L (numT n) = L (numT m) := e
  rw [L_numT, L_numT] at h1
  exact h (num_unique (q := []) (r := []) hn hm (by rw [h1]))
/-- Behind other letters a number is read as it was. -/
theorem read_behind {n : Int} (hn : inB n = true) (t : ByteArray) : numR (t ++ numT n) (t.size : Int) = (n, (t.size : Int) + ((numT n).size : Int)) := by
  have h1 : (L (t ++ numT n)).drop t.size = numL n ++ [] := by
    have e : L (t ++ numT n) = L t ++ L (numT n) := by simp [L]
    rw [e, ← L_length t, List.drop_left, L_numT, List.append_nil]
  have h2 := rdN_num hn []
  rw [← h1] at h2
  rw [numR_some h2, numT_size]

set_option maxRecDepth 100000 in
set_option maxHeartbeats 2000000 in
theorem walk (A : Option Addr) (len cap : Nat) (A' : Option Addr) (len' cap' : Nat) (w : World) (h : InCode w A len cap) (h' : InCode w A' len' cap') :
    Calls Try.prog 6 #[.slice A len cap, .slice A' len' cap'] w fun e w' => e = .returned (.bool true) ∧ Below w.heap.size w w' := by
  by_cases hl : 1048576 < len
  · have q1 : decide ((1048576 : Int) < (len : Int)) = true := by simp; omega
    clear h h'
    go_enter Try.func6, Try.ntmps6
    go_wp2_with fail
    go_ret
    exact ⟨rfl, Below.refl _ _⟩
  · have q1 : decide ((1048576 : Int) < (len : Int)) = false := by simp; omega
    by_cases hl' : 1048576 < len'
    · have q2 : decide ((1048576 : Int) < (len' : Int)) = true := by simp; omega
      clear h h'
      go_enter Try.func6, Try.ntmps6
      go_wp2_with fail
      go_ret
      exact ⟨rfl, Below.refl _ _⟩
    · have q2 : decide ((1048576 : Int) < (len' : Int)) = false := by simp; omega
      have HC := Lib.hid h'
      have HD := Lib.hid (drawNumText_any A len cap w h)
      clear h h'
      go_enter Try.func6, Try.ntmps6
      go_wp2_with fail
      refine HD.out.mono ?_
      clear HD
      rintro e w1 ⟨n, hn1, hn2, rfl, hb1⟩
      go_wp2_with fail
      refine (drawNumText_any A' len' cap' w1 (HC.out.below hb1)).mono ?_
      rintro e w2 ⟨m, hm1, hm2, rfl, hb2⟩
      have hB2 := hb1.trans (hb2.mono hb1.size)
      go_wp2_with fail
      refine (numText_any n w2).mono ?_
      rintro e w3 ⟨rfl, hb3⟩
      have hB3 := hB2.trans (hb3.mono hB2.size)
      go_wp2_with fail
      refine (numText_any m w3).mono ?_
      rintro e w4 ⟨rfl, hb4⟩
      have hB4 := hB3.trans (hb4.mono hB3.size)
      have HSp := Lib.hid (fun W => specNumText_any n W)
      cases hbn : inB n
      · have q3 := isEmpty_out hbn
        have q4 := beq_same (numT n)
        clear hbn
        generalize numT n = s at *
        generalize numT m = t at *
        go_wp2_with fail
        refine (HSp.out w4).mono ?_
        rintro e w' ⟨rfl, rfl⟩
        go_wp2_with fail
        refine (HSp.out w4).mono ?_
        rintro e w' ⟨rfl, rfl⟩
        go_wp2_with fail
        go_ret
        exact ⟨rfl, hB4⟩
      · cases hbm : inB m
        · have q3 := isEmpty_in hbn
          have q4 := isEmpty_out hbm
          have q5 := beq_same (numT n)
          clear hbn hbm
          generalize numT n = s at *
          generalize numT m = t at *
          go_wp2_with fail
          refine (HSp.out w4).mono ?_
          rintro e w' ⟨rfl, rfl⟩
          go_wp2_with fail
          refine (HSp.out w4).mono ?_
          rintro e w' ⟨rfl, rfl⟩
          go_wp2_with fail
          go_ret
          exact ⟨rfl, hB4⟩
        · have q3 := isEmpty_in hbn
          have q4 := isEmpty_in hbm
          have HFE := Lib.hid (front_eq hbn hbm)
          have HNE := Lib.hid (num_ne hbn hbm)
          have HRB := Lib.hid (read_behind hbn (numT m))
          have hsn : (numT n).size ≤ 6 := by rw [numT_size]; exact numL_length n
          have hsm : (numT m).size ≤ 6 := by rw [numT_size]; exact numL_length m
          clear hbn hbm
          by_cases hnm : n = m
          · subst hnm
            have q5 := beq_same (numT n)
            have HX := Lib.hid (show (numT n).extract 0 (numT n).size = numT n by simp)
            generalize numT n = s at *
            go_wp2_with fail
            refine (HSp.out w4).mono ?_
            rintro e w' ⟨rfl, rfl⟩
            go_wp2_with fail
            go_ret
            exact ⟨rfl, hB4⟩
          · have q5 : (n == m) = false := beq_eq_false_iff_ne.2 hnm
            have q6 := HNE.out hnm
            have q7 : (((numT m).extract 0 (numT n).size).toList == (numT n).toList) = false := by
              cases hx : (((numT m).extract 0 (numT n).size).toList == (numT n).toList)
              · rfl
              · exact absurd (HFE.out hx) hnm
            have q8 := beq_same (numT n)
            have HRD := Lib.hid (fun W => numRead_any (numT m ++ numT n) ((numT m).size : Int) W (by rw [ByteArray.size_append]; omega))
            rw [HRB.out] at HRD
            clear HFE HNE HRB hnm
            generalize numT n = s at *
            generalize numT m = t at *
            by_cases hst : s.size ≤ t.size
            · have q9 : decide (s.size ≤ t.size) = true := by simpa using hst
              go_wp2_with fail
              refine (HSp.out w4).mono ?_
              rintro e w' ⟨rfl, rfl⟩
              go_wp2_with fail
              refine (HRD.out w4).mono ?_
              rintro e w5 ⟨rfl, hb5⟩
              go_wp2_with fail
              go_ret
              exact ⟨rfl, hB4.trans (hb5.mono hB4.size)⟩
            · have q9 : decide (s.size ≤ t.size) = false := by simpa using hst
              go_wp2_with fail
              refine (HSp.out w4).mono ?_
              rintro e w' ⟨rfl, rfl⟩
              go_wp2_with fail
              refine (HRD.out w4).mono ?_
              rintro e w5 ⟨rfl, hb5⟩
              go_wp2_with fail
              go_ret
              exact ⟨rfl, hB4.trans (hb5.mono hB4.size)⟩


theorem own : ownKnob Try.prog.godebug = none := by kernel_rfl
theorem laidOut : laidOutB Try.prog = true := by kernel_rfl

set_option linter.unusedVariables false in
set_option maxRecDepth 100000 in
theorem lifted (os : Os) (started : os.Started) (H : Type) (enc : TypeId × Value → H) :
    ReturnsInHanded {} Try.checked os 6 .any (Rows.fnNumAllSpec.pre6 enc Try.prog Try.f6 Rows.fnNumAllRow.domain false) (Rows.fnNumAllSpec.post enc Try.prog Try.f6 false true false false) := by
  refine returnsInHanded_of_change (C := Try.checked) own started (by kernel_rfl) Try.func6
    (ChangeSpec.witness6 (enc := enc) (C := Try.checked) false ⟨#[], #[.slice none 0 0, .slice none 0 0], []⟩ 8 (by kernel_rfl) (by kernel_rfl) (by kernel_rfl) (by kernel_rfl)) ?_
  intro W base args ds gs before hval0 hW hcnd _
  have hval : ∀ (j : Nat) t v, Try.f6.params[j]? = some t → args[j]? = some v → Value.okWide Try.prog W .any base t v := hval0
  have hW' := hW
  obtain ⟨p, q, hA0, hV, rfl, hfz, hnd⟩ := hW
  have hA : DataW.TrodAll enc Try.prog W 0 (fun _ => true) true Try.f6.params.toList args.toList ds p := hA0
  rw [Try.params6] at hA hval
  obtain ⟨v0, vs0, d0, ds0, p0, q0, hargs, rfl, rfl, h0, r0⟩ := trodAll_cons hA
  obtain ⟨v1, vs1, d1, ds1, p1, q1, rfl, rfl, rfl, h1, r1⟩ := trodAll_cons r0
  obtain ⟨rfl, rfl, rfl⟩ := trodAll_nil r1
  obtain rfl : args = #[v0, v1] := by cases args; simp_all
  obtain ⟨rfl, rfl⟩ := trodVars_none hV
  have k0 := h0
  have lt0 : ∀ x ∈ p0, x.block < W.heap.size := by obtain ⟨m, hm⟩ := k0; exact DataW.trod_lt m _ _ _ hm
  have k1 := h1
  have lt1 : ∀ x ∈ p1, x.block < W.heap.size := by obtain ⟨m, hm⟩ := k1; exact DataW.trod_lt m _ _ _ hm
  obtain ⟨a0, len0, cap0, e0⟩ := okWide_slice Try.underlying22 (hval 0 22 v0 rfl rfl)
  subst e0
  have w0 : InCode W a0 len0 cap0 := by
    obtain ⟨fuel, hf⟩ := h0
    rcases open_ints Try.underlying22 Try.underlying5 (by kernel_rfl) hf with ⟨hcs, _⟩ | ⟨x, l, c, zs, hcs, _, hl, hm, hz, _, hcell, hwz⟩
    · simp [Value.cells] at hcs
      obtain ⟨rfl, rfl, rfl⟩ := hcs
      exact inCode_nil W
    · simp [Value.cells] at hcs
      obtain ⟨rfl, rfl, rfl⟩ := hcs
      exact inCode_of hl hm (by simpa using hz) hcell hwz
  obtain ⟨a1, len1, cap1, e1⟩ := okWide_slice Try.underlying22 (hval 1 22 v1 rfl rfl)
  subst e1
  have w1 : InCode W a1 len1 cap1 := by
    obtain ⟨fuel, hf⟩ := h1
    rcases open_ints Try.underlying22 Try.underlying5 (by kernel_rfl) hf with ⟨hcs, _⟩ | ⟨x, l, c, zs, hcs, _, hl, hm, hz, _, hcell, hwz⟩
    · simp [Value.cells] at hcs
      obtain ⟨rfl, rfl, rfl⟩ := hcs
      exact inCode_nil W
    · simp [Value.cells] at hcs
      obtain ⟨rfl, rfl, rfl⟩ := hcs
      exact inCode_of hl hm (by simpa using hz) hcell hwz
  clear hA0 hval0
  refine (walk a0 len0 cap0 a1 len1 cap1 W w0 w1).mono fun e W' ⟨he, bel⟩ => ?_
  subst he
  exact ⟨_, rfl, _, _, _, [], _, [], hW', trodAll_mk1 (shut_bool Try.underlying4 _), (trodAll_cons_mk (Below.trod laidOut (by kernel_rfl) (of_decide_eq_true (by kernel_rfl)) k0 bel lt0) (trodAll_cons_mk (Below.trod laidOut (by kernel_rfl) (of_decide_eq_true (by kernel_rfl)) k1 bel lt1) trodAll_mk0)), rfl, bel.frame _, fun h => by cases h⟩

theorem over : Rows.fnNumAllRow.holds Try.pinned (OpenSpec.ofChange Rows.fnNumAllSpec) :=
  OpenClaim.holds_of_wide 6 Try.f6 rfl rfl rfl rfl rfl rfl rfl ⟨rfl, rfl, rfl, rfl, rfl⟩ rfl rfl rfl rfl rfl (by kernel_rfl) Try.func6 (by kernel_rfl)
    (of_decide_eq_true (by kernel_rfl)) (by unfold Func.isWrapper; first | (rw [if_pos (by decide +kernel)]; kernel_rfl) | (rw [if_neg (by decide +kernel)]; exact ⟨rfl, rfl⟩))
    (fun os started H enc _ => lifted os started H enc)
end Go.Proofs.Ytfppmckhpamloaa.fnNumAll
namespace Go.Proofs.Ytfppmckhpamloaa

/-- The given statement. -/
theorem fnNumAll_proved : Rows.FnNumAllSaid := fnNumAll.over
#print axioms fnNumAll_proved
end Go.Proofs.Ytfppmckhpamloaa
