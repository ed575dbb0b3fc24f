/-
  'laws.FnNumLetter' returns true at every code: each digit has one letter and no two have one; a greater number never has fewer letters, and its opposite has as many.
  Conditions: none; every []byte.
-/
import Derived.Test.YtfppmckhpamloaaNumText
import Derived.Test.YtfppmckhpamloaaNumDraw
import Derived.Test.YtfppmckhpamloaaRows
import Derived.WalkKit
import Derived.ProofKit
import Derived.OpenShut
import Derived.ShutString
import Derived.ChangeOld
import Derived.Below
import Derived.Lib.SmallJoins
import Derived.SliceStrings
namespace Go.Proofs.Ytfppmckhpamloaa.fnNumLetter
open Go.ChangeShapes Go.WideShapes Go.ChangeAt Go.RowKit Go.Joins
open Go.ChangeMaps (open_string shut_string)

theorem digs_mono : ∀ (m n : Nat), m ≤ n → (digs m).length ≤ (digs n).length := by
  intro m
  induction m using digs.induct with
  | case1 m h => intro n _; rw [digs_small h]; exact List.length_pos_iff.2 (digs_ne n)
  | case2 m h ih =>
    intro n hn
    rw [digs_big h, digs_big (by omega : ¬ n < 16), List.length_cons, List.length_cons]
    have := ih (n / 16) (Nat.div_le_div_right hn)
    omega
theorem size_in {n : Int} (h : inB n = true) : (numT n).size = (digs (codeOf n)).length := by rw [numT_size, numL_in h]
theorem num_mono (n : Int) (h0 : 0 ≤ n) (h1 : n < 1000000) : decide ((numT n).size ≤ (numT (n + 1)).size) = true := by
  rw [decide_eq_true_iff, size_in (inB_yes (by omega) (by omega)), size_in (inB_yes (by omega) (by omega))]
  refine digs_mono _ _ ?_
  unfold codeOf
  rw [if_neg (by omega), if_neg (by omega)]
  omega
theorem digs_odd (k : Nat) : (digs (k * 2 + 1)).length = (digs (k * 2)).length := by
  by_cases h : k * 2 < 16
  · rw [digs_small h, digs_small (by omega : k * 2 + 1 < 16)]; rfl
  · rw [digs_big h, digs_big (by omega : ¬ k * 2 + 1 < 16), List.length_cons, List.length_cons, show (k * 2 + 1) / 16 = k * 2 / 16 by omega]
theorem num_neg (n : Int) (h0 : 0 ≤ n) (h1 : n < 1000000) : (((numT (-n)).size : Int) == ((numT n).size : Int)) = true := by
  rw [beq_iff_eq, size_in (inB_yes (by omega) (by omega)), size_in (inB_yes (by omega) (by omega))]
  by_cases hz : n = 0
  · subst hz; rfl
  · unfold codeOf
    rw [if_pos (by omega), if_neg (by omega), show (- -n).toNat = n.toNat by omega, digs_odd]
theorem letB_ne {a b : Nat} (ha : a < 32) (hb : b < 32) (h : a ≠ b) : ((letB a).toList == (letB b).toList) = false := by
  rw [beq_eq_false_iff_ne, Lib.toList_data, Lib.toList_data]
  intro e
  have e1 : letU a = letU b := by simpa [letB] using e
  have h1 := digU_letU a ha
  have h2 := digU_letU b hb
  rw [e1] at h1
  omega

set_option maxRecDepth 100000 in
set_option maxHeartbeats 2000000 in
theorem walk (A : Option Addr) (len cap : Nat) (w : World) (h : InCode w A len cap) :
    Calls Try.prog 5 #[.slice A len cap] w fun e w' => e = .returned (.bool true) ∧ Below w.heap.size w w' := by
  by_cases hl : 1048576 < len
  · have q1 : decide ((1048576 : Int) < (len : Int)) = true := by simp; omega
    clear h
    go_enter Try.func5, Try.ntmps5
    go_wp2_with fail
    go_ret
    exact ⟨rfl, Below.refl _ _⟩
  · have q1 : decide ((1048576 : Int) < (len : Int)) = false := by simp; omega
    have HC := Lib.hid h
    have h2 := h
    have HD := Lib.hid (drawNumLetter_any A len cap w h)
    clear h
    go_enter Try.func5, Try.ntmps5
    go_wp2_with fail
    refine HD.out.mono ?_
    clear HD
    rintro e w1 ⟨d, hd1, hd2, rfl, hb1⟩
    by_cases hin : 0 ≤ d ∧ d < 32
    · obtain ⟨k, rfl⟩ := Int.eq_ofNat_of_zero_le hin.1
      have hk : k < 32 := by omega
      have q2 : decide ((0 : Int) ≤ (k : Int)) = true := by simp
      have q3 : decide ((k : Int) < 32) = true := by simp; omega
      have hls : (letB k).size = 1 := rfl
      have HL := Lib.hid (fun i (hi : i < 32) (hne : i ≠ k) => letB_ne hi hk hne)
      have qe : (letB k).toList.isEmpty = false := by rw [Lib.toList_data]; rfl
      clear hin hd1 hd2
      go_wp2_with fail
      refine (numLetter_in (k : Int) w1 (by omega) (by omega)).mono ?_
      rintro e w2 ⟨rfl, hb2⟩
      have hB2 : Below w.heap.size w w2 := hb1.trans (hb2.mono hb1.size)
      rw [Int.toNat_natCast]
      go_wp2_with fail
      refine (specNumLetter_in (k : Int) w2 (by omega) (by omega)).mono ?_
      rintro e w' ⟨rfl, rfl⟩
      rw [Int.toNat_natCast]
      have HNL := Lib.hid (fun (i : Nat) W (hi : i < 32) => numLetter_in (i : Int) W (by omega) (by omega))
      generalize letB k = s at *
      go_wp2_with fail
      go_loopw [5] (fun i wr => ∃ j : Nat, j ≤ 32 ∧ i = .int .i64 j ∧ Below w.heap.size w wr) (fun i _ => 32 - (intOf i).toNat)
      case atStart => exact ⟨0, by omega, rfl, hB2⟩
      case round =>
        clear hB2 hb2 hb1
        obtain ⟨j, hj, rfl, hB⟩ := hrel
        by_cases h32 : j < 32
        · by_cases hjk : j = k
          · have q4 : (((j : Nat) : Int) != ((k : Nat) : Int)) = false := by rw [hjk]; simp
            clear hjk
            go_wp2_with fail
            go_roundw
            case rel => exact ⟨j + 1, by omega, by go_num, hB⟩
            case measure => simp [intOf]; omega
          · have q4 : (((j : Nat) : Int) != ((k : Nat) : Int)) = true := by simp; omega
            have q5 := HL.out j h32 hjk
            clear hjk
            go_wp2_with fail
            refine (HNL.out j wr h32).mono ?_
            rintro e w3 ⟨rfl, hb3⟩
            rw [Int.toNat_natCast]
            go_wp2_with fail
            go_roundw
            case rel => exact ⟨j + 1, by omega, by go_num, hB.trans (hb3.mono hB.size)⟩
            case measure => simp [intOf]; omega
        · clear HL HNL
          go_wp2_with fail
          refine (drawNumText_any A len cap wr (h2.below hB)).mono ?_
          rintro e w5 ⟨n, hn1, hn2, rfl, hb5⟩
          have hB5 : Below w.heap.size w w5 := hB.trans (hb5.mono hB.size)
          by_cases hneg : n < 0
          · have q5 : decide (n < 0) = true := by simpa using hneg
            go_wp2_with fail
            go_ret
            exact ⟨rfl, hB5⟩
          · have q5 : decide (n < 0) = false := by simpa using hneg
            by_cases hbig : 1000000 ≤ n
            · have q6 : decide (1000000 ≤ n) = true := by simpa using hbig
              go_wp2_with fail
              go_ret
              exact ⟨rfl, hB5⟩
            · have q6 : decide (1000000 ≤ n) = false := by simpa using hbig
              have HM := Lib.hid (num_mono n (by omega) (by omega))
              have HE := Lib.hid (num_neg n (by omega) (by omega))
              have HN := Lib.hid (fun m W => numText_any m W)
              go_wp2_with fail
              refine (HN.out n w5).mono ?_
              rintro e w6 ⟨rfl, hb6⟩
              have hB6 := hB5.trans (hb6.mono hB5.size)
              go_wp2_with fail
              refine (HN.out (n + 1) w6).mono ?_
              rintro e w7 ⟨rfl, hb7⟩
              have hB7 := hB6.trans (hb7.mono hB6.size)
              have q7 := HM.out
              go_wp2_with fail
              refine (HN.out (-n) w7).mono ?_
              rintro e w8 ⟨rfl, hb8⟩
              have hB8 := hB7.trans (hb8.mono hB7.size)
              go_wp2_with fail
              refine (HN.out n w8).mono ?_
              rintro e w9 ⟨rfl, hb9⟩
              have hB9 := hB8.trans (hb9.mono hB8.size)
              have q8 := HE.out
              go_wp2_with fail
              go_ret
              exact ⟨rfl, hB9⟩
    · have ho : d < 0 ∨ 31 < d := by omega
      clear hin hd1 hd2
      rcases ho with h0 | h0
      · have qa : decide (0 ≤ d) = false := by simpa using h0
        have hout : d < 0 ∨ 31 < d := .inl h0
        have HO := Lib.hid hout
        clear hout
        go_wp2_with fail
        refine (numLetter_out d w1 HO.out).mono ?_
        rintro e w' ⟨rfl, rfl⟩
        go_wp2_with fail
        refine (specNumLetter_out d w1 HO.out).mono ?_
        rintro e w' ⟨rfl, rfl⟩
        go_wp2_with fail
        go_loopw [5] (fun i wr => ∃ j : Nat, j ≤ 32 ∧ i = .int .i64 j ∧ Below w.heap.size w wr) (fun i _ => 32 - (intOf i).toNat)
        case atStart => exact ⟨0, by omega, rfl, hb1⟩
        case round =>
          clear hb1
          obtain ⟨j, hj, rfl, hB⟩ := hrel
          by_cases h32 : j < 32
          · have q4 : (((j : Nat) : Int) != d) = true := by
              rw [bne_iff_ne]; have := HO.out; omega
            go_wp2_with fail
            go_roundw
            case rel => exact ⟨j + 1, by omega, by go_num, hB⟩
            case measure => simp [intOf]; omega
          · go_wp2_with fail
            refine (drawNumText_any A len cap wr (h2.below hB)).mono ?_
            rintro e w5 ⟨n, hn1, hn2, rfl, hb5⟩
            have hB5 : Below w.heap.size w w5 := hB.trans (hb5.mono hB.size)
            by_cases hneg : n < 0
            · have q5 : decide (n < 0) = true := by simpa using hneg
              go_wp2_with fail
              go_ret
              exact ⟨rfl, hB5⟩
            · have q5 : decide (n < 0) = false := by simpa using hneg
              by_cases hbig : 1000000 ≤ n
              · have q6 : decide (1000000 ≤ n) = true := by simpa using hbig
                go_wp2_with fail
                go_ret
                exact ⟨rfl, hB5⟩
              · have q6 : decide (1000000 ≤ n) = false := by simpa using hbig
                have HM := Lib.hid (num_mono n (by omega) (by omega))
                have HE := Lib.hid (num_neg n (by omega) (by omega))
                have HN := Lib.hid (fun m W => numText_any m W)
                go_wp2_with fail
                refine (HN.out n w5).mono ?_
                rintro e w6 ⟨rfl, hb6⟩
                have hB6 := hB5.trans (hb6.mono hB5.size)
                go_wp2_with fail
                refine (HN.out (n + 1) w6).mono ?_
                rintro e w7 ⟨rfl, hb7⟩
                have hB7 := hB6.trans (hb7.mono hB6.size)
                have q7 := HM.out
                go_wp2_with fail
                refine (HN.out (-n) w7).mono ?_
                rintro e w8 ⟨rfl, hb8⟩
                have hB8 := hB7.trans (hb8.mono hB7.size)
                go_wp2_with fail
                refine (HN.out n w8).mono ?_
                rintro e w9 ⟨rfl, hb9⟩
                have hB9 := hB8.trans (hb9.mono hB8.size)
                have q8 := HE.out
                go_wp2_with fail
                go_ret
                exact ⟨rfl, hB9⟩
      · have qa : decide (0 ≤ d) = true := by simp; omega
        have qb : decide (d < 32) = false := by simp; omega
        have hout : d < 0 ∨ 31 < d := .inr h0
        have HO := Lib.hid hout
        clear hout
        go_wp2_with fail
        refine (numLetter_out d w1 HO.out).mono ?_
        rintro e w' ⟨rfl, rfl⟩
        go_wp2_with fail
        refine (specNumLetter_out d w1 HO.out).mono ?_
        rintro e w' ⟨rfl, rfl⟩
        go_wp2_with fail
        go_loopw [5] (fun i wr => ∃ j : Nat, j ≤ 32 ∧ i = .int .i64 j ∧ Below w.heap.size w wr) (fun i _ => 32 - (intOf i).toNat)
        case atStart => exact ⟨0, by omega, rfl, hb1⟩
        case round =>
          clear hb1
          obtain ⟨j, hj, rfl, hB⟩ := hrel
          by_cases h32 : j < 32
          · have q4 : (((j : Nat) : Int) != d) = true := by
              rw [bne_iff_ne]; have := HO.out; omega
            go_wp2_with fail
            go_roundw
            case rel => exact ⟨j + 1, by omega, by go_num, hB⟩
            case measure => simp [intOf]; omega
          · go_wp2_with fail
            refine (drawNumText_any A len cap wr (h2.below hB)).mono ?_
            rintro e w5 ⟨n, hn1, hn2, rfl, hb5⟩
            have hB5 : Below w.heap.size w w5 := hB.trans (hb5.mono hB.size)
            by_cases hneg : n < 0
            · have q5 : decide (n < 0) = true := by simpa using hneg
              go_wp2_with fail
              go_ret
              exact ⟨rfl, hB5⟩
            · have q5 : decide (n < 0) = false := by simpa using hneg
              by_cases hbig : 1000000 ≤ n
              · have q6 : decide (1000000 ≤ n) = true := by simpa using hbig
                go_wp2_with fail
                go_ret
                exact ⟨rfl, hB5⟩
              · have q6 : decide (1000000 ≤ n) = false := by simpa using hbig
                have HM := Lib.hid (num_mono n (by omega) (by omega))
                have HE := Lib.hid (num_neg n (by omega) (by omega))
                have HN := Lib.hid (fun m W => numText_any m W)
                go_wp2_with fail
                refine (HN.out n w5).mono ?_
                rintro e w6 ⟨rfl, hb6⟩
                have hB6 := hB5.trans (hb6.mono hB5.size)
                go_wp2_with fail
                refine (HN.out (n + 1) w6).mono ?_
                rintro e w7 ⟨rfl, hb7⟩
                have hB7 := hB6.trans (hb7.mono hB6.size)
                have q7 := HM.out
                go_wp2_with fail
                refine (HN.out (-n) w7).mono ?_
                rintro e w8 ⟨rfl, hb8⟩
                have hB8 := hB7.trans (hb8.mono hB7.size)
                go_wp2_with fail
                refine (HN.out n w8).mono ?_
                rintro e w9 ⟨rfl, hb9⟩
                have hB9 := hB8.trans (hb9.mono hB8.size)
                have q8 := HE.out
                go_wp2_with fail
                go_ret
                exact ⟨rfl, hB9⟩

theorem own : ownKnob Try.prog.godebug = none := by kernel_rfl
theorem laidOut : laidOutB Try.prog = true := by kernel_rfl

set_option linter.unusedVariables false in
set_option maxRecDepth 100000 in
theorem lifted (os : Os) (started : os.Started) (H : Type) (enc : TypeId × Value → H) :
    ReturnsInHanded {} Try.checked os 5 .any (Rows.fnNumLetterSpec.pre6 enc Try.prog Try.f5 Rows.fnNumLetterRow.domain false) (Rows.fnNumLetterSpec.post enc Try.prog Try.f5 false true false false) := by
  refine returnsInHanded_of_change (C := Try.checked) own started (by kernel_rfl) Try.func5
    (ChangeSpec.witness6 (enc := enc) (C := Try.checked) false ⟨#[], #[.slice none 0 0], []⟩ 8 (by kernel_rfl) (by kernel_rfl) (by kernel_rfl) (by kernel_rfl)) ?_
  intro W base args ds gs before hval0 hW hcnd _
  have hval : ∀ (j : Nat) t v, Try.f5.params[j]? = some t → args[j]? = some v → Value.okWide Try.prog W .any base t v := hval0
  have hW' := hW
  obtain ⟨p, q, hA0, hV, rfl, hfz, hnd⟩ := hW
  have hA : DataW.TrodAll enc Try.prog W 0 (fun _ => true) true Try.f5.params.toList args.toList ds p := hA0
  rw [Try.params5] at hA hval
  obtain ⟨v0, vs0, d0, ds0, p0, q0, hargs, rfl, rfl, h0, r0⟩ := trodAll_cons hA
  obtain ⟨rfl, rfl, rfl⟩ := trodAll_nil r0
  obtain rfl : args = #[v0] := by cases args; simp_all
  obtain ⟨rfl, rfl⟩ := trodVars_none hV
  have k0 := h0
  have lt0 : ∀ x ∈ p0, x.block < W.heap.size := by obtain ⟨m, hm⟩ := k0; exact DataW.trod_lt m _ _ _ hm
  obtain ⟨a0, len0, cap0, e0⟩ := okWide_slice Try.underlying22 (hval 0 22 v0 rfl rfl)
  subst e0
  have w0 : InCode W a0 len0 cap0 := by
    obtain ⟨fuel, hf⟩ := h0
    rcases open_ints Try.underlying22 Try.underlying5 (by kernel_rfl) hf with ⟨hcs, _⟩ | ⟨x, l, c, zs, hcs, _, hl, hm, hz, _, hcell, hwz⟩
    · simp [Value.cells] at hcs
      obtain ⟨rfl, rfl, rfl⟩ := hcs
      exact inCode_nil W
    · simp [Value.cells] at hcs
      obtain ⟨rfl, rfl, rfl⟩ := hcs
      exact inCode_of hl hm (by simpa using hz) hcell hwz
  clear hA0 hval0
  refine (walk a0 len0 cap0 W w0).mono fun e W' ⟨he, bel⟩ => ?_
  subst he
  exact ⟨_, rfl, _, _, _, [], _, [], hW', trodAll_mk1 (shut_bool Try.underlying4 _), (trodAll_cons_mk (Below.trod laidOut (by kernel_rfl) (of_decide_eq_true (by kernel_rfl)) k0 bel lt0) trodAll_mk0), rfl, bel.frame _, fun h => by cases h⟩

theorem over : Rows.fnNumLetterRow.holds Try.pinned (OpenSpec.ofChange Rows.fnNumLetterSpec) :=
  OpenClaim.holds_of_wide 5 Try.f5 rfl rfl rfl rfl rfl rfl rfl ⟨rfl, rfl, rfl, rfl, rfl⟩ rfl rfl rfl rfl rfl (by kernel_rfl) Try.func5 (by kernel_rfl)
    (of_decide_eq_true (by kernel_rfl)) (by unfold Func.isWrapper; first | (rw [if_pos (by decide +kernel)]; kernel_rfl) | (rw [if_neg (by decide +kernel)]; exact ⟨rfl, rfl⟩))
    (fun os started H enc _ => lifted os started H enc)
end Go.Proofs.Ytfppmckhpamloaa.fnNumLetter
namespace Go.Proofs.Ytfppmckhpamloaa

/-- The given statement. -/
theorem fnNumLetter_proved : Rows.FnNumLetterSaid := fnNumLetter.over
#print axioms fnNumLetter_proved
end Go.Proofs.Ytfppmckhpamloaa
