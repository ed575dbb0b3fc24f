/-
  'laws.FnNums' returns true at every pair of codes: numbers are read from their letters, one behind the other, as they were; letters that are all read are those of what was read.
  Conditions: none; every []byte, twice.
-/
import Derived.Test.YtfppmckhpamloaaNumsRead
import Derived.Test.YtfppmckhpamloaaNumDraw
import Derived.Test.YtfppmckhpamloaaRows
import Derived.WalkKit
import Derived.ProofKit
import Derived.OpenShut
import Derived.ShutString
import Derived.ChangeOld
import Derived.Below
import Derived.Lib.SmallJoins
import Derived.SliceStrings
namespace Go.Proofs.Ytfppmckhpamloaa.fnNums
open Go.ChangeShapes Go.WideShapes Go.ChangeAt Go.RowKit Go.Joins
open Go.ChangeMaps (open_string shut_string)

theorem nums_len (s : ByteArray) : ((numsR s).getD []).length ≤ s.size := by
  by_cases h : ∃ zs, Are (L s) zs
  · obtain ⟨zs, hz⟩ := h
    rw [numsR_yes hz]
    have hf : Far s s.size zs := ⟨Nat.le_refl _, by rw [List.take_of_length_le (by rw [L_length]; exact Nat.le_refl _)]; exact hz⟩
    exact hf.len
  · rw [numsR_no h]; simp
theorem nums_text (s : ByteArray) : (numsR s).isSome = true → numsT ((numsR s).getD []) = s := by
  intro h
  by_cases hx : ∃ zs, Are (L s) zs
  · obtain ⟨zs, hz⟩ := hx
    rw [numsR_yes hz]
    show numsT zs = s
    rw [numsT_in hz.1, hz.2]
    rfl
  · rw [numsR_no hx] at h; simp at h
theorem nums_back {zs : List Int} (h : allIn zs = true) : numsR (numsT zs) = some zs := by
  refine numsR_yes ⟨h, ?_⟩
  rw [numsT_in h]; simp [L]
theorem nums_empty : numsR ByteArray.empty = some [] := numsR_yes ⟨rfl, rfl⟩
theorem bne_empty (z : Int) : (!(numT z).toList.isEmpty) = inB z := by
  cases hb : inB z
  · rw [numT_out hb, Lib.toList_data]; rfl
  · rw [numT_beq hb]; rfl
theorem numsT_size (zs : List Int) : (numsT zs).size ≤ 6 * zs.length := by
  unfold numsT
  split
  · have := catL_length zs
    simpa [ByteArray.size] using this
  · exact Nat.zero_le _

set_option maxRecDepth 100000 in
set_option maxHeartbeats 4000000 in
theorem walk (A : Option Addr) (len cap : Nat) (A' : Option Addr) (len' cap' : Nat) (w : World) (h : InCode w A len cap) (h' : InCode w A' len' cap') :
    Calls Try.prog 4 #[.slice A len cap, .slice A' len' cap'] w fun e w' => e = .returned (.bool true) ∧ Below w.heap.size w w' := by
  by_cases hl : 1048576 < len
  · have q1 : decide ((1048576 : Int) < (len : Int)) = true := by simp; omega
    clear h h'
    go_enter Try.func4, Try.ntmps4
    go_wp2_with fail
    go_ret
    exact ⟨rfl, Below.refl _ _⟩
  · have q1 : decide ((1048576 : Int) < (len : Int)) = false := by simp; omega
    by_cases hl' : 1048576 < len'
    · have q2 : decide ((1048576 : Int) < (len' : Int)) = true := by simp; omega
      clear h h'
      go_enter Try.func4, Try.ntmps4
      go_wp2_with fail
      go_ret
      exact ⟨rfl, Below.refl _ _⟩
    · have q2 : decide ((1048576 : Int) < (len' : Int)) = false := by simp; omega
      have HC := Lib.hid h'
      have HD := Lib.hid (drawNumsText_any A len cap w h)
      clear h h'
      go_enter Try.func4, Try.ntmps4
      go_wp2_with fail
      refine HD.out.mono ?_
      clear HD
      rintro e w1 ⟨v, zs, hzl, _, rfl, hv, hb1⟩
      obtain ⟨B, c, rfl, _⟩ := own_slice hv
      have HB := Lib.hid (SlIs.own hv)
      clear hv
      have hns := numsT_size zs
      go_wp2_with fail
      refine (numsText_any B c zs w1 (by omega) HB.out).mono ?_
      rintro e w2 ⟨rfl, hb2⟩
      have hB2 := hb1.trans (hb2.mono hb1.size)
      go_wp2_with fail
      refine (specNumsText_any B c zs w2 (by omega) (HB.out.below hb2)).mono ?_
      rintro e w' ⟨rfl, rfl⟩
      have qs : (!(numsT zs).toList == (numsT zs).toList) = false := by simp
      have HRB := Lib.hid (fun h => nums_back (zs := zs) h)
      have HRE := Lib.hid (fun h => numsT_out (zs := zs) h)
      have HRD := Lib.hid (fun W => numsRead_any (numsT zs) W (by omega))
      unfold ReadsAll at HRD
      generalize numsT zs = s at *
      go_wp2_with fail
      go_loopw [7, 8] (fun b i wr => ∃ k : Nat, k ≤ zs.length ∧ i = .int .i64 k ∧ b = .bool (allIn (zs.take k)) ∧ Below w1.heap.size w1 wr) (fun _ i _ => zs.length - (intOf i).toNat)
      case atStart => exact ⟨0, Nat.zero_le _, rfl, rfl, hb2⟩
      case round =>
        obtain ⟨k, hk, rfl, rfl, hB⟩ := hrel
        have hBw : Below w.heap.size w wr := hb1.trans (hB.mono hb1.size)
        by_cases hlt : k < zs.length
        · have HS := Lib.hid (allIn_take_succ zs k hlt)
          obtain ⟨g, off, rfl, hg, hc0⟩ := HB.out.at_ (k := k) (by simpa using hlt)
          simp only [List.getElem_map, intV] at hc0
          have hc := (hB.cell (p := ⟨g, off + k, none⟩) hg).trans hc0
          clear hc0
          generalize zs[k] = z at *
          have HBN := Lib.hid (bne_empty z)
          have hx : (k : Int) < (zs.length : Int) := by omega
          cases hin : allIn (zs.take k)
          · rw [hin] at HS
            clear hin
            go_wp2_with fail
            go_roundw
            case rel => exact ⟨k + 1, by omega, by go_num, by rw [HS.out]; rfl, hB⟩
            case measure => simp [intOf]; omega
          · rw [hin] at HS
            clear hin
            go_wp2_with fail
            refine (numText_any z wr).mono ?_
            rintro e w3 ⟨rfl, hb3⟩
            go_wp2_with fail
            go_roundw
            case rel => exact ⟨k + 1, by omega, by go_num, by rw [HS.out, ← HBN.out]; rfl, hB.trans (hb3.mono hB.size)⟩
            case measure => simp [intOf]; omega
        · obtain rfl : zs.length = k := by omega
          rw [List.take_length]
          cases hin : allIn zs
          · have hse := HRE.out hin
            subst hse
            rw [nums_empty] at HRD
            clear HRB HRE hin
            go_wp2_with fail
            refine (HRD.out wr).mono ?_
            rintro e W ⟨v, rfl, hv, hbW⟩
            have hBW := hBw.trans (hbW.mono hBw.size)
            obtain ⟨X, cx, rfl, _⟩ := own_slice hv
            clear hv
            go_wp2_with fail
            go_loop [11] (fun i => i = .int .i64 0) (fun _ => 0)
            case atStart => rfl
            case round =>
              obtain rfl := hrel
              go_wp2_with fail
              refine (drawNumsRead_any A' len' cap' W (HC.out.below hBW)).mono ?_
              rintro e w7 ⟨text, htx, rfl, hb7⟩
              have hB7 := hBW.trans (hb7.mono hBW.size)
              have H1 := Lib.hid (fun W => numsRead_any text W (by omega))
              have H2 := Lib.hid (fun W => specNumsRead_any text W (by omega))
              have HLN := Lib.hid (nums_len text)
              have HTX := Lib.hid (nums_text text)
              unfold ReadsAll at H1 H2
              generalize hok : (numsR text).isSome = ok2 at *
              generalize hys : (numsR text).getD [] = ys at *
              clear hok hys
              have hyl := HLN.out
              go_wp2_with fail
              refine (H1.out w7).mono ?_
              rintro e w8 ⟨v, rfl, hv8, hb8⟩
              have hB8 := hB7.trans (hb8.mono hB7.size)
              obtain ⟨Y, cy, rfl, _⟩ := own_slice hv8
              have HY := Lib.hid (SlIs.own hv8)
              clear hv8
              go_wp2_with fail
              refine (H2.out w8).mono ?_
              rintro e w9 ⟨v, rfl, hv9, hb9⟩
              have hB9 := hB8.trans (hb9.mono hB8.size)
              obtain ⟨Z, cz, rfl, _⟩ := own_slice hv9
              clear hv9
              have qo : (ok2 == ok2) = true := by simp
              have ql : ((ys.length : Int) == (ys.length : Int)) = true := by simp
              cases ok2
              · go_wp2_with fail
                go_ret
                exact ⟨rfl, hB9⟩
              · have HT2 := Lib.hid (HTX.out rfl)
                go_wp2_with fail
                refine (numsText_any Y cy ys w9 (by omega) (HY.out.below hb9)).mono ?_
                rintro e w10 ⟨rfl, hb10⟩
                rw [HT2.out]
                have qt : (text.toList == text.toList) = true := by simp
                go_wp2_with fail
                go_ret
                exact ⟨rfl, hB9.trans (hb10.mono hB9.size)⟩
          · rw [HRB.out hin] at HRD
            clear HRB HRE hin
            go_wp2_with fail
            refine (HRD.out wr).mono ?_
            rintro e w6 ⟨v, rfl, hv, hb6⟩
            have hB6 := hBw.trans (hb6.mono hBw.size)
            simp only [Option.getD_some] at hv
            obtain ⟨X, cx, rfl, _⟩ := own_slice hv
            have HX := Lib.hid (SlIs.own hv)
            have HB6 := Lib.hid ((HB.out.below hB).below hb6)
            clear hv
            have ql : ((zs.length : Int) != (zs.length : Int)) = false := by simp
            go_wp2_with fail
            go_loopw [11] (fun i wr => ∃ k : Nat, k ≤ zs.length ∧ i = .int .i64 k ∧ ∃ n, wr = w6.drewN n) (fun i _ => zs.length - (intOf i).toNat)
            case atStart => exact ⟨0, Nat.zero_le _, rfl, 0, rfl⟩
            case round =>
              obtain ⟨k, hk, rfl, nd, rfl⟩ := hrel
              by_cases hlt : k < zs.length
              · obtain ⟨g, off, rfl, hg, hc⟩ := HX.out.at_ (k := k) (by simpa using hlt)
                obtain ⟨g', off', rfl, hg', hc'⟩ := HB6.out.at_ (k := k) (by simpa using hlt)
                simp only [List.getElem_map, intV] at hc hc'
                generalize zs[k] = z at *
                have hx : (k : Int) < (zs.length : Int) := by omega
                go_wp2_with fail
                go_quiet (fail)
                go_wp2_with fail
                go_roundw
                case rel => exact ⟨k + 1, by omega, by go_num, nd + nq, rfl⟩
                case measure => simp [intOf]; omega
              · obtain rfl : zs.length = k := by omega
                have hBW : Below w.heap.size w (w6.drewN nd) := below_drewN hB6 nd
                generalize w6.drewN nd = W at *
                go_wp2_with fail
                refine (drawNumsRead_any A' len' cap' W (HC.out.below hBW)).mono ?_
                rintro e w7 ⟨text, htx, rfl, hb7⟩
                have hB7 := hBW.trans (hb7.mono hBW.size)
                have H1 := Lib.hid (fun W => numsRead_any text W (by omega))
                have H2 := Lib.hid (fun W => specNumsRead_any text W (by omega))
                have HLN := Lib.hid (nums_len text)
                have HTX := Lib.hid (nums_text text)
                unfold ReadsAll at H1 H2
                generalize hok : (numsR text).isSome = ok2 at *
                generalize hys : (numsR text).getD [] = ys at *
                clear hok hys
                have hyl := HLN.out
                go_wp2_with fail
                refine (H1.out w7).mono ?_
                rintro e w8 ⟨v, rfl, hv8, hb8⟩
                have hB8 := hB7.trans (hb8.mono hB7.size)
                obtain ⟨Y, cy, rfl, _⟩ := own_slice hv8
                have HY := Lib.hid (SlIs.own hv8)
                clear hv8
                go_wp2_with fail
                refine (H2.out w8).mono ?_
                rintro e w9 ⟨v, rfl, hv9, hb9⟩
                have hB9 := hB8.trans (hb9.mono hB8.size)
                obtain ⟨Z, cz, rfl, _⟩ := own_slice hv9
                clear hv9
                have qo : (ok2 == ok2) = true := by simp
                have ql : ((ys.length : Int) == (ys.length : Int)) = true := by simp
                cases ok2
                · go_wp2_with fail
                  go_ret
                  exact ⟨rfl, hB9⟩
                · have HT2 := Lib.hid (HTX.out rfl)
                  go_wp2_with fail
                  refine (numsText_any Y cy ys w9 (by omega) (HY.out.below hb9)).mono ?_
                  rintro e w10 ⟨rfl, hb10⟩
                  rw [HT2.out]
                  have qt : (text.toList == text.toList) = true := by simp
                  go_wp2_with fail
                  go_ret
                  exact ⟨rfl, hB9.trans (hb10.mono hB9.size)⟩

theorem own : ownKnob Try.prog.godebug = none := by kernel_rfl
theorem laidOut : laidOutB Try.prog = true := by kernel_rfl

set_option linter.unusedVariables false in
set_option maxRecDepth 100000 in
theorem lifted (os : Os) (started : os.Started) (H : Type) (enc : TypeId × Value → H) :
    ReturnsInHanded {} Try.checked os 4 .any (Rows.fnNumsSpec.pre6 enc Try.prog Try.f4 Rows.fnNumsRow.domain false) (Rows.fnNumsSpec.post enc Try.prog Try.f4 false true false false) := by
  refine returnsInHanded_of_change (C := Try.checked) own started (by kernel_rfl) Try.func4
    (ChangeSpec.witness6 (enc := enc) (C := Try.checked) false ⟨#[], #[.slice none 0 0, .slice none 0 0], []⟩ 8 (by kernel_rfl) (by kernel_rfl) (by kernel_rfl) (by kernel_rfl)) ?_
  intro W base args ds gs before hval0 hW hcnd _
  have hval : ∀ (j : Nat) t v, Try.f4.params[j]? = some t → args[j]? = some v → Value.okWide Try.prog W .any base t v := hval0
  have hW' := hW
  obtain ⟨p, q, hA0, hV, rfl, hfz, hnd⟩ := hW
  have hA : DataW.TrodAll enc Try.prog W 0 (fun _ => true) true Try.f4.params.toList args.toList ds p := hA0
  rw [Try.params4] at hA hval
  obtain ⟨v0, vs0, d0, ds0, p0, q0, hargs, rfl, rfl, h0, r0⟩ := trodAll_cons hA
  obtain ⟨v1, vs1, d1, ds1, p1, q1, rfl, rfl, rfl, h1, r1⟩ := trodAll_cons r0
  obtain ⟨rfl, rfl, rfl⟩ := trodAll_nil r1
  obtain rfl : args = #[v0, v1] := by cases args; simp_all
  obtain ⟨rfl, rfl⟩ := trodVars_none hV
  have k0 := h0
  have lt0 : ∀ x ∈ p0, x.block < W.heap.size := by obtain ⟨m, hm⟩ := k0; exact DataW.trod_lt m _ _ _ hm
  have k1 := h1
  have lt1 : ∀ x ∈ p1, x.block < W.heap.size := by obtain ⟨m, hm⟩ := k1; exact DataW.trod_lt m _ _ _ hm
  obtain ⟨a0, len0, cap0, e0⟩ := okWide_slice Try.underlying22 (hval 0 22 v0 rfl rfl)
  subst e0
  have w0 : InCode W a0 len0 cap0 := by
    obtain ⟨fuel, hf⟩ := h0
    rcases open_ints Try.underlying22 Try.underlying5 (by kernel_rfl) hf with ⟨hcs, _⟩ | ⟨x, l, c, zs, hcs, _, hl, hm, hz, _, hcell, hwz⟩
    · simp [Value.cells] at hcs
      obtain ⟨rfl, rfl, rfl⟩ := hcs
      exact inCode_nil W
    · simp [Value.cells] at hcs
      obtain ⟨rfl, rfl, rfl⟩ := hcs
      exact inCode_of hl hm (by simpa using hz) hcell hwz
  obtain ⟨a1, len1, cap1, e1⟩ := okWide_slice Try.underlying22 (hval 1 22 v1 rfl rfl)
  subst e1
  have w1 : InCode W a1 len1 cap1 := by
    obtain ⟨fuel, hf⟩ := h1
    rcases open_ints Try.underlying22 Try.underlying5 (by kernel_rfl) hf with ⟨hcs, _⟩ | ⟨x, l, c, zs, hcs, _, hl, hm, hz, _, hcell, hwz⟩
    · simp [Value.cells] at hcs
      obtain ⟨rfl, rfl, rfl⟩ := hcs
      exact inCode_nil W
    · simp [Value.cells] at hcs
      obtain ⟨rfl, rfl, rfl⟩ := hcs
      exact inCode_of hl hm (by simpa using hz) hcell hwz
  clear hA0 hval0
  refine (walk a0 len0 cap0 a1 len1 cap1 W w0 w1).mono fun e W' ⟨he, bel⟩ => ?_
  subst he
  exact ⟨_, rfl, _, _, _, [], _, [], hW', trodAll_mk1 (shut_bool Try.underlying4 _), (trodAll_cons_mk (Below.trod laidOut (by kernel_rfl) (of_decide_eq_true (by kernel_rfl)) k0 bel lt0) (trodAll_cons_mk (Below.trod laidOut (by kernel_rfl) (of_decide_eq_true (by kernel_rfl)) k1 bel lt1) trodAll_mk0)), rfl, bel.frame _, fun h => by cases h⟩

theorem over : Rows.fnNumsRow.holds Try.pinned (OpenSpec.ofChange Rows.fnNumsSpec) :=
  OpenClaim.holds_of_wide 4 Try.f4 rfl rfl rfl rfl rfl rfl rfl ⟨rfl, rfl, rfl, rfl, rfl⟩ rfl rfl rfl rfl rfl (by kernel_rfl) Try.func4 (by kernel_rfl)
    (of_decide_eq_true (by kernel_rfl)) (by unfold Func.isWrapper; first | (rw [if_pos (by decide +kernel)]; kernel_rfl) | (rw [if_neg (by decide +kernel)]; exact ⟨rfl, rfl⟩))
    (fun os started H enc _ => lifted os started H enc)
end Go.Proofs.Ytfppmckhpamloaa.fnNums
namespace Go.Proofs.Ytfppmckhpamloaa

/-- The given statement. -/
theorem fnNums_proved : Rows.FnNumsSaid := fnNums.over
#print axioms fnNums_proved
end Go.Proofs.Ytfppmckhpamloaa
