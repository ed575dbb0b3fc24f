/-
  'laws.FnTextCat' returns true at every two codes: the lines of two drawn texts, one behind the other, are those of both, the last of the first and the first of the second being one.
  Conditions: none; every two slices of bytes.
-/
import Derived.Test.YtnpcohbbjfjjaaaDraws
import Derived.Test.YtnpcohbbjfjjaaaLineTexts
import Derived.Test.YtnpcohbbjfjjaaaRows
import Derived.WalkKit
import Derived.ProofKit
import Derived.OpenShut
import Derived.ShutString
import Derived.ChangeOld
import Derived.Below
import Derived.Lib.SmallJoins
import Derived.SliceStrings
import Derived.Deep.QuietTactic
import Derived.BigQuiet
namespace Go.Proofs.Ytnpcohbbjfjjaaa.fnTextCat
open Go.ChangeShapes Go.WideShapes Go.ChangeAt Go.RowKit Go.Joins
open Go.ChangeMaps (open_string shut_string)

theorem own_form {w : World} {base : Nat} {e : TypeId} {v : Value} {n : Nat} {xs : List Value} (h : w.ownsRow base e 1 v n xs) : ∃ A c, v = .slice A n c := by
  rcases h.2 with ⟨rfl, rfl⟩ | ⟨g, cap, _, rfl, _⟩
  · exact ⟨none, 0, rfl⟩
  · exact ⟨_, cap, rfl⟩

theorem str_at {w : World} {A : Option Addr} {ss : List ByteArray} (h : SlIs w A (ss.map strV)) {i : Nat} {t : ByteArray} (hi : ss[i]? = some t) : ∃ g off, A = some ⟨g, off, none⟩ ∧ g < w.heap.size ∧ w.cell? ⟨g, off + i, none⟩ = some (.string t) := by
  have hl : i < ss.length := (List.getElem?_eq_some_iff.1 hi).1
  obtain ⟨g, off, e, hg, hc⟩ := h.at_ (k := i) (by simpa using hl)
  refine ⟨g, off, e, hg, ?_⟩
  rw [hc]
  simp only [List.getElem_map, (List.getElem?_eq_some_iff.1 hi).2]
  rfl

set_option maxRecDepth 100000 in
set_option maxHeartbeats 4000000 in
theorem walk (A : Option Addr) (len cap : Nat) (A' : Option Addr) (len' cap' : Nat) (w : World) (h1 : InCode w A len cap) (h2 : InCode w A' len' cap') :
    Calls Try.prog 9 #[.slice A len cap, .slice A' len' cap'] w fun e w' => e = .returned (.bool true) ∧ Below w.heap.size w w' := by
  by_cases hl1 : 1048576 < len
  · have q1 : decide ((1048576 : Int) < (len : Int)) = true := by simp; omega
    clear h1 h2
    go_enter Try.func9, Try.ntmps9
    go_wp2_with fail
    go_ret
    exact ⟨rfl, Below.refl _ _⟩
  · have q1 : decide ((1048576 : Int) < (len : Int)) = false := by simp; omega
    by_cases hl2 : 1048576 < len'
    · have q2 : decide ((1048576 : Int) < (len' : Int)) = true := by simp; omega
      clear h1 h2
      go_enter Try.func9, Try.ntmps9
      go_wp2_with fail
      go_ret
      exact ⟨rfl, Below.refl _ _⟩
    · have q2 : decide ((1048576 : Int) < (len' : Int)) = false := by simp; omega
      have H1 := Lib.hid h1
      have H2 := Lib.hid h2
      clear h1 h2
      go_enter Try.func9, Try.ntmps9
      go_wp2_with fail
      refine (drawTextLines_any A len cap w H1.out).mono ?_
      rintro e w1 ⟨s, hs, rfl, hb1⟩
      go_wp2_with fail
      refine (drawTextLines_any A' len' cap' w1 (H2.out.below hb1)).mono ?_
      rintro e w2 ⟨t, ht, rfl, hb2⟩
      have hB2 : Below w.heap.size w w2 := hb1.trans (hb2.mono hb1.size)
      clear hb1 hb2 H1 H2
      have HTS := Lib.hid (fun W => specTextLines_any s W (by omega))
      have HOS := Lib.hid (fun W => specTextOk_any s W (by unfold maxLen; omega))
      have HOT := Lib.hid (fun W => specTextOk_any t W (by unfold maxLen; omega))
      have hst : (s ++ t).size ≤ 16000 := by rw [ByteArray.size_append]; omega
      have HOC := Lib.hid (fun W => specTextOk_any (s ++ t) W (by unfold maxLen; omega))
      go_wp2_with fail
      refine (textLines_any s w2 (by omega)).mono ?_
      rintro e w3 ⟨v, rfl, hv, hb3⟩
      have hB3 : Below w.heap.size w w3 := hB2.trans (hb3.mono hB2.size)
      obtain ⟨Aa, ca, rfl⟩ := own_form hv
      go_wp2_with fail
      refine (HTS.out w3).mono ?_
      rintro e w4 ⟨v, rfl, hv4, hb4⟩
      have hB4 : Below w.heap.size w w4 := hB3.trans (hb4.mono hB3.size)
      obtain ⟨Ab, cb, rfl⟩ := own_form hv4
      clear hv4
      have HV := Lib.hid (SlIs.own hv)
      clear hv
      have hq0 : (((linesV s).length : Int) != ((linesV s).length : Int)) = false := by simp
      cases hos : okB s
      · rw [hos] at HOS
        clear hos HV
        go_wp2_with fail
        refine (HOS.out _).mono ?_
        rintro e w' ⟨rfl, rfl⟩
        go_wp2_with fail
        refine (HTS.out _).mono ?_
        rintro e w5 ⟨v, rfl, hv5, hb5⟩
        have hB5 : Below w.heap.size w w5 := hB4.trans (hb5.mono hB4.size)
        obtain ⟨Ac, cc, rfl⟩ := own_form hv5
        clear hv5
        generalize (linesV s).length = m at *
        go_wp2_with fail
        go_ret
        exact ⟨rfl, hB5⟩
      · rw [hos] at HOS
        have HKS := Lib.hid (linesV_ltexts s hos)
        clear hos
        go_wp2_with fail
        refine (HOS.out _).mono ?_
        rintro e w' ⟨rfl, rfl⟩
        cases hot : okB t
        · rw [hot] at HOT
          clear hot HV HKS
          go_wp2_with fail
          refine (HOT.out _).mono ?_
          rintro e w' ⟨rfl, rfl⟩
          go_wp2_with fail
          refine (HTS.out _).mono ?_
          rintro e w5 ⟨v, rfl, hv5, hb5⟩
          have hB5 : Below w.heap.size w w5 := hB4.trans (hb5.mono hB4.size)
          obtain ⟨Ac, cc, rfl⟩ := own_form hv5
          clear hv5
          generalize (linesV s).length = m at *
          go_wp2_with fail
          go_ret
          exact ⟨rfl, hB5⟩
        · rw [hot] at HOT
          have HKT := Lib.hid (linesV_ltexts t hot)
          clear hot
          go_wp2_with fail
          refine (HOT.out _).mono ?_
          rintro e w' ⟨rfl, rfl⟩
          cases hoc : okB (s ++ t)
          · rw [hoc] at HOC
            clear hoc HV HKS HKT
            go_wp2_with fail
            refine (HOC.out _).mono ?_
            rintro e w' ⟨rfl, rfl⟩
            go_wp2_with fail
            refine (HTS.out _).mono ?_
            rintro e w5 ⟨v, rfl, hv5, hb5⟩
            have hB5 : Below w.heap.size w w5 := hB4.trans (hb5.mono hB4.size)
            obtain ⟨Ac, cc, rfl⟩ := own_form hv5
            clear hv5
            generalize (linesV s).length = m at *
            go_wp2_with fail
            go_ret
            exact ⟨rfl, hB5⟩
          · rw [hoc] at HOC
            have HKC := Lib.hid (linesV_ltexts (s ++ t) hoc)
            clear hoc
            go_wp2_with fail
            refine (HOC.out _).mono ?_
            rintro e w' ⟨rfl, rfl⟩
            go_wp2_with fail
            refine (textLines_any t w4 (by omega)).mono ?_
            rintro e w5 ⟨v, rfl, hv5, hb5⟩
            have hB5 : Below w.heap.size w w5 := hB4.trans (hb5.mono hB4.size)
            obtain ⟨Ac, cc, rfl⟩ := own_form hv5
            go_wp2_with fail
            refine (textLines_any (s ++ t) w5 (by omega)).mono ?_
            rintro e w6 ⟨v, rfl, hv6, hb6⟩
            have hB6 : Below w.heap.size w w6 := hB5.trans (hb6.mono hB5.size)
            obtain ⟨Ad, cd, rfl⟩ := own_form hv6
            have sa := Lib.hid (((HV.out.below hb4).below hb5).below hb6)
            have sb := Lib.hid ((SlIs.own hv5).below hb6)
            have sc := Lib.hid (SlIs.own hv6)
            rw [HKS.out] at sa
            rw [HKT.out] at sb
            rw [HKC.out] at sc
            rw [HKS.out, HKT.out, HKC.out, List.length_map, List.length_map, List.length_map]
            clear hv5 hv6 HV HKS HKT HKC HTS HOS HOT HOC hb3 hb4 hb5 hb6 hB2 hB3 hB4 hB5 hq0
            have hls := ltexts_length s
            have hlt := ltexts_length t
            have hns := lines_length s
            have hnt := lines_length t
            have hzs : ∀ x ∈ ltexts s, x.size ≤ 8000 := fun x hx => by
              obtain ⟨y, _, rfl⟩ := List.mem_map.1 hx
              simp; omega
            have hzt : ∀ x ∈ ltexts t, x.size ≤ 8000 := fun x hx => by
              obtain ⟨y, _, rfl⟩ := List.mem_map.1 hx
              simp; omega
            obtain ⟨hcl, hsp, htp, hcat⟩ := cat_lines s t
            generalize ltexts s = la at *
            generalize ltexts t = lb at *
            generalize ltexts (s ++ t) = lc at *
            have HZS := Lib.hid hzs
            have HZT := Lib.hid hzt
            have HCAT := Lib.hid hcat
            have hla : la.length ≤ 8001 := by omega
            have hlb : lb.length ≤ 8001 := by omega
            clear hzs hzt hcat hls hlt hns hnt
            generalize hna : la.length = na at *
            generalize hnb : lb.length = nb at *
            generalize hnc : lc.length = nc at *
            have HNA := Lib.hid hna
            have HNB := Lib.hid hnb
            have HNC := Lib.hid hnc
            clear hna hnb hnc
            obtain ⟨n, rfl⟩ : ∃ n, na = n + 1 := ⟨na - 1, by omega⟩
            obtain rfl : nc = n + nb := by omega
            obtain ⟨x, y, hx, hy, hxy⟩ := (HCAT.out n).2.1 rfl
            obtain ⟨ga, oa, rfl, hga, hca⟩ := str_at sa.out hx
            obtain ⟨gb, ob, rfl, hgb, hcb⟩ := str_at sb.out hy
            obtain ⟨gc, oc, rfl, hgc, hcc⟩ := str_at sc.out hxy
            rw [Nat.add_zero] at hcb
            have hxs := HZS.out x (List.mem_of_getElem? hx)
            have hys := HZT.out y (List.mem_of_getElem? hy)
            clear hx hy hxy
            go_wp2_with fail
            have u1 : IntKind.i64.wrap ((n : Int) + (nb : Int)) = (n : Int) + (nb : Int) := IntWalk.i64_in _ (by omega)
            have u2 : (0 : Int) ≤ (n : Int) := by omega
            have u3 : (n : Int) < (n : Int) + (nb : Int) := by omega
            have u4 : (n : Int) < (n : Int) + 1 := by omega
            have u5 : (0 : Int) < (nb : Int) := by omega
            have u6 : (((n + nb : Nat) : Int) != (n : Int) + (nb : Int)) = false := by simp
            go_quiet (fail)
            clear hca hcb hcc u1
            go_wp2
            go_loopw [11] (fun i wr => ∃ k : Nat, k ≤ n + nb ∧ i = .int .i64 k ∧ ∃ q, wr = w6.drewN q) (fun i _ => n + nb - (intOf i).toNat)
            case atStart => exact ⟨0, Nat.zero_le _, rfl, nq, rfl⟩
            case round =>
              obtain ⟨k, hk, rfl, q, rfl⟩ := hrel
              by_cases hlt : k < n + nb
              · have v0 : (0 : Int) ≤ (k : Int) := by omega
                have v1 : (k : Int) < (n : Int) + (nb : Int) := by omega
                rcases Nat.lt_trichotomy k n with hkn | hkn | hkn
                · obtain ⟨z, hz⟩ : ∃ z, la[k]? = some z := ⟨la[k]'(by rw [HNA.out]; omega), List.getElem?_eq_getElem _⟩
                  have hz2 := ((HCAT.out k).1 (by omega)).trans hz
                  obtain ⟨ga', oa', ea, _, hca⟩ := str_at sa.out hz
                  obtain ⟨gc', oc', ec, _, hcc⟩ := str_at sc.out hz2
                  simp only [Option.some.injEq, Addr.mk.injEq, and_true] at ea ec
                  obtain ⟨rfl, rfl⟩ := ea
                  obtain ⟨rfl, rfl⟩ := ec
                  have v2 : decide (k < n) = true := by simpa using hkn
                  have v3 : decide (n < k) = false := by simp; omega
                  have v4 : (k : Int) < (n : Int) + 1 := by omega
                  clear hz hz2
                  go_wp2
                  go_quiet (fail)
                  go_wp2
                  go_roundw
                  case rel => exact ⟨k + 1, by omega, by go_num, q + nq, rfl⟩
                  case measure => simp [intOf]; omega
                · subst hkn
                  have v2 : decide (k < k) = false := by simp
                  go_wp2
                  go_quiet (fail)
                  go_wp2
                  go_roundw
                  case rel => exact ⟨k + 1, by omega, by go_num, q + nq, rfl⟩
                  case measure => simp [intOf]; omega
                · obtain ⟨j, hj⟩ : ∃ j, k = n + j := ⟨k - n, by omega⟩
                  obtain ⟨z, hz⟩ : ∃ z, lb[j]? = some z := ⟨lb[j]'(by rw [HNB.out]; omega), List.getElem?_eq_getElem _⟩
                  have hz2 := ((HCAT.out k).2.2 (by omega))
                  rw [show k + 1 - (n + 1) = j from by omega, hz] at hz2
                  obtain ⟨gb', ob', eb, _, hcb⟩ := str_at sb.out hz
                  obtain ⟨gc', oc', ec, _, hcc⟩ := str_at sc.out hz2
                  simp only [Option.some.injEq, Addr.mk.injEq, and_true] at eb ec
                  obtain ⟨rfl, rfl⟩ := eb
                  obtain ⟨rfl, rfl⟩ := ec
                  have v2 : decide (k < n) = false := by simp; omega
                  have v3 : decide (n < k) = true := by simp; omega
                  have v5 : (0 : Int) ≤ (j : Int) := by omega
                  have v6 : (j : Int) < (nb : Int) := by omega
                  have v7 : IntKind.i64.wrap ((k : Int) - (n : Int)) = (j : Int) := (IntWalk.i64_in _ (by omega)).trans (by omega)
                  clear hz hz2 hj
                  go_wp2
                  go_quiet (fail)
                  go_wp2
                  go_roundw
                  case rel => exact ⟨k + 1, by omega, by go_num, q + nq, rfl⟩
                  case measure => simp [intOf]; omega
              · go_wp2
                go_ret
                exact ⟨rfl, below_more hB6 _⟩

theorem own : ownKnob Try.prog.godebug = none := by kernel_rfl
theorem laidOut : laidOutB Try.prog = true := by kernel_rfl

set_option linter.unusedVariables false in
set_option maxRecDepth 100000 in
theorem lifted (os : Os) (started : os.Started) (H : Type) (enc : TypeId × Value → H) :
    ReturnsInHanded {} Try.checked os 9 .any (Rows.fnTextCatSpec.pre6 enc Try.prog Try.f9 Rows.fnTextCatRow.domain false) (Rows.fnTextCatSpec.post enc Try.prog Try.f9 false true false false) := by
  refine returnsInHanded_of_change (C := Try.checked) own started (by kernel_rfl) Try.func9
    (ChangeSpec.witness6 (enc := enc) (C := Try.checked) false ⟨#[], #[.slice none 0 0, .slice none 0 0], []⟩ 8 (by kernel_rfl) (by kernel_rfl) (by kernel_rfl) (by kernel_rfl)) ?_
  intro W base args ds gs before hval0 hW hcnd _
  have hval : ∀ (j : Nat) t v, Try.f9.params[j]? = some t → args[j]? = some v → Value.okWide Try.prog W .any base t v := hval0
  have hW' := hW
  obtain ⟨p, q, hA0, hV, rfl, hfz, hnd⟩ := hW
  have hA : DataW.TrodAll enc Try.prog W 0 (fun _ => true) true Try.f9.params.toList args.toList ds p := hA0
  rw [Try.params9] at hA hval
  obtain ⟨v0, vs0, d0, ds0, p0, q0, hargs, rfl, rfl, h0, r0⟩ := trodAll_cons hA
  obtain ⟨v1, vs1, d1, ds1, p1, q1, rfl, rfl, rfl, h1, r1⟩ := trodAll_cons r0
  obtain ⟨rfl, rfl, rfl⟩ := trodAll_nil r1
  obtain rfl : args = #[v0, v1] := by cases args; simp_all
  obtain ⟨rfl, rfl⟩ := trodVars_none hV
  have k0 := h0
  have lt0 : ∀ x ∈ p0, x.block < W.heap.size := by obtain ⟨m, hm⟩ := k0; exact DataW.trod_lt m _ _ _ hm
  have k1 := h1
  have lt1 : ∀ x ∈ p1, x.block < W.heap.size := by obtain ⟨m, hm⟩ := k1; exact DataW.trod_lt m _ _ _ hm
  obtain ⟨a0, len0, cap0, e0⟩ := okWide_slice Try.underlying22 (hval 0 22 v0 rfl rfl)
  subst e0
  have w0 : InCode W a0 len0 cap0 := by
    obtain ⟨fuel, hf⟩ := h0
    rcases open_ints Try.underlying22 Try.underlying5 (by kernel_rfl) hf with ⟨hcs, _⟩ | ⟨x, l, c, zs, hcs, _, hl, hm, hz, _, hcell, hwz⟩
    · simp [Value.cells] at hcs
      obtain ⟨rfl, rfl, rfl⟩ := hcs
      exact inCode_nil W
    · simp [Value.cells] at hcs
      obtain ⟨rfl, rfl, rfl⟩ := hcs
      exact inCode_of hl hm (by simpa using hz) hcell hwz
  obtain ⟨a1, len1, cap1, e1⟩ := okWide_slice Try.underlying22 (hval 1 22 v1 rfl rfl)
  subst e1
  have w1 : InCode W a1 len1 cap1 := by
    obtain ⟨fuel, hf⟩ := h1
    rcases open_ints Try.underlying22 Try.underlying5 (by kernel_rfl) hf with ⟨hcs, _⟩ | ⟨x, l, c, zs, hcs, _, hl, hm, hz, _, hcell, hwz⟩
    · simp [Value.cells] at hcs
      obtain ⟨rfl, rfl, rfl⟩ := hcs
      exact inCode_nil W
    · simp [Value.cells] at hcs
      obtain ⟨rfl, rfl, rfl⟩ := hcs
      exact inCode_of hl hm (by simpa using hz) hcell hwz
  clear hA0 hval0
  refine (walk a0 len0 cap0 a1 len1 cap1 W w0 w1).mono fun e W' ⟨he, bel⟩ => ?_
  subst he
  exact ⟨_, rfl, _, _, _, [], _, [], hW', trodAll_mk1 (shut_bool Try.underlying4 _), (trodAll_cons_mk (Below.trod laidOut (by kernel_rfl) (of_decide_eq_true (by kernel_rfl)) k0 bel lt0) (trodAll_cons_mk (Below.trod laidOut (by kernel_rfl) (of_decide_eq_true (by kernel_rfl)) k1 bel lt1) trodAll_mk0)), rfl, bel.frame _, fun h => by cases h⟩

theorem over : Rows.fnTextCatRow.holds Try.pinned (OpenSpec.ofChange Rows.fnTextCatSpec) :=
  OpenClaim.holds_of_wide 9 Try.f9 rfl rfl rfl rfl rfl rfl rfl ⟨rfl, rfl, rfl, rfl, rfl⟩ rfl rfl rfl rfl rfl (by kernel_rfl) Try.func9 (by kernel_rfl)
    (of_decide_eq_true (by kernel_rfl)) (by unfold Func.isWrapper; first | (rw [if_pos (by decide +kernel)]; kernel_rfl) | (rw [if_neg (by decide +kernel)]; exact ⟨rfl, rfl⟩))
    (fun os started H enc _ => lifted os started H enc)
end Go.Proofs.Ytnpcohbbjfjjaaa.fnTextCat
namespace Go.Proofs.Ytnpcohbbjfjjaaa

/-- The given statement. -/
theorem fnTextCat_proved : Rows.FnTextCatSaid := fnTextCat.over
#print axioms fnTextCat_proved
end Go.Proofs.Ytnpcohbbjfjjaaa
