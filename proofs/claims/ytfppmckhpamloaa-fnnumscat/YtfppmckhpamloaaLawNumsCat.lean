/-
  'laws.FnNumsCat' returns true at every pair of codes: the letters of numbers behind those of others are those of both; cut in the middle of a number they are not read.
  Conditions: none; every []byte, twice.
-/
import Derived.Test.YtfppmckhpamloaaNumsRead
import Derived.Test.YtfppmckhpamloaaNumDraw
import Derived.Test.YtfppmckhpamloaaRows
import Derived.WalkKit
import Derived.ProofKit
import Derived.OpenShut
import Derived.ShutString
import Derived.ChangeOld
import Derived.Below
import Derived.Lib.SmallJoins
import Derived.SliceStrings
namespace Go.Proofs.Ytfppmckhpamloaa.fnNumsCat
open Go.ChangeShapes Go.WideShapes Go.ChangeAt Go.RowKit Go.Joins
open Go.ChangeMaps (open_string shut_string)

theorem numsT_size (zs : List Int) : (numsT zs).size ≤ 6 * zs.length := by
  unfold numsT
  split
  · have := catL_length zs
    simpa [ByteArray.size] using this
  · exact Nat.zero_le _
theorem L_nums {zs : List Int} (h : allIn zs = true) : L (numsT zs) = catL zs := by rw [numsT_in h]; simp [L]
theorem L_app (a b : ByteArray) : L (a ++ b) = L a ++ L b := by simp [L]
theorem L_inj {a b : ByteArray} (h : L a = L b) : a = b := ByteArray.ext (Array.toList_inj.1 h)
theorem nums_full {zs : List Int} (h : (numsT zs).toList.isEmpty = false) : allIn zs = true ∧ zs ≠ [] := by
  rw [Lib.toList_data] at h
  cases hin : allIn zs
  · rw [numsT_out hin] at h
    have h2 : ByteArray.empty.data.toList.isEmpty = true := rfl
    rw [h2] at h
    exact Bool.noConfusion h
  · refine ⟨rfl, fun e => ?_⟩
    subst e
    rw [numsT_in hin] at h
    simp [catL] at h
theorem nums_app {a b : List Int} (ha : allIn a = true) (hb : allIn b = true) : numsT (a ++ b) = numsT a ++ numsT b := by
  apply L_inj
  rw [L_app, L_nums ha, L_nums hb, L_nums (by rw [allIn_append, ha, hb]; rfl), catL_append]
theorem nums_both {a b : List Int} (ha : allIn a = true) (hb : allIn b = true) : numsR (numsT a ++ numsT b) = some (a ++ b) := by
  refine numsR_yes ⟨by rw [allIn_append, ha, hb]; rfl, ?_⟩
  rw [L_app, L_nums ha, L_nums hb, catL_append]
theorem digs_front (n : Nat) : ∀ c ∈ (digs n).dropLast, 16 ≤ digU c := by
  induction n using digs.induct with
  | case1 n h => rw [digs_small h]; intro c hc; simp at hc
  | case2 n h ih =>
    rw [digs_big h, List.dropLast_cons_of_ne_nil (digs_ne _)]
    intro c hc
    rcases List.mem_cons.1 hc with h1 | h1
    · rw [h1, digU_letU _ (by omega)]; omega
    · exact ih c h1
/-- Cut in the middle of the last number letters are not read; cut ahead of it they are. -/
theorem nums_torn {a b : List Int} {z : Int} (ha : allIn a = true) (hb : allIn (b ++ [z]) = true) :
    (numsR (numsT a ++ (numsT (b ++ [z])).extract 0 ((numsT (b ++ [z])).size - 1))).isSome = (((numT z).size : Int) == 1) := by
  have hbz := hb
  rw [allIn_append, Bool.and_eq_true] at hb
  obtain ⟨hb1, hz1⟩ := hb
  have hz : inB z = true := by simpa [allIn] using hz1
  have hab : allIn (a ++ b) = true := by rw [allIn_append, ha, hb1]; rfl
  have hl : L (numsT a ++ (numsT (b ++ [z])).extract 0 ((numsT (b ++ [z])).size - 1)) = catL (a ++ b) ++ (numL z).dropLast := by
    rw [L_app, L_extract, List.drop_zero, L_nums ha, L_nums hbz, ← L_length, L_nums hbz, ← List.dropLast_eq_take, catL_append, catL_append, catL_one, List.dropLast_append_of_ne_nil (numL_ne hz), List.append_assoc]
  generalize numsT a ++ (numsT (b ++ [z])).extract 0 ((numsT (b ++ [z])).size - 1) = s at *
  have hn := numL_in hz
  have hsz := numT_size z
  by_cases h1 : (numL z).length = 1
  · have hd : (numL z).dropLast = [] := List.eq_nil_of_length_eq_zero (by rw [List.length_dropLast]; omega)
    rw [hd, List.append_nil] at hl
    rw [numsR_yes (s := s) (zs := a ++ b) ⟨hab, hl.symm⟩, hsz, h1]
    rfl
  · have hp : 0 < (numL z).length := List.length_pos_iff.2 (numL_ne hz)
    have hq : (((numT z).size : Int) == 1) = false := beq_eq_false_iff_ne.2 (by rw [hsz]; omega)
    rw [hq]
    have hs : s.size = (catL (a ++ b)).length + ((numL z).length - 1) := by rw [← L_length, hl, List.length_append, List.length_dropLast]
    have hfar : Far s (catL (a ++ b)).length (a ++ b) := ⟨by omega, hab, by rw [hl, List.take_left]⟩
    have hdrop : (L s).drop (catL (a ++ b)).length = (numL z).dropLast := by rw [hl, List.drop_left]
    have hus : US ((numL z).dropLast) ((numL z).dropLast).length := ⟨Nat.le_refl _, fun c hc => by
      rw [hn] at hc
      exact digs_front _ c (List.mem_of_mem_take hc)⟩
    have hnone : rdN ((L s).drop (catL (a ++ b)).length) = none := by rw [hdrop]; exact rdN_none (hus.ended (Nat.le_refl _))
    rcases hfar.step (by omega) with ⟨m, k, hr, _⟩ | ⟨_, hno⟩
    · rw [numR_none hnone] at hr
      have := congrArg Prod.snd hr
      simp at this
      omega
    · rw [hno]; rfl

theorem src_new {w : World} {tmp : Obj} {g off : Nat} {xs : List Value} (hg : g < w.heap.size) (hc : ∀ j u, xs[j]? = some u → w.cell? ⟨g, off + j, none⟩ = some u) (j : Nat) (u : Value) (hj : xs[j]? = some u) : (w.alloc tmp).cell? ((⟨g, off, none⟩ : Addr).add j) = some u := by
  rw [Go.WideShapes.add_plain]
  exact (World.cell?_alloc_lt w _ ⟨g, off + j, none⟩ hg).trans (hc j u hj)
theorem src_kept {w w' : World} {tmp : Obj} {g off : Nat} {xs : List Value} (hgrow : (w.alloc tmp).grownBy w' (some w.heap.size)) (hg : g < w.heap.size) (hc : ∀ j u, xs[j]? = some u → w.cell? ⟨g, off + j, none⟩ = some u) (j : Nat) (u : Value) (hj : xs[j]? = some u) : w'.cell? ((⟨g, off, none⟩ : Addr).add j) = some u := by
  have h1 := src_new (tmp := tmp) hg hc j u hj
  rw [Go.WideShapes.add_plain] at h1 ⊢
  exact (grown_cell hgrow (p := ⟨g, off + j, none⟩) (by show g < _; simp; omega) (by show g ≠ _; omega)).trans h1
theorem ints_one (xs : List Int) : ∀ u ∈ xs.map intV, u.oneCell' = true := by
  intro u hu
  obtain ⟨z, _, rfl⟩ := List.mem_map.1 hu
  rfl
theorem two_below {w w1 w2 : World} {tmp : Obj} {v : Value} {t : TypeId} {n : Nat} {xs : List Value} (h1 : (w.alloc tmp).grownBy w1 (some w.heap.size)) (ho : w1.ownsRow w.heap.size t 1 v n xs) (h2 : w1.grownBy w2 v.ownBlock) : Below w.heap.size w w2 :=
  ((((Below.refl _ w).alloc (Nat.le_refl _) tmp).grown h1 (by simp) (fun k hk => by cases hk; exact Nat.le_refl _)).grown h2 (by have := h1.size; simp at this; omega) (fun k hk => (ho.lt k hk).1))

set_option maxRecDepth 100000 in
set_option maxHeartbeats 4000000 in
theorem walk (A : Option Addr) (len cap : Nat) (A' : Option Addr) (len' cap' : Nat) (w : World) (h : InCode w A len cap) (h' : InCode w A' len' cap') :
    Calls Try.prog 7 #[.slice A len cap, .slice A' len' cap'] w fun e w' => e = .returned (.bool true) ∧ Below w.heap.size w w' := by
  by_cases hl : 1048576 < len
  · have q1 : decide ((1048576 : Int) < (len : Int)) = true := by simp; omega
    clear h h'
    go_enter Try.func7, Try.ntmps7
    go_wp2_with fail
    go_ret
    exact ⟨rfl, Below.refl _ _⟩
  · have q1 : decide ((1048576 : Int) < (len : Int)) = false := by simp; omega
    by_cases hl' : 1048576 < len'
    · have q2 : decide ((1048576 : Int) < (len' : Int)) = true := by simp; omega
      clear h h'
      go_enter Try.func7, Try.ntmps7
      go_wp2_with fail
      go_ret
      exact ⟨rfl, Below.refl _ _⟩
    · have q2 : decide ((1048576 : Int) < (len' : Int)) = false := by simp; omega
      obtain ⟨i0, hi, hz0, hz1, hz2⟩ := info_parts infoInt
      have HC := Lib.hid h'
      have HD := Lib.hid (drawNumsText_any A len cap w h)
      clear h h'
      go_enter Try.func7, Try.ntmps7
      go_wp2_with fail
      refine HD.out.mono ?_
      clear HD
      rintro e w1 ⟨v, xs, hxl, _, rfl, hv, hb1⟩
      obtain ⟨B, c, rfl, _⟩ := own_slice hv
      have HB := Lib.hid (SlIs.own hv)
      clear hv
      go_wp2_with fail
      refine (drawNumsText_any A' len' cap' w1 (HC.out.below hb1)).mono ?_
      rintro e w2 ⟨v, ys, hyl, _, rfl, hv, hb2⟩
      obtain ⟨D, d, rfl, _⟩ := own_slice hv
      have HD := Lib.hid (SlIs.own hv)
      clear hv
      have hB2 := hb1.trans (hb2.mono hb1.size)
      have hns := numsT_size xs
      have hnt := numsT_size ys
      go_wp2_with fail
      refine (numsText_any B c xs w2 (by omega) (HB.out.below hb2)).mono ?_
      rintro e w3 ⟨rfl, hb3⟩
      have hB3 := hB2.trans (hb3.mono hB2.size)
      have hb13 := hb2.trans (hb3.mono hb2.size)
      go_wp2_with fail
      refine (numsText_any D d ys w3 (by omega) (HD.out.below hb3)).mono ?_
      rintro e w4 ⟨rfl, hb4⟩
      have hB4 := hB3.trans (hb4.mono hB3.size)
      have hb14 := hb13.trans (hb4.mono hb13.size)
      have hb24 := hb3.trans (hb4.mono hb3.size)
      have HB4 := Lib.hid (HB.out.below hb14)
      have HD4 := Lib.hid (HD.out.below hb24)
      have HSp := Lib.hid (fun W hb => specNumsText_any B c xs W (by omega) (HB4.out.below hb))
      clear HB HD hb1 hb2 hb3 hb4 hb13 hb14 hb24 hB2 hB3
      have qs : (!(numsT xs).toList == (numsT xs).toList) = false := by simp
      have qs2 : ((numsT xs).toList == (numsT xs).toList) = true := by simp
      cases he : (numsT xs).toList.isEmpty
      · cases he2 : (numsT ys).toList.isEmpty
        · obtain ⟨ha, hxn⟩ := nums_full he
          obtain ⟨hb, hyn⟩ := nums_full he2
          have HBO := Lib.hid (nums_both ha hb)
          have HAP := Lib.hid (nums_app ha hb)
          obtain ⟨yt, z, rfl⟩ : ∃ yt z, ys = yt ++ [z] := ⟨ys.dropLast, ys.getLast hyn, (List.dropLast_concat_getLast hyn).symm⟩
          have HTO := Lib.hid (nums_torn ha hb)
          have HRD := Lib.hid (fun W => numsRead_any (numsT xs ++ numsT (yt ++ [z])) W (by rw [ByteArray.size_append]; omega))
          have HRT := Lib.hid (fun W => numsRead_any (numsT xs ++ (numsT (yt ++ [z])).extract 0 ((numsT (yt ++ [z])).size - 1)) W (by rw [ByteArray.size_append, ByteArray.size_extract]; omega))
          unfold ReadsAll at HRD HRT
          rw [HBO.out] at HRD
          rw [HTO.out] at HRT
          simp only [Option.getD_some, Option.isSome_some] at HRD
          generalize (numsR (numsT xs ++ (numsT (yt ++ [z])).extract 0 ((numsT (yt ++ [z])).size - 1))).getD [] = us at *
          have HNT := Lib.hid (fun E ce W h => numsText_any E ce (xs ++ (yt ++ [z])) W (by rw [List.length_append]; omega) h)
          rw [HAP.out, List.length_append] at HNT
          have HLT := Lib.hid (fun W => numText_any z W)
          have hzs : (numT z).size ≤ 6 := by rw [numT_size]; exact numL_length z
          clear HBO HAP HTO
          have hxp : 0 < xs.length := List.length_pos_iff.2 hxn
          have hsz : 1 ≤ (numsT (yt ++ [z])).size := by
            rw [Lib.toList_data] at he2
            rcases Nat.eq_zero_or_pos (numsT (yt ++ [z])).size with h | h
            · rw [Lib.size_eq] at h
              rw [List.eq_nil_of_length_eq_zero h] at he2
              simp at he2
            · exact h
          have hyl2 : (yt ++ [z]).length = yt.length + 1 := by simp
          clear ha hb hxn hyn
          obtain ⟨g, off, rfl, hg, hcz⟩ := HD4.out.at_ (k := yt.length) (by simp)
          simp only [List.getElem_map, intV] at hcz
          rw [List.getElem_append_right (Nat.le_refl _)] at hcz
          simp only [Nat.sub_self, List.getElem_cons_zero] at hcz
          have HY := Lib.hid (show ∀ j u, ((yt ++ [z]).map intV)[j]? = some u → w4.cell? ⟨g, off + j, none⟩ = some u by
            rcases HD4.out with h0 | ⟨g', off', e', _, hc⟩
            · simp at h0
            · cases e'; exact hc)
          obtain ⟨g2, off2, rfl, hg2, hX0⟩ : ∃ g2 off2, B = some ⟨g2, off2, none⟩ ∧ g2 < w4.heap.size ∧ ∀ j u, (xs.map intV)[j]? = some u → w4.cell? ⟨g2, off2 + j, none⟩ = some u := by
            rcases HB4.out with h0 | h0
            · have : xs = [] := by simpa using h0
              subst this; simp at hxp
            · exact h0
          have HX := Lib.hid hX0
          clear hX0
          have HL2 := Lib.hid hyl2
          generalize hys : (yt ++ [z]) = ys at *
          have HYS := Lib.hid hys
          clear hys hyl2
          have HCZ := Lib.hid hcz
          clear hcz
          generalize numT z = lz at *
          generalize numsT xs = s at *
          generalize numsT ys = t at *
          go_wp2_with fail
          refine (HSp.out w4 (Below.refl _ _)).mono ?_
          rintro e w' ⟨rfl, rfl⟩
          have hyp : 0 < ys.length := by rw [HL2.out]; omega
          go_wp2_with (first | (at_builtin; refine wpList_append_own _ rfl _ _ 31 rfl w4.heap.size 3 i0 (.int .i64 0) 1 8 Try.underlying31 hi hz0 hz1 hz2 rfl (by decide) _ _ _ rfl (ownsRow_empty w4 3) ⟨g2, off2, none⟩ xs.length c (xs.map intV) rfl (by simp) (src_new hg2 HX.out) (ints_one xs) (by unfold maxLen; omega) (by omega) (by simp) ?_; intro v1 w5 hown1 hgrow1 _) | (at_builtin; refine wpList_append_own _ rfl _ _ 31 rfl w4.heap.size 3 i0 (.int .i64 0) 1 8 Try.underlying31 hi hz0 hz1 hz2 rfl (by decide) _ _ _ rfl hown1 ⟨g, off, none⟩ ys.length d (ys.map intV) rfl (by simp) (src_kept hgrow1 hg HY.out) (ints_one ys) (by unfold maxLen; omega) (by omega) (by have := hgrow1.size; simp at this; omega) ?_; intro v2 w6 hown2 hgrow2 _; rw [List.nil_append, ← List.map_append, Nat.zero_add, ← List.length_append] at hown2; obtain ⟨E, ce, rfl, _⟩ := own_slice hown2))
          have hb46 : Below w4.heap.size w4 w6 := two_below hgrow1 hown1 hgrow2
          have hB6 := hB4.trans (hb46.mono hB4.size)
          have HE := Lib.hid (SlIs.own hown2)
          clear hown1 hown2 hgrow1 hgrow2
          refine (HRD.out w6).mono ?_
          rintro e w7 ⟨v, rfl, hv, hb7⟩
          have hB7 := hB6.trans (hb7.mono hB6.size)
          have hb47 := hb46.trans (hb7.mono hb46.size)
          obtain ⟨X, cx, rfl, _⟩ := own_slice hv
          clear hv
          have ql : (((xs.length : Int) + (ys.length : Int)) != ((xs.length : Int) + (ys.length : Int))) = false := by simp
          have qst : (!(s ++ t).toList == (s ++ t).toList) = false := by simp
          go_wp2_with fail
          refine (HNT.out E ce w7 (HE.out.below hb7)).mono ?_
          rintro e w8 ⟨rfl, hb8⟩
          have hB8 := hB7.trans (hb8.mono hB7.size)
          have hb48 := hb47.trans (hb8.mono hb47.size)
          have hcz8 : w8.cell? ⟨g, off + (ys.length - 1), none⟩ = some (.int .i64 z) := by
            rw [show ys.length - 1 = yt.length by have := HL2.out; omega]
            exact (hb48.cell (p := ⟨g, off + yt.length, none⟩) hg).trans HCZ.out
          go_wp2_with fail
          refine (HLT.out w8).mono ?_
          rintro e w9 ⟨rfl, hb9⟩
          have hB9 := hB8.trans (hb9.mono hB8.size)
          go_wp2_with fail
          refine (HRT.out w9).mono ?_
          rintro e w10 ⟨v, rfl, hv, hb10⟩
          obtain ⟨X2, cx2, rfl, _⟩ := own_slice hv
          clear hv
          have qz : (((lz.size : Int) == 1) == ((lz.size : Int) == 1)) = true := by simp
          go_wp2_with fail
          go_ret
          exact ⟨rfl, hB9.trans (hb10.mono hB9.size)⟩
        · generalize numsT xs = s at *
          generalize numsT ys = t at *
          go_wp2_with fail
          refine (HSp.out w4 (Below.refl _ _)).mono ?_
          rintro e w' ⟨rfl, rfl⟩
          go_wp2_with fail
          refine (HSp.out w4 (Below.refl _ _)).mono ?_
          rintro e w' ⟨rfl, rfl⟩
          go_wp2_with fail
          go_ret
          exact ⟨rfl, hB4⟩
      · generalize numsT xs = s at *
        generalize numsT ys = t at *
        go_wp2_with fail
        refine (HSp.out w4 (Below.refl _ _)).mono ?_
        rintro e w' ⟨rfl, rfl⟩
        go_wp2_with fail
        refine (HSp.out w4 (Below.refl _ _)).mono ?_
        rintro e w' ⟨rfl, rfl⟩
        go_wp2_with fail
        go_ret
        exact ⟨rfl, hB4⟩

theorem own : ownKnob Try.prog.godebug = none := by kernel_rfl
theorem laidOut : laidOutB Try.prog = true := by kernel_rfl

set_option linter.unusedVariables false in
set_option maxRecDepth 100000 in
theorem lifted (os : Os) (started : os.Started) (H : Type) (enc : TypeId × Value → H) :
    ReturnsInHanded {} Try.checked os 7 .any (Rows.fnNumsCatSpec.pre6 enc Try.prog Try.f7 Rows.fnNumsCatRow.domain false) (Rows.fnNumsCatSpec.post enc Try.prog Try.f7 false true false false) := by
  refine returnsInHanded_of_change (C := Try.checked) own started (by kernel_rfl) Try.func7
    (ChangeSpec.witness6 (enc := enc) (C := Try.checked) false ⟨#[], #[.slice none 0 0, .slice none 0 0], []⟩ 8 (by kernel_rfl) (by kernel_rfl) (by kernel_rfl) (by kernel_rfl)) ?_
  intro W base args ds gs before hval0 hW hcnd _
  have hval : ∀ (j : Nat) t v, Try.f7.params[j]? = some t → args[j]? = some v → Value.okWide Try.prog W .any base t v := hval0
  have hW' := hW
  obtain ⟨p, q, hA0, hV, rfl, hfz, hnd⟩ := hW
  have hA : DataW.TrodAll enc Try.prog W 0 (fun _ => true) true Try.f7.params.toList args.toList ds p := hA0
  rw [Try.params7] at hA hval
  obtain ⟨v0, vs0, d0, ds0, p0, q0, hargs, rfl, rfl, h0, r0⟩ := trodAll_cons hA
  obtain ⟨v1, vs1, d1, ds1, p1, q1, rfl, rfl, rfl, h1, r1⟩ := trodAll_cons r0
  obtain ⟨rfl, rfl, rfl⟩ := trodAll_nil r1
  obtain rfl : args = #[v0, v1] := by cases args; simp_all
  obtain ⟨rfl, rfl⟩ := trodVars_none hV
  have k0 := h0
  have lt0 : ∀ x ∈ p0, x.block < W.heap.size := by obtain ⟨m, hm⟩ := k0; exact DataW.trod_lt m _ _ _ hm
  have k1 := h1
  have lt1 : ∀ x ∈ p1, x.block < W.heap.size := by obtain ⟨m, hm⟩ := k1; exact DataW.trod_lt m _ _ _ hm
  obtain ⟨a0, len0, cap0, e0⟩ := okWide_slice Try.underlying22 (hval 0 22 v0 rfl rfl)
  subst e0
  have w0 : InCode W a0 len0 cap0 := by
    obtain ⟨fuel, hf⟩ := h0
    rcases open_ints Try.underlying22 Try.underlying5 (by kernel_rfl) hf with ⟨hcs, _⟩ | ⟨x, l, c, zs, hcs, _, hl, hm, hz, _, hcell, hwz⟩
    · simp [Value.cells] at hcs
      obtain ⟨rfl, rfl, rfl⟩ := hcs
      exact inCode_nil W
    · simp [Value.cells] at hcs
      obtain ⟨rfl, rfl, rfl⟩ := hcs
      exact inCode_of hl hm (by simpa using hz) hcell hwz
  obtain ⟨a1, len1, cap1, e1⟩ := okWide_slice Try.underlying22 (hval 1 22 v1 rfl rfl)
  subst e1
  have w1 : InCode W a1 len1 cap1 := by
    obtain ⟨fuel, hf⟩ := h1
    rcases open_ints Try.underlying22 Try.underlying5 (by kernel_rfl) hf with ⟨hcs, _⟩ | ⟨x, l, c, zs, hcs, _, hl, hm, hz, _, hcell, hwz⟩
    · simp [Value.cells] at hcs
      obtain ⟨rfl, rfl, rfl⟩ := hcs
      exact inCode_nil W
    · simp [Value.cells] at hcs
      obtain ⟨rfl, rfl, rfl⟩ := hcs
      exact inCode_of hl hm (by simpa using hz) hcell hwz
  clear hA0 hval0
  refine (walk a0 len0 cap0 a1 len1 cap1 W w0 w1).mono fun e W' ⟨he, bel⟩ => ?_
  subst he
  exact ⟨_, rfl, _, _, _, [], _, [], hW', trodAll_mk1 (shut_bool Try.underlying4 _), (trodAll_cons_mk (Below.trod laidOut (by kernel_rfl) (of_decide_eq_true (by kernel_rfl)) k0 bel lt0) (trodAll_cons_mk (Below.trod laidOut (by kernel_rfl) (of_decide_eq_true (by kernel_rfl)) k1 bel lt1) trodAll_mk0)), rfl, bel.frame _, fun h => by cases h⟩

theorem over : Rows.fnNumsCatRow.holds Try.pinned (OpenSpec.ofChange Rows.fnNumsCatSpec) :=
  OpenClaim.holds_of_wide 7 Try.f7 rfl rfl rfl rfl rfl rfl rfl ⟨rfl, rfl, rfl, rfl, rfl⟩ rfl rfl rfl rfl rfl (by kernel_rfl) Try.func7 (by kernel_rfl)
    (of_decide_eq_true (by kernel_rfl)) (by unfold Func.isWrapper; first | (rw [if_pos (by decide +kernel)]; kernel_rfl) | (rw [if_neg (by decide +kernel)]; exact ⟨rfl, rfl⟩))
    (fun os started H enc _ => lifted os started H enc)
end Go.Proofs.Ytfppmckhpamloaa.fnNumsCat
namespace Go.Proofs.Ytfppmckhpamloaa

/-- The given statement. -/
theorem fnNumsCat_proved : Rows.FnNumsCatSaid := fnNumsCat.over
#print axioms fnNumsCat_proved
end Go.Proofs.Ytfppmckhpamloaa
