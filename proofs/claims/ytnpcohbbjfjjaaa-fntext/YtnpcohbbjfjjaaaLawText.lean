/-
  'laws.FnText' returns true at every two codes: the lines of a drawn text, joined, are the text; drawn lines joined are cut into the same lines.
  Conditions: none; every two slices of bytes.
-/
import Derived.Test.YtnpcohbbjfjjaaaDraws
import Derived.Test.YtnpcohbbjfjjaaaLineTexts
import Derived.Test.YtnpcohbbjfjjaaaJoinText
import Derived.Test.YtnpcohbbjfjjaaaRows
import Derived.WalkKit
import Derived.ProofKit
import Derived.OpenShut
import Derived.ShutString
import Derived.ChangeOld
import Derived.Below
import Derived.Lib.SmallJoins
import Derived.SliceStrings
import Derived.Deep.QuietTactic
import Derived.BigQuiet
namespace Go.Proofs.Ytnpcohbbjfjjaaa.fnText
open Go.ChangeShapes Go.WideShapes Go.ChangeAt Go.RowKit Go.Joins
open Go.ChangeMaps (open_string shut_string)

theorem own_form {w : World} {base : Nat} {e : TypeId} {v : Value} {n : Nat} {xs : List Value} (h : w.ownsRow base e 1 v n xs) : ∃ A c, v = .slice A n c ∧ n ≤ c := by
  rcases h.2 with ⟨rfl, rfl⟩ | ⟨g, cap, _, rfl, _, _, hc, _⟩
  · exact ⟨none, 0, rfl, Nat.le_refl _⟩
  · exact ⟨_, cap, rfl, hc⟩

theorem tot_le (ss : List ByteArray) (K : Nat) (h : ∀ x ∈ ss, x.size ≤ K) : tot ss ≤ ss.length * (K + 1) := by
  unfold tot
  induction ss with
  | nil => simp
  | cons x xs ih =>
    have h1 := h x (by simp)
    have h2 := ih (fun y hy => h y (by simp [hy]))
    simp only [List.map_cons, List.sum_cons, List.length_cons]
    rw [Nat.add_mul]
    omega

theorem intercalate_cons (sep x : List UInt8) (xs : List (List UInt8)) (h : xs ≠ []) : sep.intercalate (x :: xs) = x ++ sep ++ sep.intercalate xs := by
  cases xs with
  | nil => exact absurd rfl h
  | cons y ys => simp [List.intercalate, List.intersperse, List.append_assoc]

theorem join_split (l : List UInt8) : [10].intercalate (split l) = l := by
  induction l with
  | nil => simp [split, List.intercalate]
  | cons c l ih =>
    by_cases h : c = 10
    · simp only [split, h, if_true]
      rw [intercalate_cons _ _ _ (split_ne l), ih]; simp
    · simp only [split, h, if_false]
      cases hs : split l with
      | nil => exact absurd hs (split_ne l)
      | cons x xs =>
        rw [hs] at ih
        simp only
        cases xs with
        | nil => simp [List.intercalate] at ih ⊢; exact ih
        | cons y ys =>
          rw [intercalate_cons _ _ _ (by simp)] at ih ⊢
          simp only [List.cons_append, ih]

theorem split_plain (l : List UInt8) (h : ∀ c ∈ l, c ≠ 10) (m : List UInt8) : split (l ++ m) = match split m with
    | [] => []
    | x :: xs => (l ++ x) :: xs := by
  induction l with
  | nil => cases hs : split m with
    | nil => exact absurd hs (split_ne m)
    | cons x xs => simp [hs]
  | cons c l ih =>
    have h1 := h c (by simp)
    have h2 := ih (fun d hd => h d (by simp [hd]))
    simp only [List.cons_append, split, h1, if_false, h2]
    cases hs : split m with
    | nil => exact absurd hs (split_ne m)
    | cons x xs => simp

theorem split_join (xs : List (List UInt8)) (hne : xs ≠ []) (h : ∀ l ∈ xs, ∀ c ∈ l, c ≠ 10) : split ([10].intercalate xs) = xs := by
  induction xs with
  | nil => exact absurd rfl hne
  | cons x xs ih =>
    have h1 := h x (by simp)
    cases xs with
    | nil =>
      have := split_plain x h1 []
      simp [split] at this
      simpa [List.intercalate] using this
    | cons y ys =>
      have h2 := ih (by simp) (fun l hl => h l (by simp [hl]))
      rw [intercalate_cons _ _ _ (by simp), List.append_assoc, split_plain x h1]
      simp only [List.cons_append, List.nil_append, split, if_true, h2, List.append_nil]

theorem L_joinK (ss : List ByteArray) : L (joinK ss ss.length) = [10].intercalate (ss.map L) := by
  have h := joinK_list ss ss.length (Nat.le_refl _)
  rw [List.take_length] at h
  exact h

theorem join_lines (s : ByteArray) : joinK (ltexts s) (ltexts s).length = s := by
  apply L_inj
  rw [L_joinK, ltexts_split, join_split]

theorem plain_ten {l : List UInt8} (h : plainL l = true) : ∀ c ∈ l, c ≠ 10 := by
  intro c hc e
  have := List.all_eq_true.1 h c hc
  rw [e] at this
  exact absurd this (by decide)

theorem map_L_inj {a b : List ByteArray} (h : a.map L = b.map L) : a = b := by
  induction a generalizing b with
  | nil => cases b with
    | nil => rfl
    | cons y ys => simp at h
  | cons x xs ih => cases b with
    | nil => simp at h
    | cons y ys =>
      simp only [List.map_cons, List.cons.injEq] at h
      rw [L_inj h.1, ih h.2]

/-- The lines of lines that were joined. -/
theorem lines_join (ss : List ByteArray) (hne : ss ≠ []) (h : ∀ s ∈ ss, s.size ≤ 12 ∧ plainL (L s) = true) : ltexts (joinK ss ss.length) = ss := by
  apply map_L_inj
  rw [ltexts_split, L_joinK]
  exact split_join _ (by simpa using hne) (fun l hl => by
    obtain ⟨s, hs, rfl⟩ := List.mem_map.1 hl
    exact plain_ten (h s hs).2)

theorem ok_join (ss : List ByteArray) (hne : ss ≠ []) (hl : ss.length ≤ 4) (h : ∀ s ∈ ss, s.size ≤ 12 ∧ plainL (L s) = true) : okB (joinK ss ss.length) = true := by
  have h1 := lines_join ss hne h
  unfold okB
  rw [← lines_ok]
  have hsz : (joinK ss ss.length).size ≤ 52 := by
    have a := joinK_size ss ss.length (Nat.le_refl _)
    rw [List.take_length] at a
    have b := tot_le ss 12 (fun x hx => (h x hx).1)
    have c : ss.length * (12 + 1) ≤ 4 * 13 := Nat.mul_le_mul hl (by omega)
    omega
  have hall : (lines (joinK ss ss.length)).all (fun x => lineOk (L ((joinK ss ss.length).extract x.1 x.2))) = true := by
    rw [List.all_eq_true]
    intro x hx
    have hm : (joinK ss ss.length).extract x.1 x.2 ∈ ltexts (joinK ss ss.length) := List.mem_map.2 ⟨x, hx, rfl⟩
    rw [h1] at hm
    obtain ⟨a, b⟩ := h _ hm
    simp only [lineOk, b, Bool.and_true, decide_eq_true_eq, L_length]
    omega
  rw [hall]
  simp
  omega

theorem ok_empty : okB ByteArray.empty = true := by decide +kernel
theorem lines_empty : ltexts ByteArray.empty = [ByteArray.empty] := by
  apply map_L_inj
  rw [ltexts_split]
  rfl

set_option maxHeartbeats 400000 in
theorem l1One_any (n : Nat) (w : World) :
    Calls Try.prog 31 #[.int .i64 (n : Int)] w fun e w' => e = .returned (.int .i64 ((if n = 0 then 1 else n : Nat) : Int)) ∧ w = w' := by
  by_cases h : n = 0
  · subst h
    go_enter Try.func31, Try.ntmps31
    go_wp2
    go_ret
    exact ⟨rfl, rfl⟩
  · have q : ((n : Int) == 0) = false := by simp; omega
    go_enter Try.func31, Try.ntmps31
    go_wp2
    go_ret
    exact ⟨rfl, rfl⟩

theorem str_at {w : World} {A : Option Addr} {ss : List ByteArray} (h : SlIs w A (ss.map strV)) {i : Nat} {t : ByteArray} (hi : ss[i]? = some t) : ∃ g off, A = some ⟨g, off, none⟩ ∧ g < w.heap.size ∧ w.cell? ⟨g, off + i, none⟩ = some (.string t) := by
  have hl : i < ss.length := (List.getElem?_eq_some_iff.1 hi).1
  obtain ⟨g, off, e, hg, hc⟩ := h.at_ (k := i) (by simpa using hl)
  refine ⟨g, off, e, hg, ?_⟩
  rw [hc]
  simp only [List.getElem_map, (List.getElem?_eq_some_iff.1 hi).2]
  rfl

set_option maxRecDepth 100000 in
set_option maxHeartbeats 4000000 in
theorem walk (A : Option Addr) (len cap : Nat) (A' : Option Addr) (len' cap' : Nat) (w : World) (h1 : InCode w A len cap) (h2 : InCode w A' len' cap') :
    Calls Try.prog 5 #[.slice A len cap, .slice A' len' cap'] w fun e w' => e = .returned (.bool true) ∧ Below w.heap.size w w' := by
  by_cases hl1 : 1048576 < len
  · have q1 : decide ((1048576 : Int) < (len : Int)) = true := by simp; omega
    clear h1 h2
    go_enter Try.func5, Try.ntmps5
    go_wp2_with fail
    go_ret
    exact ⟨rfl, Below.refl _ _⟩
  · have q1 : decide ((1048576 : Int) < (len : Int)) = false := by simp; omega
    by_cases hl2 : 1048576 < len'
    · have q2 : decide ((1048576 : Int) < (len' : Int)) = true := by simp; omega
      clear h1 h2
      go_enter Try.func5, Try.ntmps5
      go_wp2_with fail
      go_ret
      exact ⟨rfl, Below.refl _ _⟩
    · have q2 : decide ((1048576 : Int) < (len' : Int)) = false := by simp; omega
      have H1 := Lib.hid h1
      have H2 := Lib.hid h2
      clear h1 h2
      go_enter Try.func5, Try.ntmps5
      go_wp2_with fail
      refine (drawTextLines_any A len cap w H1.out).mono ?_
      rintro e w1 ⟨s, hs, rfl, hB1⟩
      clear H1
      have hll := lines_length s
      have HI := Lib.hid (fun W => textOk_any s W (by omega))
      have HS := Lib.hid (fun W => specTextOk_any s W (by unfold maxLen; omega))
      go_wp2_with fail
      refine (textLines_any s w1 (by omega)).mono ?_
      rintro e w2 ⟨v, rfl, hv, hb2⟩
      have hB2 : Below w.heap.size w w2 := hB1.trans (hb2.mono hB1.size)
      obtain ⟨Aa, ca, rfl, hca⟩ := own_form hv
      go_wp2_with fail
      refine (specTextLines_any s w2 (by omega)).mono ?_
      rintro e w3 ⟨v, rfl, hv3, hb3⟩
      have hB3 : Below w.heap.size w w3 := hB2.trans (hb3.mono hB2.size)
      obtain ⟨Ab, cb, rfl, _⟩ := own_form hv3
      have sa := (SlIs.own hv).below hb3
      clear hv hv3 hb2 hb3 hB1 hB2
      have hq0 : (((linesV s).length : Int) != ((linesV s).length : Int)) = false := by simp
      cases hok : okB s
      · have hl0 : linesV s = [] := by unfold linesV; rw [hok]; rfl
        rw [hok] at HI HS
        rw [hl0] at hq0 ⊢
        simp only [List.length_nil] at hq0 ⊢
        clear hl0 hok sa hca
        go_wp2_with fail
        refine (HI.out _).mono ?_
        rintro e w4 ⟨rfl, hb4⟩
        have hB4 : Below w.heap.size w w4 := hB3.trans (hb4.mono hB3.size)
        go_wp2_with fail
        refine (HS.out _).mono ?_
        rintro e w' ⟨rfl, rfl⟩
        go_wp2_with fail
        refine (HS.out _).mono ?_
        rintro e w' ⟨rfl, rfl⟩
        go_wp2_with fail
        go_ret
        exact ⟨rfl, hB4⟩
      · rw [hok] at HI HS
        rw [linesV_ltexts s hok] at sa hq0 hca ⊢
        simp only [List.length_map] at hq0 hca ⊢
        have SA := Lib.hid sa
        clear hok sa
        have hla : (ltexts s).length ≤ 8001 := by rw [ltexts_length]; omega
        have hta : tot (ltexts s) ≤ 2 ^ 40 := by
          have := tot_le (ltexts s) 8000 (fun x hx => by
            obtain ⟨y, _, rfl⟩ := List.mem_map.1 hx
            simp; omega)
          have h2 : (ltexts s).length * (8000 + 1) ≤ 8001 * 8001 := Nat.mul_le_mul hla (by omega)
          omega
        have HJS := Lib.hid (join_lines s)
        generalize ltexts s = la at *
        go_wp2_with fail
        refine (HI.out _).mono ?_
        rintro e w4 ⟨rfl, hb4⟩
        have hB4 : Below w.heap.size w w4 := hB3.trans (hb4.mono hB3.size)
        go_wp2_with fail
        refine (HS.out _).mono ?_
        rintro e w' ⟨rfl, rfl⟩
        go_wp2_with fail
        refine (HS.out _).mono ?_
        rintro e w' ⟨rfl, rfl⟩
        go_wp2_with fail
        refine (drawTextJoin_any A' len' cap' w4 (H2.out.below hB4)).mono ?_
        rintro e w5 ⟨v, ss, hss, hall, rfl, hv5, hb5⟩
        have hB5 : Below w.heap.size w w5 := hB4.trans (hb5.mono hB4.size)
        obtain ⟨Ac, cc, rfl, hcc⟩ := own_form hv5
        have HALL := Lib.hid hall
        have SC := Lib.hid (SlIs.own hv5)
        have SA5 := Lib.hid ((SA.out.below hb4).below hb5)
        clear hall hv5 SA
        have htc : tot ss ≤ 52 := by
          have := tot_le ss 12 (fun x hx => (HALL.out x hx).1)
          have h2 : ss.length * (12 + 1) ≤ 4 * 13 := Nat.mul_le_mul hss (by omega)
          omega
        go_wp2_with fail
        refine (textJoin_any Ac cc ss w5 (by omega) hcc SC.out).mono ?_
        rintro e w6 ⟨rfl, hb6⟩
        have hB6 : Below w.heap.size w w6 := hB5.trans (hb6.mono hB5.size)
        have hjs : (joinK ss ss.length).size ≤ 52 := by
          have a := joinK_size ss ss.length (Nat.le_refl _)
          rw [List.take_length] at a
          omega
        obtain ⟨hjok, lk, hjl, hlk1, hlk2⟩ : okB (joinK ss ss.length) = true ∧ ∃ lk, ltexts (joinK ss ss.length) = lk ∧ lk.length = (if ss.length = 0 then 1 else ss.length) ∧ ∀ i, i < ss.length → lk[i]? = ss[i]? := by
          cases ss with
          | nil => exact ⟨ok_empty, _, lines_empty, rfl, fun i hi => absurd hi (by simp)⟩
          | cons x xs => exact ⟨ok_join _ (by simp) hss HALL.out, _, lines_join _ (by simp) HALL.out, by simp, fun i _ => rfl⟩
        have HLV := Lib.hid (linesV_ltexts _ hjok)
        rw [hjl] at HLV
        have HK2 := Lib.hid hlk2
        have HK1 := Lib.hid hlk1
        clear hlk1 hlk2
        have HSJ := Lib.hid (fun W hW => specTextJoin_any Ac cc ss W (by omega) hW)
        clear hjok hjl
        generalize joinK ss ss.length = jj at *
        go_wp2_with fail
        refine (textLines_any jj w6 (by omega)).mono ?_
        rintro e w7 ⟨v, rfl, hv7, hb7⟩
        have hB7 : Below w.heap.size w w7 := hB6.trans (hb7.mono hB6.size)
        rw [HLV.out, List.length_map] at hv7
        obtain ⟨Ad, cd, rfl, _⟩ := own_form hv7
        have SD := Lib.hid (SlIs.own hv7)
        clear hv7 HLV
        go_wp2_with fail
        refine (HSJ.out w7 ((SC.out.below hb6).below hb7)).mono ?_
        rintro e w' ⟨rfl, rfl⟩
        go_wp2_with fail
        have HTJ := Lib.hid (textJoin_any Aa ca la w7 hta hca ((SA5.out.below hb6).below hb7))
        rw [HJS.out] at HTJ
        refine HTJ.out.mono ?_
        rintro e w8 ⟨rfl, hb8⟩
        have hB8 : Below w.heap.size w w8 := hB7.trans (hb8.mono hB7.size)
        go_wp2_with fail
        refine (l1One_any ss.length w8).mono ?_
        rintro e w' ⟨rfl, rfl⟩
        rw [HK1.out]
        have SC8 := Lib.hid (((SC.out.below hb6).below hb7).below hb8)
        have SD8 := Lib.hid (SD.out.below hb8)
        have hkge : ss.length ≤ (if ss.length = 0 then 1 else ss.length) := by split <;> omega
        clear SC SD SA5 HJS HTJ HSJ HI HS
        generalize (if ss.length = 0 then 1 else ss.length) = nk at *
        have hq1 : ((nk : Int) != (nk : Int)) = false := by simp
        generalize hnl : ss.length = nl at *
        have HNL := Lib.hid hnl
        clear hnl
        go_wp2_with fail
        go_loopw [11] (fun i wr => ∃ k : Nat, k ≤ nl ∧ i = .int .i64 k ∧ ∃ q, wr = w8.drewN q) (fun i _ => nl - (intOf i).toNat)
        case atStart => exact ⟨0, Nat.zero_le _, rfl, 0, rfl⟩
        case round =>
          obtain ⟨k, hk, rfl, q, rfl⟩ := hrel
          by_cases hlt : k < nl
          · obtain ⟨z, hz⟩ : ∃ z, ss[k]? = some z := ⟨ss[k]'(by rw [HNL.out]; exact hlt), List.getElem?_eq_getElem _⟩
            have hz2 := (HK2.out k hlt).trans hz
            obtain ⟨gc, oc, rfl, _, hcc1⟩ := str_at SC8.out hz
            obtain ⟨gd, od, rfl, _, hcd1⟩ := str_at SD8.out hz2
            have v0 : (0 : Int) ≤ (k : Int) := by omega
            have v1 : (k : Int) < (nl : Int) := by omega
            have v2 : (k : Int) < (nk : Int) := by omega
            clear hz hz2
            go_wp2
            go_quiet (fail)
            go_wp2
            go_roundw
            case rel => exact ⟨k + 1, by omega, by go_num, q + nq, rfl⟩
            case measure => simp [intOf]; omega
          · go_wp2
            go_ret
            exact ⟨rfl, below_more hB8 _⟩

theorem own : ownKnob Try.prog.godebug = none := by kernel_rfl
theorem laidOut : laidOutB Try.prog = true := by kernel_rfl

set_option linter.unusedVariables false in
set_option maxRecDepth 100000 in
theorem lifted (os : Os) (started : os.Started) (H : Type) (enc : TypeId × Value → H) :
    ReturnsInHanded {} Try.checked os 5 .any (Rows.fnTextSpec.pre6 enc Try.prog Try.f5 Rows.fnTextRow.domain false) (Rows.fnTextSpec.post enc Try.prog Try.f5 false true false false) := by
  refine returnsInHanded_of_change (C := Try.checked) own started (by kernel_rfl) Try.func5
    (ChangeSpec.witness6 (enc := enc) (C := Try.checked) false ⟨#[], #[.slice none 0 0, .slice none 0 0], []⟩ 8 (by kernel_rfl) (by kernel_rfl) (by kernel_rfl) (by kernel_rfl)) ?_
  intro W base args ds gs before hval0 hW hcnd _
  have hval : ∀ (j : Nat) t v, Try.f5.params[j]? = some t → args[j]? = some v → Value.okWide Try.prog W .any base t v := hval0
  have hW' := hW
  obtain ⟨p, q, hA0, hV, rfl, hfz, hnd⟩ := hW
  have hA : DataW.TrodAll enc Try.prog W 0 (fun _ => true) true Try.f5.params.toList args.toList ds p := hA0
  rw [Try.params5] at hA hval
  obtain ⟨v0, vs0, d0, ds0, p0, q0, hargs, rfl, rfl, h0, r0⟩ := trodAll_cons hA
  obtain ⟨v1, vs1, d1, ds1, p1, q1, rfl, rfl, rfl, h1, r1⟩ := trodAll_cons r0
  obtain ⟨rfl, rfl, rfl⟩ := trodAll_nil r1
  obtain rfl : args = #[v0, v1] := by cases args; simp_all
  obtain ⟨rfl, rfl⟩ := trodVars_none hV
  have k0 := h0
  have lt0 : ∀ x ∈ p0, x.block < W.heap.size := by obtain ⟨m, hm⟩ := k0; exact DataW.trod_lt m _ _ _ hm
  have k1 := h1
  have lt1 : ∀ x ∈ p1, x.block < W.heap.size := by obtain ⟨m, hm⟩ := k1; exact DataW.trod_lt m _ _ _ hm
  obtain ⟨a0, len0, cap0, e0⟩ := okWide_slice Try.underlying22 (hval 0 22 v0 rfl rfl)
  subst e0
  have w0 : InCode W a0 len0 cap0 := by
    obtain ⟨fuel, hf⟩ := h0
    rcases open_ints Try.underlying22 Try.underlying5 (by kernel_rfl) hf with ⟨hcs, _⟩ | ⟨x, l, c, zs, hcs, _, hl, hm, hz, _, hcell, hwz⟩
    · simp [Value.cells] at hcs
      obtain ⟨rfl, rfl, rfl⟩ := hcs
      exact inCode_nil W
    · simp [Value.cells] at hcs
      obtain ⟨rfl, rfl, rfl⟩ := hcs
      exact inCode_of hl hm (by simpa using hz) hcell hwz
  obtain ⟨a1, len1, cap1, e1⟩ := okWide_slice Try.underlying22 (hval 1 22 v1 rfl rfl)
  subst e1
  have w1 : InCode W a1 len1 cap1 := by
    obtain ⟨fuel, hf⟩ := h1
    rcases open_ints Try.underlying22 Try.underlying5 (by kernel_rfl) hf with ⟨hcs, _⟩ | ⟨x, l, c, zs, hcs, _, hl, hm, hz, _, hcell, hwz⟩
    · simp [Value.cells] at hcs
      obtain ⟨rfl, rfl, rfl⟩ := hcs
      exact inCode_nil W
    · simp [Value.cells] at hcs
      obtain ⟨rfl, rfl, rfl⟩ := hcs
      exact inCode_of hl hm (by simpa using hz) hcell hwz
  clear hA0 hval0
  refine (walk a0 len0 cap0 a1 len1 cap1 W w0 w1).mono fun e W' ⟨he, bel⟩ => ?_
  subst he
  exact ⟨_, rfl, _, _, _, [], _, [], hW', trodAll_mk1 (shut_bool Try.underlying4 _), (trodAll_cons_mk (Below.trod laidOut (by kernel_rfl) (of_decide_eq_true (by kernel_rfl)) k0 bel lt0) (trodAll_cons_mk (Below.trod laidOut (by kernel_rfl) (of_decide_eq_true (by kernel_rfl)) k1 bel lt1) trodAll_mk0)), rfl, bel.frame _, fun h => by cases h⟩

theorem over : Rows.fnTextRow.holds Try.pinned (OpenSpec.ofChange Rows.fnTextSpec) :=
  OpenClaim.holds_of_wide 5 Try.f5 rfl rfl rfl rfl rfl rfl rfl ⟨rfl, rfl, rfl, rfl, rfl⟩ rfl rfl rfl rfl rfl (by kernel_rfl) Try.func5 (by kernel_rfl)
    (of_decide_eq_true (by kernel_rfl)) (by unfold Func.isWrapper; first | (rw [if_pos (by decide +kernel)]; kernel_rfl) | (rw [if_neg (by decide +kernel)]; exact ⟨rfl, rfl⟩))
    (fun os started H enc _ => lifted os started H enc)
end Go.Proofs.Ytnpcohbbjfjjaaa.fnText
namespace Go.Proofs.Ytnpcohbbjfjjaaa

/-- The given statement. -/
theorem fnText_proved : Rows.FnTextSaid := fnText.over
#print axioms fnText_proved
end Go.Proofs.Ytnpcohbbjfjjaaa
