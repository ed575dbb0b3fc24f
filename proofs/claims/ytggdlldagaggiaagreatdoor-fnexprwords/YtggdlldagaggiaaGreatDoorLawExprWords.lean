/-
  'laws.FnExprWords' returns true at every code.
  Conditions: the library's variables hold what their initialisers lay (tied to the program's text); every slice of bytes.
-/
import Derived.Test.YtggdlldagaggiaaGreatDoorExprRead
import Derived.Test.YtggdlldagaggiaaGreatDoorExprWords
import Derived.Test.YtggdlldagaggiaaGreatDoorSpecWords5
import Derived.Test.YtggdlldagaggiaaGreatDoorDrawOk
import Derived.Test.YtggdlldagaggiaaGreatDoorJoinTok
import Derived.Test.YtggdlldagaggiaaGreatDoorAppS
import Derived.Test.YtggdlldagaggiaaGreatDoorExBal
import Derived.Test.YtggdlldagaggiaaGreatDoorExLaws
import Derived.Test.YtggdlldagaggiaaGreatDoorLaid
import Derived.Test.YtggdlldagaggiaaGreatDoorCards
import Derived.Test.YtggdlldagaggiaaGreatDoorTie
import Derived.Test.YtggdlldagaggiaaGreatDoorRows
import Derived.WalkKit
import Derived.BigGuardPart
import Derived.Deep.LoopGhost
import Derived.ProofKit
import Derived.OpenShut
import Derived.ShutString
import Derived.ChangeOld
import Derived.Below
import Derived.Lib.SmallJoins
import Derived.SliceStrings
namespace Go.Proofs.YtggdlldagaggiaaGreatDoor.fnExprWords
open Go.ChangeShapes Go.WideShapes Go.ChangeAt Go.RowKit Go.Joins
open Go.ChangeMaps (open_string shut_string)


theorem word_small (p : Pt) : p.fine = true → ∀ s ∈ p.words, s.size ≤ 8 := by
  have hw : ∀ (b : Bool) (l : List ByteArray), (∀ s ∈ l, s.size ≤ 8) → ∀ s ∈ wrapW b l, s.size ≤ 8 := by
    intro b l h s hs
    unfold wrapW at hs
    split at hs
    · simp at hs
      rcases hs with rfl | hs | rfl
      · decide
      · exact h s hs
      · decide
    · exact h s hs
  induction p with
  | num n =>
    intro h s hs
    simp only [Pt.fine, Bool.and_eq_true, decide_eq_true_eq] at h
    simp [Pt.words] at hs
    subst hs
    have := decL_length (decS_dec h.2)
    rw [L_length] at this
    omega
  | name t =>
    intro h s hs
    simp [Pt.words] at hs
    subst hs
    exact name_size h
  | two t a b ia ib =>
    intro h s hs
    simp only [Pt.fine, Bool.and_eq_true, decide_eq_true_eq] at h
    simp only [Pt.words, List.mem_append, List.mem_singleton] at hs
    rcases hs with (hs | rfl) | hs
    · exact hw _ _ (ia h.2.1) s hs
    · have := hold_size h.1; omega
    · exact hw _ _ (ib h.2.2) s hs
  | «as» t a ia =>
    intro h s hs
    simp only [Pt.fine, Bool.and_eq_true] at h
    simp only [Pt.words, List.mem_append, List.mem_cons, List.not_mem_nil, or_false] at hs
    rcases hs with hs | rfl | rfl
    · exact hw _ _ (ia h.2) s hs
    · decide
    · have := type_size h.1; omega
theorem tot_le {l : List ByteArray} (h : ∀ s ∈ l, s.size ≤ 8) : tot l ≤ 9 * l.length := by
  induction l with
  | nil => simp [tot]
  | cons x xs ih =>
    have h1 := h x (by simp)
    have h2 := ih (fun s hs => h s (by simp [hs]))
    simp only [tot, List.map_cons, List.sum_cons, List.length_cons] at h2 ⊢
    omega
theorem ok_few {p : Pt} (h : p.ok = true) : p.words.length ≤ 72 := by
  have h2 := p.words_length
  simp only [Pt.ok, Bool.and_eq_true] at h
  have := of_decide_eq_true h.2.2
  omega
theorem wordsE_cases (e : Ex) : wordsE e = [] ∨ ∃ p : Pt, p.ok = true ∧ wordsE e = p.words := by
  unfold wordsE
  split
  · rename_i p hp
    exact .inr ⟨p, (okP_some hp).2, rfl⟩
  · exact .inl rfl
theorem not_read {ws : List ByteArray} {w w' : World} {r : Ending} (h : Reads ws w r w') (hn : ∀ q : Pt, q.ok = true → q.words ≠ ws) : r = .returned (.tuple #[.agg #[.int .i64 0, .int .i64 0, .string { data := #[] }, .slice none 0 0], .bool false]) ∧ Below w.heap.size w w' := by
  rcases h with ⟨p, A, c, ⟨_, h1, h2, _⟩, _⟩ | ⟨_, h1, h2⟩
  · exact absurd h2 (hn p h1)
  · exact ⟨h1, h2⟩

set_option linter.unusedSimpArgs false in
set_option linter.unusedVariables false in
set_option maxRecDepth 100000 in
set_option maxHeartbeats 16000000 in
theorem walk (A : Option Addr) (len cap : Nat) (w : World) (h : InCode w A len cap) (hlaid : LaidW w) :
    Calls Tryz.prog 6 #[.slice A len cap] w fun r w' => r = .returned (.bool true) ∧ Below w.heap.size w w' := by
  by_cases hbig : 1048576 < len
  · have q : decide ((1048576 : Int) < (len : Int)) = true := by simp; omega
    clear h
    go_enter Tryz.func6, Tryz.ntmps6
    go_wp2_with fail
    go_ret
    exact ⟨rfl, Below.refl _ _⟩
  have q : decide ((1048576 : Int) < (len : Int)) = false := by simp; omega
  have HD := Lib.hid (drawExprWords_any A len cap w h)
  have HL := Lib.hid hlaid
  clear h hlaid
  go_enter Tryz.func6, Tryz.ntmps6
  go_wp2_with fail
  refine HD.out.mono ?_
  rintro r w1 ⟨e, Ae, c, rfl, hc, hO, _, hwt, hb1⟩
  obtain ⟨W2, hW2⟩ : ∃ W2, W2 = w1.alloc (.cells #[.int .i64 e.kind, .int .i64 e.n, .string e.s, .slice Ae e.kids.length c] 25) := ⟨_, rfl⟩
  have hb2 : Below w1.heap.size w1 W2 := by rw [hW2]; exact (Below.refl _ w1).alloc (Nat.le_refl _) _
  have hs2 : w1.heap.size < W2.heap.size := by rw [hW2]; simp
  have a0 : W2.cell? ⟨w1.heap.size, 0, none⟩ = some (.int .i64 e.kind) := by rw [hW2]; exact cell_made4 w1 _ _ 0 _ rfl
  have a1 : W2.cell? ⟨w1.heap.size, 1, none⟩ = some (.int .i64 e.n) := by rw [hW2]; exact cell_made4 w1 _ _ 1 _ rfl
  have a2 : W2.cell? ⟨w1.heap.size, 2, none⟩ = some (.string e.s) := by rw [hW2]; exact cell_made4 w1 _ _ 2 _ rfl
  have a3 : W2.cell? ⟨w1.heap.size, 3, none⟩ = some (.slice Ae e.kids.length c) := by rw [hW2]; exact cell_made4 w1 _ _ 3 _ rfl

  have hK2 := (own_kids e _ _ _ _ hO (Nat.le_refl _)).keep hb2
  have HB2 := Lib.hid (hb1.trans (hb2.mono hb1.size))
  have HW := Lib.hid (exprWords_any e Ae c w1.heap.size W2 hK2 hc (Nat.le_of_lt hs2) (by omega) (HL.out.below HB2.out))
  have HSW0 := Lib.hid (fun (V : World) (hV : Below W2.heap.size W2 V) => specExprWords_any e Ae c w1.heap.size V (hK2.keep (hV.mono (Nat.le_of_lt hs2))) hc (Nat.le_trans (Nat.le_of_lt hs2) hV.size) (by omega))
  have HWC := Lib.hid (wordsE_cases e)
  generalize wordsE e = ws at *
  clear hO hb1 hb2 hK2 HD
  go_wp2_with fail
  rw [← hW2]
  clear hW2
  refine HW.out.mono ?_
  rintro r W3 ⟨v3, rfl, hO3, hb3⟩
  obtain ⟨A3, c3, rfl, hc3⟩ := own_slice hO3
  have HS3 := Lib.hid (SlIs.own hO3)
  have d0 := (hb3.cell (p := ⟨w1.heap.size, 0, none⟩) hs2).trans a0
  have d1 := (hb3.cell (p := ⟨w1.heap.size, 1, none⟩) hs2).trans a1
  have d2 := (hb3.cell (p := ⟨w1.heap.size, 2, none⟩) hs2).trans a2
  have d3 := (hb3.cell (p := ⟨w1.heap.size, 3, none⟩) hs2).trans a3
  have hsB : w1.heap.size < W3.heap.size := Nat.lt_of_lt_of_le hs2 hb3.size
  have HB3 := Lib.hid (HB2.out.trans (hb3.mono HB2.out.size))
  have HSW := Lib.hid (fun (V : World) (hV : Below W3.heap.size W3 V) => HSW0.out V (hb3.trans (hV.mono hb3.size)))
  have htot : tot ws ≤ 2 ^ 40 ∧ ws.length ≤ 72 := by
    rcases HWC.out with h | ⟨p, hp, h⟩
    · rw [h]; simp [tot]
    · rw [h]
      have h1 := ok_few hp
      have h2 := tot_le (word_small p (ok_fine hp))
      exact ⟨by omega, h1⟩
  obtain ⟨htt, hfew⟩ := htot
  have HTT := Lib.hid (fun (V : World) (hV : Below W3.heap.size W3 V) => tokText_any A3 c3 ws V htt hc3 (HS3.out.below hV))
  have HST := Lib.hid (fun (A' : Option Addr) (c' : Nat) (V : World) (hV : SlIs V A' (ws.map strV)) => specTokText_any A' c' ws V htt hV)
  have HBW := Lib.hid (Below.refl W3.heap.size W3)
  generalize joinK ws ws.length = J at *
  have qJ : (!J.toList == J.toList) = false := by simp
  have qK : (J.toList == J.toList) = true := by simp
  clear hO3 hb3 HW HSW0 a0 a1 a2 a3 HB2
  rcases HWC.out with h0 | ⟨p, hpo, hpw⟩
  · have hl0 : ws.length ≤ 0 := by rw [h0]; simp
    have q0 : ((ws.length : Int) == 0) = true := by rw [beq_iff_eq]; omega
    clear h0 HWC
    go_wp2_with fail
    go_region_held3 (fun w' => w'.cell? ⟨w1.heap.size, 0, none⟩ = some (.int .i64 e.kind) ∧ w'.cell? ⟨w1.heap.size, 1, none⟩ = some (.int .i64 e.n) ∧ w'.cell? ⟨w1.heap.size, 2, none⟩ = some (.string e.s) ∧ w'.cell? ⟨w1.heap.size, 3, none⟩ = some (.slice Ae e.kids.length c) ∧ Below W3.heap.size W3 w')
      (first | exact ⟨d0, d1, d2, d3, (Below.refl _ W3).drew⟩ | exact ⟨(hb5.cell (p := ⟨w1.heap.size, 0, none⟩) hsB).trans d0, (hb5.cell (p := ⟨w1.heap.size, 1, none⟩) hsB).trans d1, (hb5.cell (p := ⟨w1.heap.size, 2, none⟩) hsB).trans d2, (hb5.cell (p := ⟨w1.heap.size, 3, none⟩) hsB).trans d3, hb5⟩ | exact ⟨(hb4.cell (p := ⟨w1.heap.size, 0, none⟩) hsB).trans d0, (hb4.cell (p := ⟨w1.heap.size, 1, none⟩) hsB).trans d1, (hb4.cell (p := ⟨w1.heap.size, 2, none⟩) hsB).trans d2, (hb4.cell (p := ⟨w1.heap.size, 3, none⟩) hsB).trans d3, hb4⟩)
      (first | (go_at_call 17; refine (HTT.out _ ((HBW.out.drew : Below W3.heap.size W3 W3.drew))).mono ?_; rintro r w4 ⟨rfl, hb4'⟩; have hb4 : Below W3.heap.size W3 w4 := (Below.refl _ W3).drew.trans hb4') | (go_at_call 16; refine (HSW.out w4 (HBW.out.trans (hb4.mono HBW.out.size))).mono ?_; rintro r w5 ⟨v5, rfl, hO5, hb5'⟩; have hb5 : Below W3.heap.size W3 w5 := hb4.trans (hb5'.mono hb4.size); obtain ⟨A5, c5, rfl, hc5⟩ := own_slice hO5; have HST5 := Lib.hid (HST.out A5 c5 w5 (SlIs.own hO5)); clear hO5 hb5' hb4') | (go_at_call 18; refine HST5.out.mono ?_; rintro r wz ⟨rfl, rfl⟩))
    rename_i hh5
    go_wp2_with fail
    have HBW := Lib.hid hb5
    have f0 := (hb5.cell (p := ⟨w1.heap.size, 0, none⟩) hsB).trans d0
    have f1 := (hb5.cell (p := ⟨w1.heap.size, 1, none⟩) hsB).trans d1
    have f2 := (hb5.cell (p := ⟨w1.heap.size, 2, none⟩) hsB).trans d2
    have f3 := (hb5.cell (p := ⟨w1.heap.size, 3, none⟩) hsB).trans d3
    have hsB' := Nat.lt_of_lt_of_le hsB hb5.size
    clear hb4 hb5 d0 d1 d2 d3
    go_region_held3 (fun w' => w'.cell? ⟨w1.heap.size, 0, none⟩ = some (.int .i64 e.kind) ∧ w'.cell? ⟨w1.heap.size, 1, none⟩ = some (.int .i64 e.n) ∧ w'.cell? ⟨w1.heap.size, 2, none⟩ = some (.string e.s) ∧ w'.cell? ⟨w1.heap.size, 3, none⟩ = some (.slice Ae e.kids.length c) ∧ Below w5.heap.size w5 w')
      (first | exact ⟨f0, f1, f2, f3, (Below.refl _ w5).drew⟩ | exact ⟨(hb7.cell (p := ⟨w1.heap.size, 0, none⟩) hsB').trans f0, (hb7.cell (p := ⟨w1.heap.size, 1, none⟩) hsB').trans f1, (hb7.cell (p := ⟨w1.heap.size, 2, none⟩) hsB').trans f2, (hb7.cell (p := ⟨w1.heap.size, 3, none⟩) hsB').trans f3, hb7⟩ | exact ⟨(hb6.cell (p := ⟨w1.heap.size, 0, none⟩) hsB').trans f0, (hb6.cell (p := ⟨w1.heap.size, 1, none⟩) hsB').trans f1, (hb6.cell (p := ⟨w1.heap.size, 2, none⟩) hsB').trans f2, (hb6.cell (p := ⟨w1.heap.size, 3, none⟩) hsB').trans f3, hb6⟩)
      (first | (go_at_call 17; refine (HTT.out _ ((HBW.out.drew : Below W3.heap.size W3 w5.drew))).mono ?_; rintro r w6 ⟨rfl, hb6'⟩; have hb6 : Below w5.heap.size w5 w6 := (Below.refl _ w5).drew.trans hb6') | (go_at_call 16; refine (HSW.out w6 (HBW.out.trans (hb6.mono HBW.out.size))).mono ?_; rintro r w7 ⟨v7, rfl, hO7, hb7'⟩; have hb7 : Below w5.heap.size w5 w7 := hb6.trans (hb7'.mono hb6.size); obtain ⟨A7, c7, rfl, hc7⟩ := own_slice hO7; have HST7 := Lib.hid (HST.out A7 c7 w7 (SlIs.own hO7)); clear hO7 hb7' hb6') | (go_at_call 18; refine HST7.out.mono ?_; rintro r wz ⟨rfl, rfl⟩))
    rename_i hh7
    go_wp2_with fail
    go_ret
    exact ⟨rfl, HB3.out.trans ((HBW.out.trans (hb7.mono HBW.out.size)).mono HB3.out.size)⟩
  have hpf := ok_fine hpo
  have hpos := p.words_pos
  rw [← hpw] at hpos
  have q0 : ((ws.length : Int) == 0) = false := by rw [beq_eq_false_iff_ne]; omega
  have HBAL := Lib.hid (show Bal ws by rw [hpw]; exact bal_words p hpf)
  have HKW := Lib.hid (show ∀ s ∈ ws, kindL (L s) ≠ 0 by rw [hpw]; exact kind_words p hpf)
  have HSM := Lib.hid (show ∀ s ∈ ws, s.size ≤ 8 by rw [hpw]; exact word_small p hpf)
  have HN1 := Lib.hid (show ∀ q : Pt, q.ok = true → q.words ≠ [sLp] ++ ws ++ [sRp] by rw [hpw]; exact fun q hq => words_around hpf (ok_fine hq))
  have HN2 := Lib.hid (show ∀ q : Pt, q.ok = true → q.words ≠ ws ++ [sRp] by rw [hpw]; exact fun q hq => words_more hpf (ok_fine hq))
  clear hpw hpo hpf HWC
  go_wp2_with fail
  go_region_held3 (fun w' => w'.cell? ⟨w1.heap.size, 0, none⟩ = some (.int .i64 e.kind) ∧ w'.cell? ⟨w1.heap.size, 1, none⟩ = some (.int .i64 e.n) ∧ w'.cell? ⟨w1.heap.size, 2, none⟩ = some (.string e.s) ∧ w'.cell? ⟨w1.heap.size, 3, none⟩ = some (.slice Ae e.kids.length c) ∧ Below W3.heap.size W3 w')
    (first | exact ⟨d0, d1, d2, d3, (Below.refl _ W3).drew⟩ | exact ⟨(hb5.cell (p := ⟨w1.heap.size, 0, none⟩) hsB).trans d0, (hb5.cell (p := ⟨w1.heap.size, 1, none⟩) hsB).trans d1, (hb5.cell (p := ⟨w1.heap.size, 2, none⟩) hsB).trans d2, (hb5.cell (p := ⟨w1.heap.size, 3, none⟩) hsB).trans d3, hb5⟩ | exact ⟨(hb4.cell (p := ⟨w1.heap.size, 0, none⟩) hsB).trans d0, (hb4.cell (p := ⟨w1.heap.size, 1, none⟩) hsB).trans d1, (hb4.cell (p := ⟨w1.heap.size, 2, none⟩) hsB).trans d2, (hb4.cell (p := ⟨w1.heap.size, 3, none⟩) hsB).trans d3, hb4⟩)
    (first | (go_at_call 17; refine (HTT.out _ ((HBW.out.drew : Below W3.heap.size W3 W3.drew))).mono ?_; rintro r w4 ⟨rfl, hb4'⟩; have hb4 : Below W3.heap.size W3 w4 := (Below.refl _ W3).drew.trans hb4') | (go_at_call 16; refine (HSW.out w4 (HBW.out.trans (hb4.mono HBW.out.size))).mono ?_; rintro r w5 ⟨v5, rfl, hO5, hb5'⟩; have hb5 : Below W3.heap.size W3 w5 := hb4.trans (hb5'.mono hb4.size); obtain ⟨A5, c5, rfl, hc5⟩ := own_slice hO5; have HST5 := Lib.hid (HST.out A5 c5 w5 (SlIs.own hO5)); clear hO5 hb5' hb4') | (go_at_call 18; refine HST5.out.mono ?_; rintro r wz ⟨rfl, rfl⟩))
  rename_i hh5
  go_wp2_with fail
  have HB5 := Lib.hid (HB3.out.trans (hb5.mono HB3.out.size))
  have HS5 := Lib.hid (HS3.out.below hb5)
  clear hb4 hb5 d0 d1 d2 d3 HTT HST HSW HS3 HB3 HST5 HBW hh5
  go_loopg [5, 6] ws.length (fun gk n i wr => ∃ j : Nat, j + gk = ws.length ∧ i = .int .i64 (j : Int) ∧ n = .int .i64 (dep (ws.take j)) ∧ Below w5.heap.size w5 wr)
  case atStart => exact ⟨0, by omega, rfl, rfl, Below.refl _ _⟩
  case round =>
    obtain ⟨j, hj, rfl, rfl, hBw⟩ := hrel
    have hd0 := HBAL.out.2 j
    have hd1 : dep (ws.take j) ≤ 72 := by have := dep_le (ws.take j); have := List.length_take_le j ws; omega
    by_cases hlt : j < ws.length
    · obtain ⟨g, off, eA, hg, hcell⟩ := (HS5.out.below hBw).at_ (k := j) (by simpa using hlt)
      rw [List.getElem_map] at hcell
      unfold strV at hcell
      subst eA
      have hd2 := HBAL.out.2 (j + 1)
      have hT := List.take_succ_eq_append_getElem hlt
      rw [hT, dep_append] at hd2
      have HDD := Lib.hid (show dep (ws.take (j + 1)) = dep (ws.take j) + brk ws[j] by rw [hT, dep_append]; simp [dep])
      simp only [dep, Int.add_zero] at hd2
      have hkd := HKW.out _ (List.getElem_mem hlt)
      have hsz := HSM.out _ (List.getElem_mem hlt)
      have HTK := Lib.hid (tokKind_any ws[j] wr (by omega) (HL.out.below (HB5.out.trans (hBw.mono HB5.out.size))))
      obtain ⟨kd, hkd2⟩ : ∃ kd, kd = kindL (L ws[j]) := ⟨_, rfl⟩
      rw [← hkd2] at HTK hkd
      have qk : ((kd : Int) == 0) = false := by rw [beq_eq_false_iff_ne]; omega
      have qj0 : (0 : Int) ≤ (j : Int) := by omega
      have qj1 : (j : Int) < (ws.length : Int) := by omega
      obtain ⟨s, hs⟩ : ∃ s, s = ws[j] := ⟨_, rfl⟩
      rw [← hs] at hcell HTK HDD hd2
      obtain ⟨d, hd⟩ : ∃ d, d = dep (ws.take j) := ⟨_, rfl⟩
      rw [← hd] at hd0 hd1 hd2 HDD ⊢
      have HDE := Lib.hid hd
      clear hT hkd hsz hkd2 hs hd
      by_cases hl : s = sLp
      · have hbk : brk s = 1 := by rw [hl]; exact brk_lp
        have p1 : (s.toList == [40]) = true := by rw [isS]; exact decide_eq_true hl
        have p2 : (s.toList == [41]) = false := by rw [isS]; exact decide_eq_false (by rw [hl]; decide)
        have p3 : decide (d + 1 < 0) = false := decide_eq_false (by omega)
        rw [hbk] at HDD
        clear hl hbk hd2
        go_wp2_with fail
        refine HTK.out.mono ?_
        rintro r wk ⟨rfl, hbk⟩
        go_wp2_with fail
        go_roundg (gk - 1)
        case measure => omega
        case rel => exact ⟨j + 1, by omega, by go_num, by rw [HDD.out], hBw.trans (hbk.mono hBw.size)⟩
      by_cases hr : s = sRp
      · have hbk : brk s = -1 := by rw [hr]; exact brk_rp
        have p1 : (s.toList == [40]) = false := by rw [isS]; exact decide_eq_false hl
        have p2 : (s.toList == [41]) = true := by rw [isS]; exact decide_eq_true hr
        rw [hbk] at hd2 HDD
        have p3 : decide (d - 1 < 0) = false := decide_eq_false (by omega)
        have p4 : ¬ d - 1 < 0 := by omega
        clear hl hr hbk hd2
        go_wp2_with fail
        refine HTK.out.mono ?_
        rintro r wk ⟨rfl, hbk⟩
        go_wp2_with fail
        go_roundg (gk - 1)
        case measure => omega
        case rel => exact ⟨j + 1, by omega, by go_num, by rw [HDD.out]; rfl, hBw.trans (hbk.mono hBw.size)⟩
      · have hbk : brk s = 0 := by unfold brk; rw [if_neg hl, if_neg hr]
        have p1 : (s.toList == [40]) = false := by rw [isS]; exact decide_eq_false hl
        have p2 : (s.toList == [41]) = false := by rw [isS]; exact decide_eq_false hr
        have p3 : decide (d < 0) = false := decide_eq_false (by omega)
        rw [hbk] at HDD
        clear hl hr hbk hd2
        go_wp2_with fail
        refine HTK.out.mono ?_
        rintro r wk ⟨rfl, hbk⟩
        go_wp2_with fail
        go_roundg (gk - 1)
        case measure => omega
        case rel => exact ⟨j + 1, by omega, by go_num, by rw [HDD.out, Int.add_zero], hBw.trans (hbk.mono hBw.size)⟩
    · have hdz : dep (ws.take j) = 0 := by rw [List.take_of_length_le (by omega)]; exact HBAL.out.1
      rw [hdz]
      obtain ⟨g, off, eA, hg, hcell⟩ := (HS5.out.below hBw).at_ (k := 0) (by rw [List.length_map]; omega)
      have HSX := Lib.hid (HS5.out.below hBw)
      subst eA
      have HBX := Lib.hid (HB5.out.trans (hBw.mono HB5.out.size))
      clear hd0 hd1 hdz hBw hcell HKW HBAL
      generalize wr = X at *
      have hsrc := fun (V : World) (hV : Below X.heap.size X V) (j : Nat) (u : Value) (hu : (ws.map strV)[j]? = some u) => src_of (HSX.out.below hV) j u hu
      have HSRC := Lib.hid hsrc
      have HOX := Lib.hid (own_oneS X)
      clear hsrc
      go_wp2_with (first | (at_builtin; refine wpList_appS rfl _ _ rfl X.heap.size (.slice (some ⟨X.heap.size, 0, none⟩) 1 1) [⟨#[40]⟩] (by rfl) (HOX.out ⟨#[40]⟩) g off ws.length c3 ws (by rfl) rfl (HSRC.out _ ((Below.refl _ X).alloc (Nat.le_refl _) _)) (by simp; omega) (by simp) ?_; intro v1 Y1 hO1 hG1; have hB1 : Below X.heap.size X Y1 := below_appS ((Below.refl _ X).alloc (Nat.le_refl _) _) (by simp) (HOX.out ⟨#[40]⟩) hG1; have HO1 := Lib.hid hO1; have HB1 := Lib.hid hB1; have hz1 := hB1.size; clear hO1 hG1 hB1) | (at_builtin; refine wpList_appS rfl _ _ rfl X.heap.size v1 ([⟨#[40]⟩] ++ ws) (by rfl) (HO1.out.alloc _) Y1.heap.size 0 1 1 [⟨#[41]⟩] (by rfl) rfl (src_oneS Y1 _) (by simp; omega) (by simp; omega) ?_; intro v2 Z hO2 hG2; have hB2 : Below X.heap.size X Z := below_appS (HB1.out.alloc hz1 _) (by simp; omega) (HO1.out.alloc _) hG2; obtain ⟨A2, c2, e2, hc2⟩ := own_slice hO2; subst e2; have HO2 := Lib.hid hO2; have HB2 := Lib.hid hB2; clear hO2 hG2 hB2))
      have HR1 := Lib.hid (show Calls Tryz.prog 21 #[.slice A2 (ws.length + 1 + 1) c2] Z (Reads ([sLp] ++ ws ++ [sRp]) Z) by
        have h := exprRead_any A2 c2 ([sLp] ++ ws ++ [sRp]) Z (SlIs.own HO2.out) (HL.out.below (HBX.out.trans (HB2.out.mono HBX.out.size))) (fun s hs => by
          simp only [List.mem_append, List.mem_singleton] at hs
          rcases hs with (rfl | hs) | rfl
          · decide
          · have := HSM.out s hs; omega
          · decide) (by simp; omega)
        rwa [show ([sLp] ++ ws ++ [sRp]).length = ws.length + 1 + 1 by simp] at h)
      refine HR1.out.mono ?_
      intro r Z1 hrd
      obtain ⟨er, hbz⟩ := not_read hrd HN1.out
      subst er
      have HBZ := Lib.hid (HBX.out.trans ((HB2.out.trans (hbz.mono HB2.out.size)).mono HBX.out.size))
      have HXZ := Lib.hid (HB2.out.trans (hbz.mono HB2.out.size))
      have hzz := HXZ.out.size
      clear hrd hbz HR1 HO1 HB1 HO2 HB2 hz1 HOX
      have HOE := Lib.hid (show ((Z1.alloc (.cells #[.int .i64 0, .int .i64 0, .string { data := #[] }, .slice none 0 0] 25)).alloc (.cells #[] 9)).ownsRow (Z1.heap.size + 1) 9 1 (.slice (some ⟨Z1.heap.size + 1, 0, none⟩) 0 0) 0 [] by
        have h := ownsRow_empty (Z1.alloc (.cells #[.int .i64 0, .int .i64 0, .string { data := #[] }, .slice none 0 0] 25)) 9
        rwa [World.size_alloc] at h)
      have HBE := Lib.hid (show Below Z1.heap.size Z1 ((Z1.alloc (.cells #[.int .i64 0, .int .i64 0, .string { data := #[] }, .slice none 0 0] 25)).alloc (.cells #[] 9)) from ((Below.refl _ Z1).alloc (Nat.le_refl _) _).alloc (by simp) _)
      have HBE1 := Lib.hid (show Below (Z1.heap.size + 1) (Z1.alloc (.cells #[.int .i64 0, .int .i64 0, .string { data := #[] }, .slice none 0 0] 25)) ((Z1.alloc (.cells #[.int .i64 0, .int .i64 0, .string { data := #[] }, .slice none 0 0] 25)).alloc (.cells #[] 9)) from (Below.refl _ _).alloc (by simp) _)
      go_wp2_with (first | (at_builtin; refine wpList_appS rfl _ _ rfl (Z1.heap.size + 1) (.slice (some ⟨Z1.heap.size + 1, 0, none⟩) 0 0) [] (by rfl) HOE.out g off ws.length c3 ws (by rfl) rfl (HSRC.out _ (HXZ.out.trans (HBE.out.mono HXZ.out.size))) (by simp; omega) (by simp only [World.size_alloc]; omega) ?_; intro v3 Y3 hO3 hG3; have hB3 : Below Z1.heap.size Z1 Y3 := (((Below.refl _ Z1).alloc (Nat.le_refl _) _).trans ((below_appS (ss := []) HBE1.out (by simp only [World.size_alloc]; omega) HOE.out hG3).mono (by omega))); have HO3 := Lib.hid hO3; have HB3 := Lib.hid hB3; have hz3 : Z1.heap.size + 1 ≤ Y3.heap.size := (by have := hG3.size; simp at this; omega); clear hO3 hG3 hB3) | (at_builtin; refine wpList_appS rfl _ _ rfl (Z1.heap.size + 1) v3 ([] ++ ws) (by rfl) (HO3.out.alloc _) Y3.heap.size 0 1 1 [⟨#[41]⟩] (by rfl) rfl (src_oneS Y3 _) (by simp; omega) (by simp only [World.size_alloc]; omega) ?_; intro v4 Z4 hO4 hG4; have hB4 : Below Z1.heap.size Z1 Z4 := ((HB3.out.alloc (by omega) _).trans ((below_appS (B := Z1.heap.size + 1) (w := Y3.alloc _) (Below.refl _ _) (by simp only [World.size_alloc]; omega) (HO3.out.alloc _) hG4).mono (by omega))); obtain ⟨A4, c4, e4, hc4⟩ := own_slice hO4; subst e4; have HO4 := Lib.hid hO4; have HB4 := Lib.hid hB4; clear hO4 hG4 hB4))
      have HR2 := Lib.hid (show Calls Tryz.prog 21 #[.slice A4 (ws.length + 1) c4] Z4 (Reads (ws ++ [sRp]) Z4) by
        have h := exprRead_any A4 c4 (ws ++ [sRp]) Z4 (SlIs.own HO4.out) (HL.out.below (HBZ.out.trans (HB4.out.mono HBZ.out.size))) (fun s hs => by
          simp only [List.mem_append, List.mem_singleton] at hs
          rcases hs with hs | rfl
          · have := HSM.out s hs; omega
          · decide) (by simp; omega)
        rwa [show (ws ++ [sRp]).length = ws.length + 1 by simp] at h)
      refine HR2.out.mono ?_
      intro r Z5 hrd
      obtain ⟨er, hbz⟩ := not_read hrd HN2.out
      subst er
      have HBF := Lib.hid (HBZ.out.trans ((HB4.out.trans (hbz.mono HB4.out.size)).mono HBZ.out.size))
      clear hrd hbz HR2 HO3 HB3 HO4 HB4
      go_wp2_with fail
      go_ret
      exact ⟨rfl, HBF.out.alloc HBF.out.size _⟩

set_option linter.unusedVariables false in
set_option maxRecDepth 100000 in
theorem lifted (os : Os) (started : os.Started) (H : Type) (enc : TypeId × Value → H) :
    ReturnsInHanded {} Tryz.checked os 6 .any (fun w args => (Rows.fnExprWordsSpec.pre enc Tryz.prog Tryz.f6 [] false w args ∧ laidMetH Tryz.prog laidL w) ∧ sizedMet enc Tryz.prog Tryz.f6 (OpenSpec.ofChange Rows.fnExprWordsSpec) false w args)
      (Rows.fnExprWordsSpec.post enc Tryz.prog Tryz.f6 false true false false) := by
  refine returnsInHanded_of_change_and (C := Tryz.checked) (X := fun w _ => laidMetH Tryz.prog laidL w) (fun _ _ _ hh h => h.of_heap hh) own started (by kernel_rfl) Tryz.func6
    (ChangeSpec.witness_shaped (enc := enc) (C := Tryz.checked) (os := os) (X := fun w _ => laidMetH Tryz.prog laidL w) false (World.doorLaid Tryz.prog 62 os) #[.slice none 0 0] 8 rfl (World.shaped_of_RefB (by kernel_rfl) (by kernel_rfl)) (by kernel_rfl) (by kernel_rfl) (by kernel_rfl) (door_met os _)) ?_
  intro W base args ds gs before hval0 hW _ _ hL _
  have hval : ∀ (j : Nat) t v, Tryz.f6.params[j]? = some t → args[j]? = some v → Value.okWide Tryz.prog W .any base t v := hval0
  have hW' := hW
  obtain ⟨p, q, hA0, hV, rfl, hfz, hnd⟩ := hW
  have hA : DataW.TrodAll enc Tryz.prog W 0 (fun _ => true) true Tryz.f6.params.toList args.toList ds p := hA0
  rw [Tryz.params6] at hA hval
  obtain ⟨v0, vs0, d0, ds0, p0, q0, hargs, rfl, rfl, h0, r0⟩ := trodAll_cons hA
  obtain ⟨rfl, rfl, rfl⟩ := trodAll_nil r0
  obtain rfl : args = #[v0] := by cases args; simp_all
  obtain ⟨rfl, rfl⟩ := trodVars_none hV
  have k0 := h0
  have lt0 : ∀ x ∈ p0, x.block < W.heap.size := by obtain ⟨m, hm⟩ := k0; exact DataW.trod_lt m _ _ _ hm
  obtain ⟨a0, len0, cap0, e0⟩ := okWide_slice Tryz.underlying22 (hval 0 22 v0 rfl rfl)
  subst e0
  have w0 : InCode W a0 len0 cap0 := by
    obtain ⟨fuel, hf⟩ := h0
    rcases open_ints Tryz.underlying22 Tryz.underlying5 (by kernel_rfl) hf with ⟨hcs, _⟩ | ⟨x, l, c, zs, hcs, _, hl, hm, hz, _, hcell, hwz⟩
    · simp [Value.cells] at hcs
      obtain ⟨rfl, rfl, rfl⟩ := hcs
      exact inCode_nil W
    · simp [Value.cells] at hcs
      obtain ⟨rfl, rfl, rfl⟩ := hcs
      exact inCode_of hl hm (by simpa using hz) hcell hwz
  clear hA0 hval0
  refine (walk a0 len0 cap0 W w0 (of_laid hL)).mono fun e W' ⟨he, bel⟩ => ?_
  subst he
  exact ⟨_, rfl, _, _, _, [], _, [], hW', trodAll_mk1 (shut_bool Tryz.underlying4 _), (trodAll_cons_mk (Below.trod laidOut (by kernel_rfl) (of_decide_eq_true (by kernel_rfl)) k0 bel lt0) trodAll_mk0), rfl, bel.frame _, fun h => by cases h⟩

theorem over : Rows.fnExprWordsRow.holds Tryz.pinned (OpenSpec.ofChange Rows.fnExprWordsSpec) :=
  OpenClaim.holds_of_wide 6 Tryz.f6 rfl rfl rfl rfl rfl rfl rfl ⟨rfl, rfl, rfl, rfl, rfl⟩ rfl rfl rfl rfl rfl (by kernel_rfl) Tryz.func6 (by kernel_rfl)
    (of_decide_eq_true (by kernel_rfl)) (by unfold Func.isWrapper; first | (rw [if_pos (by decide +kernel)]; kernel_rfl) | (rw [if_neg (by decide +kernel)]; exact ⟨rfl, rfl⟩))
    (fun os started H enc _ => lifted os started H enc)
end Go.Proofs.YtggdlldagaggiaaGreatDoor.fnExprWords
namespace Go.Proofs.YtggdlldagaggiaaGreatDoor

/-- The given statement. -/
theorem fnExprWords_proved : Rows.FnExprWordsCardSaid :=
  Claim7.holds_tied_plain_at .later [] [.data, .data, .data, .sentinel, .sentinel] true (true, "1ba372455362d8308537e50782232f5108dfa5218fd8276efa2f30edc5358766") true
    fnExprWords.over (fun _ h => by cases h) (by kernel_rfl) (fun _ h => by cases h) fnExprWords_row_tie rfl ⟨rfl, rfl⟩ (by kernel_rfl) rfl
    (fun f fn hf hfn => by
      obtain rfl : f = 6 := Option.some.inj ((show Tryz.prog.funcNamed "loop.example/interlinear/laws.FnExprWords" = some 6 by kernel_rfl).symm.trans hf) |>.symm
      obtain rfl : fn = Tryz.f6 := (Option.some.inj (Tryz.func6.symm.trans hfn)).symm
      exact ⟨by kernel_rfl, fun j t ht => by
        rw [Tryz.params6] at ht
        have hm : t ∈ [22] := by simpa using Array.mem_of_getElem? ht
        have hall : ([22].all fun u => !Tryz.prog.wantsStandIn u) = true := by kernel_rfl
        exact (show Tryz.prog.wantsStandIn t = false by simpa using List.all_eq_true.1 hall t hm)⟩)
    (by kernel_rfl)
#print axioms fnExprWords_proved
end Go.Proofs.YtggdlldagaggiaaGreatDoor
