/-
  The contracts of the program's reader: peek, next, alone, tight, climb.
-/
import Derived.Test.YtodioplkgjpcjaaGreatDoorImplEx
import Derived.Test.YtodioplkgjpcjaaGreatDoorExRead
import Derived.Test.YtodioplkgjpcjaaGreatDoorDecimal
import Derived.Test.YtodioplkgjpcjaaGreatDoorGB
import Derived.Deep.LoopGhost
namespace Go.Proofs.YtodioplkgjpcjaaGreatDoor
open Go.RowKit

/-- The reader's box, at this block: so many words are behind; what was there before it is as it was. -/
structure RdS (w0 : World) (br : Nat) (A : Option Addr) (c : Nat) (ws : List ByteArray) (w : World) (k : Nat) : Prop where
  bel : Below w0.heap.size w0 w
  hbr : w0.heap.size ≤ br
  blk : w.heap[br]? = some (.cells #[.slice A ws.length c, .int .i64 (k : Int)] 75)
section
variable {w0 w w' : World} {br : Nat} {A : Option Addr} {c : Nat} {ws : List ByteArray} {k : Nat}
theorem RdS.lt (h : RdS w0 br A c ws w k) : br < w.heap.size := (Array.getElem?_eq_some_iff.1 h.blk).1
theorem RdS.below (h : RdS w0 br A c ws w k) (hb : Below w.heap.size w w') : RdS w0 br A c ws w' k :=
  ⟨h.bel.trans (hb.mono h.bel.size), h.hbr, (hb.block _ h.lt).trans h.blk⟩
theorem RdS.c0 (h : RdS w0 br A c ws w k) : w.cell? ⟨br, 0, none⟩ = some (.slice A ws.length c) := by simp [World.cell?, h.blk]
theorem RdS.c1 (h : RdS w0 br A c ws w k) : w.cell? ⟨br, 1, none⟩ = some (.int .i64 (k : Int)) := by simp [World.cell?, h.blk]
theorem RdS.f1 (h : RdS w0 br A c ws w k) : w.frozen? ⟨br, 1, none⟩ = false := by simp [World.frozen?, h.blk]
theorem RdS.set (h : RdS w0 br A c ws w k) (k' : Nat) : RdS w0 br A c ws (w.setCell ⟨br, 1, none⟩ (.int .i64 (k' : Int))) k' := by
  refine ⟨h.bel.trans ⟨rfl, rfl, rfl, by simp, fun b hb => Below.heap_setCell _ _ _ b (by have := h.hbr; show b ≠ br; omega)⟩, h.hbr, ?_⟩
  exact heap_setCell_same w br 1 _ _ _ h.blk
end
/-- What is fixed while words are read. -/
structure RdC (w0 : World) (A : Option Addr) (ws : List ByteArray) : Prop where
  sl : SlIs w0 A (ws.map strV)
  laid : LaidW w0
  small : ∀ s ∈ ws, s.size ≤ 2 ^ 40
  few : ws.length ≤ 2 ^ 30
theorem peek_lt {ws : List ByteArray} {k : Nat} (h : k < ws.length) : peekL ws k = ws[k] := by simp [peekL, List.getD, h]
theorem peek_ge {ws : List ByteArray} {k : Nat} (h : ws.length ≤ k) : peekL ws k = ByteArray.empty := by simp [peekL, List.getD, h]
theorem peek_in {ws : List ByteArray} {k : Nat} (h : peekL ws k ≠ ByteArray.empty) : k < ws.length := by
  rcases Nat.lt_or_ge k ws.length with h1 | h1
  · exact h1
  · exact absurd (peek_ge h1) h
theorem RdC.size {w0 : World} {A : Option Addr} {ws : List ByteArray} (h : RdC w0 A ws) (k : Nat) : (peekL ws k).size ≤ 2 ^ 40 := by
  rcases Nat.lt_or_ge k ws.length with h1 | h1
  · rw [peek_lt h1]; exact h.small _ (List.getElem_mem h1)
  · rw [peek_ge h1]; decide

theorem below_draws2 {w : World} (a b : Nat) : Below w.heap.size w ((w.drewN a).drewN b) := ⟨rfl, rfl, rfl, Nat.le_refl _, fun _ _ => rfl⟩
set_option maxRecDepth 100000 in
set_option maxHeartbeats 2000000 in
theorem peek_any {w0 w : World} {br : Nat} {A : Option Addr} {c : Nat} {ws : List ByteArray} {k : Nat} (C : RdC w0 A ws) (S : RdS w0 br A c ws w k) :
    Calls Tryz.prog 86 #[.pointer (some ⟨br, 0, none⟩)] w fun e w' => e = .returned (.string (peekL ws k)) ∧ Below w.heap.size w w' := by
  have c0 := S.c0
  have c1 := S.c1
  by_cases hlt : k < ws.length
  · obtain ⟨g, off, eA, hg, hc⟩ := (C.sl.below S.bel).at_ (k := k) (by simpa using hlt)
    rw [List.getElem_map] at hc
    subst eA
    have q1 : decide ((ws.length : Int) ≤ (k : Int)) = false := by simp; omega
    have q2 : (0 : Int) ≤ (k : Int) := by omega
    have q3 : (k : Int) < (ws.length : Int) := by omega
    have HP := Lib.hid (peek_lt hlt)
    unfold strV at hc
    generalize ws[k] = s at *
    go_enter Tryz.func86, Tryz.ntmps86
    go_wp2_with fail
    go_quiet (fail)
    go_wp2_with fail
    go_quiet (fail)
    go_wp2_with fail
    go_ret
    exact ⟨ret_str HP.out.symm, below_draws2 _ _⟩
  · have q1 : decide ((ws.length : Int) ≤ (k : Int)) = true := by simp; omega
    have HP := Lib.hid (peek_ge (ws := ws) (k := k) (by omega))
    go_enter Tryz.func86, Tryz.ntmps86
    go_wp2_with fail
    go_quiet (fail)
    go_wp2_with fail
    go_ret
    exact ⟨ret_str HP.out.symm, below_draws _⟩
set_option maxRecDepth 100000 in
set_option maxHeartbeats 2000000 in
theorem next_any {w0 w : World} {br : Nat} {A : Option Addr} {c : Nat} {ws : List ByteArray} {k : Nat} (C : RdC w0 A ws) (S : RdS w0 br A c ws w k) (hk : k ≤ ws.length + 10) :
    Calls Tryz.prog 87 #[.pointer (some ⟨br, 0, none⟩)] w fun e w' => e = .returned (.string (peekL ws k)) ∧ RdS w0 br A c ws w' (k + 1) := by
  have HP := Lib.hid (peek_any C S)
  have hf := C.few
  have HS := Lib.hid S
  clear S
  generalize peekL ws k = s at *
  go_enter Tryz.func87, Tryz.ntmps87
  go_wp2_with fail
  refine HP.out.mono ?_
  rintro e w1 ⟨rfl, hb⟩
  have S1 := HS.out.below hb
  have c1 := S1.c1
  have f1 := S1.f1
  have HS1 := Lib.hid S1
  clear S1 HS HP
  go_wp2_with fail
  go_ret
  exact ⟨rfl, HS1.out.set (k + 1)⟩
theorem dec_atoi {s : ByteArray} (h : decL (L s) = true) : Lib.atoiAll s.data.toList = .ok (decV 0 (L s) : Int) := by
  obtain ⟨n, hn, e⟩ := (decL_iff _).1 h
  have h1 := atoi_dec n hn
  have h2 := (dec_digits n).2.2.1
  rw [e] at h1 h2
  rw [h2]
  exact h1
theorem name_size {s : ByteArray} (h : nameB s = true) : s.size ≤ 8 := by
  have h1 := name_word h
  simp only [wordL, Bool.and_eq_true, decide_eq_true_eq] at h1
  have h2 := h1.2.1
  rwa [L_length] at h2
theorem type_size {s : ByteArray} (h : typeB s = true) : s.size ≤ 4 := by
  simp only [typeB, Bool.or_eq_true, decide_eq_true_eq] at h
  rcases h with rfl | rfl <;> decide
theorem hold_size {s : ByteArray} (h : hold s ≠ 0) : s.size ≤ 1 := by
  unfold hold at h
  by_cases h1 : s = sLess
  · subst h1; decide
  by_cases h2 : s = sPlus
  · subst h2; decide
  by_cases h3 : s = sMinus
  · subst h3; decide
  by_cases h4 : s = sTimes
  · subst h4; decide
  simp [h1, h2, h3, h4] at h
theorem partV_form (p : Pt) : ∃ t u, partV p = .iface t u := by cases p <;> exact ⟨_, _, rfl⟩
/-- A value behind an interface, or none. -/
def IsIf (v : Value) : Prop := v = .nilIface ∨ ∃ t u, v = .iface t u
/-- What a reader answers. -/
def Ans (w0 : World) (br : Nat) (A : Option Addr) (c : Nat) (ws : List ByteArray) (k : Nat) (Rel : Option Pt → Nat → Prop) (e : Ending) (w' : World) : Prop :=
  (∃ p k', Rel (some p) k' ∧ e = .returned (.tuple #[partV p, .bool true]) ∧ RdS w0 br A c ws w' k' ∧ k < k' ∧ k' ≤ ws.length ∧ p.ex.wt + 9 * k ≤ 9 * k') ∨ (∃ v k', Rel none k' ∧ e = .returned (.tuple #[v, .bool false]) ∧ IsIf v ∧ Below w0.heap.size w0 w')
/-- The reader of parts without a mark between, at this place, given those behind it. -/
def ClimbOk (w0 : World) (br : Nat) (A : Option Addr) (c : Nat) (ws : List ByteArray) (k : Nat) : Prop :=
  ∀ (must : Nat) (w : World), 1 ≤ must → must ≤ 4 → RdS w0 br A c ws w k → Calls Tryz.prog 46 #[.pointer (some ⟨br, 0, none⟩), .int .i64 (must : Int)] w (Ans w0 br A c ws k (Climb ws must k))

set_option maxRecDepth 100000 in
set_option maxHeartbeats 4000000 in
theorem alone_any {w0 w : World} {br : Nat} {A : Option Addr} {c : Nat} {ws : List ByteArray} {k : Nat} (C : RdC w0 A ws) (S : RdS w0 br A c ws w k) (hk : k ≤ ws.length) (ih : k < ws.length → ClimbOk w0 br A c ws (k + 1)) :
    Calls Tryz.prog 116 #[.pointer (some ⟨br, 0, none⟩)] w (Ans w0 br A c ws k (Alone ws k)) := by
  have HN := Lib.hid (next_any C S (by omega))
  have hsz := C.size k
  have HPI := Lib.hid (peek_in (ws := ws) (k := k))
  have HC := Lib.hid C
  have hew : ByteArray.empty ≠ sLp := by decide
  clear C S
  by_cases h1 : peekL ws k = sLp
  · have hlt : k < ws.length := HPI.out (by rw [h1]; decide)
    have HI := Lib.hid (ih hlt)
    have HE := Lib.hid h1
    rw [h1] at HN
    unfold sLp at HN
    clear h1 ih hsz
    go_enter Tryz.func116, Tryz.ntmps116
    go_wp2_with fail
    refine HN.out.mono ?_
    rintro e w1 ⟨rfl, S1⟩
    have HS1 := Lib.hid S1
    clear S1 HN
    go_wp2_with fail
    refine (HI.out 1 w1 (by omega) (by omega) HS1.out).mono ?_
    rintro e w2 (⟨p, k1, hr, rfl, S2, hk1, hk2, hwt⟩ | ⟨v, k1, hr, rfl, hif, hb⟩)
    · have HN2 := Lib.hid (next_any HC.out S2 (by omega))
      have HR := Lib.hid hr
      have HPI2 := Lib.hid (peek_in (ws := ws) (k := k1))
      clear S2 hr
      by_cases h2 : peekL ws k1 = sRp
      · have hlt2 : k1 < ws.length := HPI2.out (by rw [h2]; decide)
        have HE2 := Lib.hid h2
        rw [h2] at HN2
        unfold sRp at HN2
        clear h2
        have HPV := Lib.hid (show ∃ v, partV p = v from ⟨_, rfl⟩)
        obtain ⟨pv, hpv⟩ := HPV.out
        have HPV2 := Lib.hid hpv
        rw [hpv]
        clear hpv HPV
        go_wp2_with fail
        refine HN2.out.mono ?_
        rintro e w3 ⟨rfl, S3⟩
        have HS3 := Lib.hid S3
        clear S3 HN2
        go_wp2_with fail
        go_ret2
        exact .inl ⟨p, k1 + 1, .inOk HE.out HR.out HE2.out, by rw [HPV2.out]; rfl, HS3.out, by omega, by omega, by omega⟩
      · have q2 : ((peekL ws k1).toList == [41]) = false := by rw [isS]; exact decide_eq_false h2
        have HE2 := Lib.hid h2
        obtain ⟨t, ht⟩ : ∃ t, t = peekL ws k1 := ⟨_, rfl⟩
        rw [← ht] at HN2 q2
        obtain ⟨tp1, up1, hpv⟩ := partV_form p
        rw [hpv]
        clear h2 ht hpv
        go_wp2_with fail
        refine HN2.out.mono ?_
        rintro e w3 ⟨rfl, S3⟩
        have HS3 := Lib.hid S3
        clear S3 HN2
        go_wp2_with fail
        go_ret2
        exact .inr ⟨_, k1 + 1, .inBad HE.out HR.out HE2.out, rfl, .inr ⟨_, _, rfl⟩, HS3.out.bel⟩
    · have HR := Lib.hid hr
      have HB := Lib.hid hb
      have HIF := Lib.hid hif
      clear hr hb hif
      go_wp2_with fail
      go_ret2
      exact .inr ⟨_, k1, .inNo HE.out HR.out, rfl, HIF.out, HB.out⟩
  · have q1 : ((peekL ws k).toList == [40]) = false := by rw [isS]; exact decide_eq_false h1
    have HE := Lib.hid h1
    clear ih h1
    have HNM := Lib.hid (fun (W : World) => nameOk_any (peekL ws k) W hsz)
    have HTK := Lib.hid (fun (W : World) (hW : LaidW W) => tokOk_any 2 (peekL ws k) W hsz hW)
    rw [show okL 2 (L (peekL ws k)) = decL (L (peekL ws k)) from rfl] at HTK
    obtain ⟨nb, hnb⟩ : ∃ nb, nb = nameB (peekL ws k) := ⟨_, rfl⟩
    obtain ⟨db, hdb⟩ : ∃ db, db = decL (L (peekL ws k)) := ⟨_, rfl⟩
    rw [← hnb] at HNM
    rw [← hdb] at HTK
    have HNB := Lib.hid hnb
    have HDB := Lib.hid hdb
    have HAT := Lib.hid (fun (W : World) (h : db = true) => Tryz.strconv_Atoi_ok (peekL ws k) (by omega) _ (dec_atoi (hdb.symm.trans h)) W)
    have HVB := Lib.hid (fun (h : db = true) => Lib.atoiAll_bounds (dec_atoi (hdb.symm.trans h)))
    obtain ⟨s, hs⟩ : ∃ s, s = peekL ws k := ⟨_, rfl⟩
    have HSE := Lib.hid hs
    rw [← hs] at HN q1 HNM HTK HAT HVB
    clear hnb hdb hs hsz
    go_enter Tryz.func116, Tryz.ntmps116
    go_wp2_with fail
    refine HN.out.mono ?_
    rintro e w1 ⟨rfl, S1⟩
    have HS1 := Lib.hid S1
    clear S1 HN
    go_wp2_with fail
    refine (HNM.out w1).mono ?_
    rintro e w2 ⟨rfl, hb2⟩
    have HS2 := Lib.hid (HS1.out.below hb2)
    clear hb2 HS1 HNM
    cases nb with
    | true =>
      have hlt : k < ws.length := HPI.out (by intro e; have := HNB.out; rw [e] at this; revert this; decide)
      go_wp2_with fail
      go_ret2
      exact .inl ⟨.name (peekL ws k), k + 1, .name HE.out HNB.out.symm, by rw [HSE.out]; rfl, HS2.out, by omega, by omega, by have := name_size HNB.out.symm; simp only [Pt.ex, Ex.wt, Ex.wts]; omega⟩
    | false =>
      have HTK2 := Lib.hid (HTK.out w2 (HC.out.laid.below HS2.out.bel))
      clear HTK
      go_wp2_with fail
      refine HTK2.out.mono ?_
      rintro e w3 ⟨rfl, hb3⟩
      have HS3 := Lib.hid (HS2.out.below hb3)
      clear hb3 HS2 HTK2
      cases db with
      | true =>
        have hlt : k < ws.length := HPI.out (by intro e; have := HDB.out; rw [e] at this; revert this; decide)
        have HA2 := Lib.hid (HAT.out w3 rfl)
        obtain ⟨v, hv⟩ : ∃ v : Int, v = (decV 0 (L s) : Int) := ⟨_, rfl⟩
        rw [← hv] at HA2
        have HV := Lib.hid hv
        clear hv HAT HVB
        go_wp2_with fail
        refine HA2.out.mono ?_
        rintro e w4 ⟨rfl, hw4⟩
        have hb4 : Below w3.heap.size w3 w4 := by
          rcases hw4 with rfl | ⟨t, rfl⟩
          · exact Below.refl _ _
          · exact Lib.bytesWorld_below w3 _ t
        have HS4 := Lib.hid (HS3.out.below hb4)
        clear hw4 hb4 HA2 HS3
        go_wp2_with fail
        go_quiet (fail)
        go_wp2_with fail
        go_ret2
        exact .inl ⟨.num (decV 0 (L (peekL ws k)) : Int), k + 1, .num HE.out HNB.out.symm HDB.out.symm, by rw [HV.out, HSE.out]; rfl, HS4.out.below (below_draws _), by omega, by omega, by simp only [Pt.ex, Ex.wt, Ex.wts]; have : ByteArray.empty.size = 0 := rfl; omega⟩
      | false =>
        go_wp2_with fail
        go_ret2
        exact .inr ⟨_, k + 1, .no HE.out HNB.out.symm HDB.out.symm, rfl, .inl rfl, HS3.out.bel⟩
/-- Where the reader of types stands. -/
def TRel (w0 : World) (br : Nat) (A : Option Addr) (c : Nat) (ws : List ByteArray) (k gk : Nat) (p ok : Value) (wr : World) : Prop :=
  (∃ q k2, p = partV q ∧ ok = .bool true ∧ k2 + gk = ws.length + 1 ∧ k < k2 ∧ k2 ≤ ws.length ∧ RdS w0 br A c ws wr k2 ∧ q.ex.wt + 9 * k ≤ 9 * k2 ∧ ∀ r k', ALoop ws q k2 r k' → Tight ws k r k') ∨ (ok = .bool false ∧ IsIf p ∧ (∃ k', Tight ws k none k') ∧ Below w0.heap.size w0 wr)
set_option maxRecDepth 100000 in
set_option maxHeartbeats 4000000 in
theorem tight_any {w0 w : World} {br : Nat} {A : Option Addr} {c : Nat} {ws : List ByteArray} {k : Nat} (C : RdC w0 A ws) (S : RdS w0 br A c ws w k) (hk : k ≤ ws.length) (ih : k < ws.length → ClimbOk w0 br A c ws (k + 1)) :
    Calls Tryz.prog 84 #[.pointer (some ⟨br, 0, none⟩)] w (Ans w0 br A c ws k (Tight ws k)) := by
  have HA := Lib.hid (alone_any C S hk ih)
  have HC := Lib.hid C
  clear S C ih
  go_enter Tryz.func84, Tryz.ntmps84
  go_wp2_with fail
  refine HA.out.mono ?_
  intro e w1 hans
  obtain ⟨pv, ok, gk0, he, HT⟩ : ∃ pv ok gk0, e = .returned (.tuple #[pv, ok]) ∧ TRel w0 br A c ws k gk0 pv ok w1 := by
    rcases hans with ⟨p, k1, hr, rfl, S2, hk1, hk2, hwt⟩ | ⟨v, k1, hr, rfl, hif, hb⟩
    · exact ⟨partV p, .bool true, ws.length + 1 - k1, rfl, .inl ⟨p, k1, rfl, rfl, by omega, hk1, hk2, S2, hwt, fun r k' h => .go hr h⟩⟩
    · exact ⟨v, .bool false, 0, rfl, .inr ⟨rfl, hif, ⟨k1, .no hr⟩, hb⟩⟩
  subst he
  clear hans HA
  have HT0 := Lib.hid HT
  clear HT
  go_wp2_with fail
  go_loopg [4, 5, 6] gk0 (fun gk p ok tn wr => TRel w0 br A c ws k gk p ok wr)
  case atStart => exact HT0.out
  case round =>
    clear HT0
    rcases hrel with ⟨q, k2, rfl, rfl, hg, hk1, hk2, S2, hwt, hall⟩ | ⟨rfl, hif, ⟨k1, hr⟩, hb⟩
    · have HP := Lib.hid (peek_any HC.out S2)
      have HS2 := Lib.hid S2
      have HALL := Lib.hid hall
      have HPI := Lib.hid (peek_in (ws := ws) (k := k2))
      obtain ⟨t1, u1, hpv⟩ := partV_form q
      have HPV2 := Lib.hid hpv
      rw [hpv]
      clear S2 hall hpv
      by_cases h1 : peekL ws k2 = sAs
      · have hlt : k2 < ws.length := HPI.out (by rw [h1]; decide)
        have HE := Lib.hid h1
        rw [h1] at HP
        unfold sAs at HP
        clear h1
        go_wp2_with fail
        refine HP.out.mono ?_
        rintro e w2 ⟨rfl, hb2⟩
        have HN := Lib.hid (next_any HC.out (HS2.out.below hb2) (by omega))
        clear hb2 HP
        rw [HE.out] at HN
        unfold sAs at HN
        go_wp2_with fail
        refine HN.out.mono ?_
        rintro e w3 ⟨rfl, S3⟩
        have HN2 := Lib.hid (next_any HC.out S3 (by omega))
        have HTY := Lib.hid (fun W => typeOk_any (peekL ws (k2 + 1)) W)
        obtain ⟨tb, htb⟩ : ∃ tb, tb = typeB (peekL ws (k2 + 1)) := ⟨_, rfl⟩
        have HTB := Lib.hid htb
        rw [← htb] at HTY
        obtain ⟨t, ht⟩ : ∃ t, t = peekL ws (k2 + 1) := ⟨_, rfl⟩
        have HTE := Lib.hid ht
        rw [← ht] at HTY HN2
        clear S3 htb ht HN
        go_wp2_with fail
        refine HN2.out.mono ?_
        rintro e w4 ⟨rfl, S4⟩
        have HS4 := Lib.hid S4
        clear S4 HN2
        go_wp2_with fail
        refine (HTY.out w4).mono ?_
        rintro e w5 ⟨rfl, rfl⟩
        go_wp2_with fail
        cases tb with
        | true =>
          have hlt2 : k2 + 1 < ws.length := peek_in (by intro e; have := HTB.out; rw [e] at this; revert this; decide)
          go_roundg (gk - 2)
          case measure => omega
          case rel => exact .inl ⟨.«as» (peekL ws (k2 + 1)) q, k2 + 2, by rw [HTE.out, ← HPV2.out]; rfl, rfl, by omega, by omega, by omega, HS4.out, by have := type_size HTB.out.symm; simp only [Pt.ex, Ex.wt, Ex.wts]; omega, fun r k' h => HALL.out r k' (.more HE.out HTB.out.symm h)⟩
        | false =>
          go_roundg (gk - 1)
          case measure => omega
          case rel => exact .inr ⟨rfl, .inr ⟨_, _, rfl⟩, ⟨k2 + 2, HALL.out _ _ (.no HE.out HTB.out.symm)⟩, HS4.out.bel⟩
      · have q1 : ((peekL ws k2).toList == [97, 115]) = false := by rw [isS]; exact decide_eq_false h1
        have HE := Lib.hid h1
        obtain ⟨t, ht⟩ : ∃ t, t = peekL ws k2 := ⟨_, rfl⟩
        rw [← ht] at HP q1
        clear h1 ht
        go_wp2_with fail
        refine HP.out.mono ?_
        rintro e w2 ⟨rfl, hb2⟩
        have HS3 := Lib.hid (HS2.out.below hb2)
        clear hb2 HP
        go_wp2_with fail
        go_ret2
        exact .inl ⟨q, k2, HALL.out _ _ (.stop HE.out), by rw [HPV2.out]; rfl, HS3.out, by omega, by omega, hwt⟩
    · have HR := Lib.hid hr
      have HB := Lib.hid hb
      have HIF := Lib.hid hif
      clear hr hb hif
      go_wp2_with fail
      go_ret2
      exact .inr ⟨_, k1, HR.out, rfl, HIF.out, HB.out⟩
/-- Where the reader that climbs stands. -/
def CRel (w0 : World) (br : Nat) (A : Option Addr) (c : Nat) (ws : List ByteArray) (k must gk : Nat) (p ok : Value) (wr : World) : Prop :=
  (∃ q k2, p = partV q ∧ ok = .bool true ∧ k2 + gk = ws.length + 1 ∧ k < k2 ∧ k2 ≤ ws.length ∧ RdS w0 br A c ws wr k2 ∧ q.ex.wt + 9 * k ≤ 9 * k2 ∧ ∀ r k', CLoop ws must q k2 r k' → Climb ws must k r k') ∨ (ok = .bool false ∧ IsIf p ∧ (∃ k', Climb ws must k none k') ∧ Below w0.heap.size w0 wr)
theorem hold_le3 (s : ByteArray) : hold s ≤ 3 := by unfold hold; repeat' split
                                                    all_goals omega
set_option maxRecDepth 100000 in
set_option maxHeartbeats 4000000 in
theorem climb_any {w0 : World} {br : Nat} {A : Option Addr} {c : Nat} {ws : List ByteArray} (C : RdC w0 A ws) : ∀ (m k : Nat), ws.length - k = m → k ≤ ws.length → ClimbOk w0 br A c ws k := by
  intro m
  induction m using Nat.strongRecOn with
  | ind m ihm =>
    intro k hm hk must w hm1 hm4 S
    have IH := Lib.hid (show ∀ k', k < k' → k' ≤ ws.length → ClimbOk w0 br A c ws k' from fun k' h1 h2 => ihm (ws.length - k') (by omega) k' rfl h2)
    have HT := Lib.hid (tight_any C S hk (fun h => IH.out (k + 1) (by omega) (by omega)))
    have HC := Lib.hid C
    clear ihm hm S
    go_enter Tryz.func46, Tryz.ntmps46
    go_wp2_with fail
    refine HT.out.mono ?_
    intro e w1 hans
    obtain ⟨pv, ok, gk0, he, HR0⟩ : ∃ pv ok gk0, e = .returned (.tuple #[pv, ok]) ∧ CRel w0 br A c ws k must gk0 pv ok w1 := by
      rcases hans with ⟨p, k1, hr, rfl, S2, hk1, hk2, hwt⟩ | ⟨v, k1, hr, rfl, hif, hb⟩
      · exact ⟨partV p, .bool true, ws.length + 1 - k1, rfl, .inl ⟨p, k1, rfl, rfl, by omega, hk1, hk2, S2, hwt, fun r k' h => .go hr h⟩⟩
      · exact ⟨v, .bool false, 0, rfl, .inr ⟨rfl, hif, ⟨k1, .no hr⟩, hb⟩⟩
    subst he
    clear hans HT
    have HT0 := Lib.hid HR0
    clear HR0
    go_wp2_with fail
    go_loopg [6, 7] gk0 (fun gk p ok wr => CRel w0 br A c ws k must gk p ok wr)
    case atStart => exact HT0.out
    case round =>
      clear HT0
      rcases hrel with ⟨q, k2, rfl, rfl, hg, hk1, hk2, S2, hwt, hall⟩ | ⟨rfl, hif, ⟨k1, hr⟩, hb⟩
      · have HP := Lib.hid (peek_any HC.out S2)
        have HS2 := Lib.hid S2
        have HALL := Lib.hid hall
        have HPI := Lib.hid (peek_in (ws := ws) (k := k2))
        obtain ⟨t1, u1, hpv⟩ := partV_form q
        have HPV2 := Lib.hid hpv
        rw [hpv]
        have HMH := Lib.hid (fun W => markHold_any (peekL ws k2) W)
        have hh3 := hold_le3 (peekL ws k2)
        obtain ⟨hd, hhd⟩ : ∃ hd, hd = hold (peekL ws k2) := ⟨_, rfl⟩
        have HHD := Lib.hid hhd
        rw [← hhd] at HMH hh3
        obtain ⟨t, ht⟩ : ∃ t, t = peekL ws k2 := ⟨_, rfl⟩
        have HTE := Lib.hid ht
        rw [← ht] at HP HMH
        clear S2 hall hpv hhd ht
        by_cases h1 : must ≤ hd
        · have hlt : k2 < ws.length := HPI.out (by intro e; have := HHD.out; rw [e, show hold ByteArray.empty = 0 by decide] at this; omega)
          have q1 : decide ((must : Int) ≤ (hd : Int)) = true := by simp; omega
          go_wp2_with fail
          refine HP.out.mono ?_
          rintro e w2 ⟨rfl, hb2⟩
          have HN := Lib.hid (next_any HC.out (HS2.out.below hb2) (by omega))
          rw [← HTE.out] at HN
          clear hb2 HP
          go_wp2_with fail
          refine (HMH.out w2).mono ?_
          rintro e w2' ⟨rfl, rfl⟩
          go_wp2_with fail
          refine HN.out.mono ?_
          rintro e w3 ⟨rfl, S3⟩
          have HS3 := Lib.hid S3
          clear S3 HN
          go_wp2_with fail
          refine (HMH.out w3).mono ?_
          rintro e w3' ⟨rfl, rfl⟩
          have HCL := Lib.hid (IH.out (k2 + 1) (by omega) (by omega) (hd + 1) w3 (by omega) (by omega) HS3.out)
          rw [show ((hd + 1 : Nat) : Int) = (hd : Int) + 1 by omega] at HCL
          go_wp2_with fail
          refine HCL.out.mono ?_
          rintro e w4 (⟨p4, k4, hr4, rfl, S4, hk41, hk42, hwt4⟩ | ⟨v4, k4, hr4, rfl, hif4, hb4⟩)
          · obtain ⟨t2, u2, hpv2⟩ := partV_form p4
            have HPV4 := Lib.hid hpv2
            rw [hpv2]
            have HS4 := Lib.hid S4
            have HR4 := Lib.hid hr4
            clear S4 hr4 hpv2 HCL
            go_wp2_with fail
            go_roundg (ws.length + 1 - k4)
            case measure => omega
            case rel => exact .inl ⟨.two (peekL ws k2) q p4, k4, by rw [HTE.out, ← HPV2.out, ← HPV4.out]; rfl, rfl, by omega, by omega, by omega, HS4.out, by have := hold_size (s := peekL ws k2) (by rw [← HHD.out]; omega); simp only [Pt.ex, Ex.wt, Ex.wts]; omega, fun r k' h => HALL.out r k' (.more (by rw [← HHD.out]; exact h1) (by rw [← HHD.out]; exact HR4.out) h)⟩
          · have HR4 := Lib.hid hr4
            have HB4 := Lib.hid hb4
            clear hr4 hb4 HCL
            rcases hif4 with rfl | ⟨t4, u4, rfl⟩
            all_goals
              go_wp2_with fail
              go_roundg (gk - 1)
              case measure => omega
              case rel => exact .inr ⟨rfl, .inr ⟨_, _, rfl⟩, ⟨k4, HALL.out _ _ (.no (by rw [← HHD.out]; exact h1) (by rw [← HHD.out]; exact HR4.out))⟩, HB4.out⟩
        · have q1 : decide ((must : Int) ≤ (hd : Int)) = false := by simp; omega
          go_wp2_with fail
          refine HP.out.mono ?_
          rintro e w2 ⟨rfl, hb2⟩
          have HS3 := Lib.hid (HS2.out.below hb2)
          clear hb2 HP
          go_wp2_with fail
          refine (HMH.out w2).mono ?_
          rintro e w2' ⟨rfl, rfl⟩
          go_wp2_with fail
          go_ret2
          exact .inl ⟨q, k2, HALL.out _ _ (.stop (by rw [← HHD.out]; omega)), by rw [HPV2.out]; rfl, HS3.out, by omega, by omega, hwt⟩
      · have HR := Lib.hid hr
        have HB := Lib.hid hb
        have HIF := Lib.hid hif
        clear hr hb hif
        go_wp2_with fail
        go_ret2
        exact .inr ⟨_, k1, HR.out, rfl, HIF.out, HB.out⟩
end Go.Proofs.YtodioplkgjpcjaaGreatDoor
