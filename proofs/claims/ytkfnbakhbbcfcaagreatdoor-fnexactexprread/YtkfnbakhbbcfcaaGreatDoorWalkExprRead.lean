/-
  'laws.FnExactExprRead' returns true at whatever words: impl.ExprRead and the model's ExprRead answer the same in every field, nothing is written into the list, and each answer is memory of its own.
  Conditions: the library's variables hold what their initialisers lay (tied to the program's text); every list of strings.
-/
import Derived.Test.YtkfnbakhbbcfcaaGreatDoorSpecRead5
import Derived.Test.YtkfnbakhbbcfcaaGreatDoorEqEx
import Derived.Test.YtkfnbakhbbcfcaaGreatDoorMarkEx
import Derived.Test.YtkfnbakhbbcfcaaGreatDoorMarkStrs
import Derived.Test.YtkfnbakhbbcfcaaGreatDoorLaid
import Derived.Test.YtkfnbakhbbcfcaaGreatDoorCards
import Derived.Test.YtkfnbakhbbcfcaaGreatDoorTie
import Derived.Test.YtkfnbakhbbcfcaaGreatDoorFacts
import Derived.Test.YtkfnbakhbbcfcaaGreatDoorRows
import Derived.WalkKit
import Derived.ProofKit
import Derived.OpenShut
import Derived.ShutString
import Derived.ChangeOld
import Derived.Below
import Derived.Lib.SmallJoins
import Derived.SliceStrings
namespace Go.Proofs.YtkfnbakhbbcfcaaGreatDoor.fnExactExprRead
open Go.ChangeShapes Go.WideShapes Go.ChangeAt Go.RowKit Go.Joins
open Go.ChangeMaps (open_string shut_string)


theorem markExpr_one (e : Ex) (A : Option Addr) (c lo hi : Nat) (w : World) (hO : OwnE w e lo hi A) (hhi : hi ≤ w.heap.size) (hl : 1 + 3 * Ex.nodess e.kids ≤ 2 ^ 39) :
    Calls Tryz.prog 45 #[.agg #[.int .i64 e.kind, .int .i64 e.n, .string e.s, .slice A e.kids.length c], .int .i64 1] w fun r w' => r = .returned (.int .i64 ((1 + 3 * Ex.nodess e.kids : Nat) : Int)) ∧ OwnE w' (.mk e.kind e.n e.s (marksE e.kids 1)) lo hi A ∧ Turned lo hi w w' :=
  markExpr_any e A c 1 lo hi w hO hhi (by omega) hl
theorem heldExpr_one (e : Ex) (A : Option Addr) (c B : Nat) (w : World) (hA : KidsAt w B A (marksE e.kids 1)) (hB : B ≤ w.heap.size) (hl : 1 + 3 * Ex.nodess e.kids ≤ 2 ^ 39) :
    Calls Tryz.prog 46 #[.agg #[.int .i64 e.kind, .int .i64 e.n, .string e.s, .slice A e.kids.length c], .int .i64 1] w fun r w' => r = .returned (.int .i64 ((1 + 3 * Ex.nodess e.kids : Nat) : Int)) ∧ Below w.heap.size w w' :=
  heldExpr_ok e _ _ _ A c 1 B w hA hB (by omega) hl
theorem markStringS_one (base : Nat) (A : Option Addr) (c n : Nat) (xs : List Value) (w : World) (hl : 1 + n ≤ 2 ^ 40) (hown : w.ownsRow base 9 1 (.slice A n c) n xs) (hbase : base ≤ w.heap.size) (hstr : ∀ u ∈ xs, ∃ s, u = Value.string s) :
    Calls Tryz.prog 44 #[.slice A n c, .int .i64 1] w fun e w' => e = .returned (.int .i64 ((1 + n : Nat) : Int)) ∧ w'.ownsRow base 9 1 (.slice A n c) n (marksV 1 n) ∧ Below base w w' ∧ w.grownBy w' (Value.slice A n c).ownBlock :=
  markStringS_own base A c 1 n xs w (by omega) hl hown hbase hstr
theorem box_cells {w w' : World} {b : Nat} {v0 v1 v2 v3 : Value} (h : w'.heap[b]? = w.heap[b]?) (h0 : w.cell? ⟨b, 0, none⟩ = some v0) (h1 : w.cell? ⟨b, 1, none⟩ = some v1) (h2 : w.cell? ⟨b, 2, none⟩ = some v2) (h3 : w.cell? ⟨b, 3, none⟩ = some v3) :
    w'.cell? ⟨b, 0, none⟩ = some v0 ∧ w'.cell? ⟨b, 1, none⟩ = some v1 ∧ w'.cell? ⟨b, 2, none⟩ = some v2 ∧ w'.cell? ⟨b, 3, none⟩ = some v3 :=
  ⟨(cell_same h 0).trans h0, (cell_same h 1).trans h1, (cell_same h 2).trans h2, (cell_same h 3).trans h3⟩
theorem pt_wt (p : Pt) : p.fine = true → p.ex.wt ≤ 9 * p.nodes := by
  induction p with
  | num n => intro _; simp only [Pt.ex, Ex.wt, Ex.wts, Pt.nodes]; have : ByteArray.empty.size = 0 := rfl; omega
  | name s => intro h; have := name_size h; simp only [Pt.ex, Ex.wt, Ex.wts, Pt.nodes]; omega
  | two s a b ia ib =>
    intro h
    simp only [Pt.fine, Bool.and_eq_true, decide_eq_true_eq] at h
    have h1 := ia h.2.1
    have h2 := ib h.2.2
    have h3 := hold_size h.1
    simp only [Pt.ex, Ex.wt, Ex.wts, Pt.nodes]; omega
  | «as» s a ia =>
    intro h
    simp only [Pt.fine, Bool.and_eq_true] at h
    have h1 := ia h.2
    have h3 := type_size h.1
    simp only [Pt.ex, Ex.wt, Ex.wts, Pt.nodes]; omega
/-- Both readers answer the same, whatever the words. -/
theorem reads_one (ws : List ByteArray) : ∃ (x : Ex) (b : Bool), x.wt ≤ 200 ∧
    (∀ w r w', ReadsS ws w r w' → ∃ A c, r = .returned (.tuple #[.agg #[.int .i64 x.kind, .int .i64 x.n, .string x.s, .slice A x.kids.length c], .bool b]) ∧ x.kids.length ≤ c ∧ KidsS w' (fun k => w.heap.size ≤ k ∧ k < w'.heap.size) A x.kids ∧ Below w.heap.size w w') ∧
    (∀ w r w', Reads ws w r w' → ∃ A c, r = .returned (.tuple #[.agg #[.int .i64 x.kind, .int .i64 x.n, .string x.s, .slice A x.kids.length c], .bool b]) ∧ x.kids.length ≤ c ∧ OwnE w' x w.heap.size w'.heap.size A ∧ Below w.heap.size w w') := by
  by_cases h : ∃ p, IsRead ws p
  · obtain ⟨p, hp⟩ := h
    have hno : ¬ NoRead ws := fun hn => hn hp.1 p hp.2.1 hp.2.2.1
    refine ⟨p.ex, true, ?_, ?_, ?_⟩
    · have h1 := pt_wt p (ok_fine hp.2.1)
      have h2 := (ok_depth hp.2.1).2
      omega
    · rintro w r w' (⟨q, A, c, hq, rfl, h1, h2, h3⟩ | ⟨hn, _⟩)
      · obtain rfl := hp.2.2.2 q hq.2.1 hq.2.2.1
        exact ⟨A, c, rfl, h1, h2, h3⟩
      · exact absurd hn hno
    · rintro w r w' (⟨q, A, c, hq, rfl, h1, h2, h3⟩ | ⟨hn, _⟩)
      · obtain rfl := hp.2.2.2 q hq.2.1 hq.2.2.1
        exact ⟨A, c, rfl, h1, h2, h3⟩
      · exact absurd hn hno
  · refine ⟨Ex.zero, false, by decide, ?_, ?_⟩
    · rintro w r w' (⟨q, A, c, hq, rfl, h1, h2, h3⟩ | ⟨hn, rfl, h3⟩)
      · exact absurd ⟨q, hq⟩ h
      · exact ⟨none, 0, rfl, Nat.le_refl _, .nil, h3⟩
    · rintro w r w' (⟨q, A, c, hq, rfl, h1, h2, h3⟩ | ⟨hn, rfl, h3⟩)
      · exact absurd ⟨q, hq⟩ h
      · exact ⟨none, 0, rfl, Nat.le_refl _, own_nil _ _ _ _ _ _ _ h3.size, h3⟩

set_option maxRecDepth 100000 in
set_option maxHeartbeats 16000000 in
theorem walk (A : Option Addr) (n c : Nat) (ss : List ByteArray) (w : World) (hss : IsStrs w A n ss ∧ n ≤ c) (hlaid : LaidW w) :
    Calls Tryz.prog 8 #[.slice A n c] w fun e w' => e = .returned (.bool true) ∧ Below w.heap.size w w' := by
  obtain ⟨hss, hnc⟩ := hss
  have HSZ := Lib.hid (szStringS_any A c n 1048576 ss w hss (by omega) (by omega))
  obtain ⟨rfl, hm, hA, hz⟩ := hss
  have HA := Lib.hid hA
  have HL := Lib.hid hlaid
  clear hA hz hm hlaid
  go_enter Tryz.func8, Tryz.ntmps8
  go_wp2_with fail
  refine HSZ.out.mono ?_
  rintro e w' ⟨r, rfl, hr, rfl⟩
  by_cases hneg : r < 0
  · go_wp2_with fail
    go_ret
    exact ⟨rfl, Below.refl _ _⟩
  have htot : tot ss ≤ 1048576 := by have := hr (by omega); omega
  have hlen := length_le_tot ss
  have hsm : ∀ s ∈ ss, s.size ≤ 2 ^ 40 := by
    intro s hs
    obtain ⟨i, hi, rfl⟩ := List.getElem_of_mem hs
    have h1 := tot_take_succ ss i hi
    have h2 := tot_take_le ss (i + 1)
    omega
  obtain ⟨x, b, hxw, hS1, hI1⟩ := reads_one ss
  have hnox : 1 + 3 * Ex.nodess x.kids ≤ 2 ^ 39 := by
    have h1 := x.nodes_le
    have h2 : x.nodes = 1 + Ex.nodess x.kids := by cases x; rfl
    omega
  have hxl : x.kids.length ≤ 2 ^ 40 := by have h1 := Ex.nodess_length x.kids; omega
  have HT := Lib.hid (fun (V : World) (hV : Below w.heap.size w V) => show Calls Tryz.prog 41 #[.slice A ss.length c] V (Makes V 9 (ss.map strV)) from toStringS_any A c ss V (by omega) (HA.out.below hV))
  have HS := Lib.hid (fun (A' : Option Addr) (c' : Nat) (V : World) (hV : SlIs V A' (ss.map strV)) => (specExprRead_any A' c' ss V ⟨hV, hsm, by omega⟩).mono (fun r w' h => hS1 V r w' h))
  have HI := Lib.hid (fun (A' : Option Addr) (c' : Nat) (V : World) (hV : SlIs V A' (ss.map strV)) (hw : Below w.heap.size w V) => (exprRead_any A' c' ss V hV (HL.out.below hw) hsm (by omega)).mono (fun r w' h => hI1 V r w' h))
  have HQ := Lib.hid (fun (A1 A2 : Option Addr) (c1 c2 : Nat) (V : World) (h1 : SlIs V A1 (ss.map strV)) (h2 : SlIs V A2 (ss.map strV)) => eqStringS_same A1 A2 c1 c2 ss V (by omega) h1 h2)
  have HQX := Lib.hid (fun (A1 A2 : Option Addr) (c1 c2 : Nat) (V : World) (h1 : KidsAt V V.heap.size A1 x.kids) (h2 : KidsAt V V.heap.size A2 x.kids) (h3 : x.kids.length ≤ c1) (h4 : x.kids.length ≤ c2) => eqExpr_same x A1 A2 c1 c2 V.heap.size V h1 h2 h3 h4 (Nat.le_refl _) (by omega))
  have HKX := Lib.hid (fun (V : World) (lo hi : Nat) (A' : Option Addr) (h : OwnE V x lo hi A') (hB : hi ≤ V.heap.size) => own_kids x lo hi A' V.heap.size h hB)
  have HMS := Lib.hid (fun (base : Nat) (A' : Option Addr) (c' : Nat) (V : World) (hown : V.ownsRow base 9 1 (.slice A' ss.length c') ss.length (ss.map strV)) (hbase : base ≤ V.heap.size) => markStringS_one base A' c' ss.length (ss.map strV) V (by omega) hown hbase (fun u hu => by obtain ⟨s, _, rfl⟩ := List.mem_map.1 hu; exact ⟨s, rfl⟩))
  have HMG := Lib.hid (fun (A' : Option Addr) (c' lo hi : Nat) (V : World) (h1 : OwnE V x lo hi A') (h2 : hi ≤ V.heap.size) => markExpr_one x A' c' lo hi V h1 h2 hnox)
  have HHG := Lib.hid (fun (A' : Option Addr) (c' : Nat) (V : World) (h1 : KidsAt V V.heap.size A' (marksE x.kids 1)) => heldExpr_one x A' c' V.heap.size V h1 (Nat.le_refl _) hnox)
  have HMK := Lib.hid (fun (V : World) (lo hi : Nat) (A' : Option Addr) (h : OwnE V (.mk x.kind x.n x.s (marksE x.kids 1)) lo hi A') (hB : hi ≤ V.heap.size) => (show KidsAt V V.heap.size A' (marksE x.kids 1) from own_kids _ lo hi A' V.heap.size h hB))
  have HOX := Lib.hid (fun (V V' : World) (lo hi : Nat) (A' : Option Addr) (h : OwnE V x lo hi A') (hk : ∀ k, lo ≤ k → k < hi → V'.heap[k]? = V.heap[k]?) => own_keep x lo hi A' hk h)
  generalize marksE x.kids 1 = mk at *
  generalize Ex.nodess x.kids = nx at *
  have hn20 : ss.length ≤ 1048576 := by omega
  generalize hnn : ss.length = n at *
  have HNN := Lib.hid hnn
  clear hr hS1 hI1 hsm hxw hnn htot hlen
  have q0 : decide (r < 0) = false := by simpa using hneg
  have hbb : (b != b) = false := by simp
  go_wp2_with fail
  refine (HT.out w (Below.refl _ _)).mono ?_
  rintro r w1 ⟨v1, rfl, hv1, hb1⟩
  rw [List.length_map, HNN.out] at hv1
  obtain ⟨A1, c1, rfl, hc1⟩ := own_slice hv1
  have SA1 := Lib.hid (SlIs.own hv1)
  clear hv1
  go_wp2_with fail
  refine (HS.out A1 c1 w1 SA1.out).mono ?_
  rintro r w2 ⟨A2, c2, rfl, hc2, hK2, hb2'⟩
  have hb2 := hb1.trans (hb2'.mono hb1.size)
  obtain ⟨V2, hV2⟩ : ∃ V2, V2 = w2.alloc (.cells #[.int .i64 x.kind, .int .i64 x.n, .string x.s, .slice A2 x.kids.length c2] 25) := ⟨_, rfl⟩
  have hbV2 : Below w2.heap.size w2 V2 := by rw [hV2]; exact (Below.refl _ w2).alloc (Nat.le_refl _) _
  have hsV2 : w2.heap.size < V2.heap.size := by rw [hV2]; simp
  have hbV := hb2.trans (hbV2.mono hb2.size)
  have KW := Lib.hid (show KidsAt V2 w2.heap.size A2 x.kids from (hK2.at_ (fun b h => h.2)).keep hbV2)
  have d0 : V2.cell? ⟨w2.heap.size, 0, none⟩ = some (.int .i64 x.kind) := by rw [hV2]; exact cell_made4 w2 _ _ 0 _ rfl
  have d1 : V2.cell? ⟨w2.heap.size, 1, none⟩ = some (.int .i64 x.n) := by rw [hV2]; exact cell_made4 w2 _ _ 1 _ rfl
  have d2 : V2.cell? ⟨w2.heap.size, 2, none⟩ = some (.string x.s) := by rw [hV2]; exact cell_made4 w2 _ _ 2 _ rfl
  have d3 : V2.cell? ⟨w2.heap.size, 3, none⟩ = some (.slice A2 x.kids.length c2) := by rw [hV2]; exact cell_made4 w2 _ _ 3 _ rfl

  clear hb2' hK2 SA1 hb1 hb2
  go_wp2_with fail
  rw [← hV2]
  refine (HT.out V2 hbV).mono ?_
  rintro r w3 ⟨v3, rfl, hv3, hb3⟩
  rw [List.length_map, HNN.out] at hv3
  obtain ⟨A3, c3, rfl, hc3⟩ := own_slice hv3
  have OW3 := Lib.hid hv3
  have SA3 := Lib.hid (SlIs.own hv3)
  have hb03 := hbV.trans (hb3.mono hbV.size)
  have hz3 := hb3.size
  clear hv3 hV2 hbV2
  go_wp2_with fail
  refine (HI.out A3 c3 w3 SA3.out hb03).mono ?_
  rintro r w4 ⟨A4, c4, rfl, hc4, hO4, hb4'⟩
  have hz4 := hb4'.size
  obtain ⟨W4, hW4⟩ : ∃ W4, W4 = w4.alloc (.cells #[.int .i64 x.kind, .int .i64 x.n, .string x.s, .slice A4 x.kids.length c4] 25) := ⟨_, rfl⟩
  have hbW4 : Below w4.heap.size w4 W4 := by rw [hW4]; exact (Below.refl _ w4).alloc (Nat.le_refl _) _
  have hsW4 : w4.heap.size < W4.heap.size := by rw [hW4]; simp
  have hb34 : Below w3.heap.size w3 W4 := hb4'.trans (hbW4.mono hz4)
  have S4 : Below V2.heap.size V2 W4 := hb3.trans (hb34.mono hz3)
  have B4 := hb03.trans (hb34.mono hb03.size)
  have HO4 := Lib.hid (HOX.out w4 W4 _ _ A4 hO4 (fun k _ h2 => hbW4.block k h2))
  have OW4 := Lib.hid (own_below OW3.out hb34)
  have SA4 := Lib.hid (SA3.out.below hb34)
  have g0 : W4.cell? ⟨w4.heap.size, 0, none⟩ = some (.int .i64 x.kind) := by rw [hW4]; exact cell_made4 w4 _ _ 0 _ rfl
  have g1 : W4.cell? ⟨w4.heap.size, 1, none⟩ = some (.int .i64 x.n) := by rw [hW4]; exact cell_made4 w4 _ _ 1 _ rfl
  have g2 : W4.cell? ⟨w4.heap.size, 2, none⟩ = some (.string x.s) := by rw [hW4]; exact cell_made4 w4 _ _ 2 _ rfl
  have g3 : W4.cell? ⟨w4.heap.size, 3, none⟩ = some (.slice A4 x.kids.length c4) := by rw [hW4]; exact cell_made4 w4 _ _ 3 _ rfl

  obtain ⟨y0, y1, y2, y3⟩ := box_cells (S4.block w2.heap.size hsV2) d0 d1 d2 d3
  have HB34 := Lib.hid hb34
  clear hO4 hb4' hb34 hb03
  rw [hW4] at y0 y1 y2 y3
  go_wp2_with fail
  rw [← hW4]
  refine (HQX.out A4 A2 c4 c2 W4 (HKX.out W4 _ _ A4 HO4.out (by omega)) ((KW.out.keep (S4.mono (by omega))).wide (by have := S4.size; omega)) hc4 hc2).mono ?_
  rintro r w5 ⟨rfl, hb5'⟩
  have S5 := S4.trans (hb5'.mono S4.size)
  have B5 := B4.trans (hb5'.mono B4.size)
  have hz5 := hb5'.size
  have SA5 := Lib.hid (SA4.out.below hb5')
  have R5 : ∀ k, k < W4.heap.size → w5.heap[k]? = W4.heap[k]? := fun k h => hb5'.block k h
  have OW5 := Lib.hid (own_below OW4.out hb5')
  clear y0 y1 y2 y3 hW4 hbW4 hb5'
  go_wp2_with fail
  refine (HT.out w5 B5).mono ?_
  rintro r w6 ⟨v6, rfl, hv6, hb6⟩
  rw [List.length_map, HNN.out] at hv6
  obtain ⟨A6, c6, rfl, hc6⟩ := own_slice hv6
  have SB6 := Lib.hid (SlIs.own hv6)
  have SA6 := Lib.hid (SA5.out.below hb6)
  have S6 := S5.trans (hb6.mono S5.size)
  have B6 := B5.trans (hb6.mono B5.size)
  have hz6 := hb6.size
  have R6 : ∀ k, k < W4.heap.size → w6.heap[k]? = W4.heap[k]? := fun k h => (hb6.block k (by omega)).trans (R5 k h)
  have OW6 := Lib.hid (own_below OW5.out hb6)
  clear hv6 hb6 SA5 OW5 OW4
  go_wp2_with fail
  refine (HQ.out A3 A6 c3 c6 w6 SA6.out SB6.out).mono ?_
  rintro r w7 ⟨rfl, hb7⟩
  have S7 := S6.trans (hb7.mono S6.size)
  have B7 := B6.trans (hb7.mono B6.size)
  have hz7 := hb7.size
  have R7 : ∀ k, k < W4.heap.size → w7.heap[k]? = W4.heap[k]? := fun k h => (hb7.block k (by omega)).trans (R6 k h)
  have OW7 := Lib.hid (own_below OW6.out hb7)
  clear hb7 SB6 SA6 OW6 S6 B6 R6 S5 B5 R5
  go_wp2_with fail
  refine (HMS.out V2.heap.size A3 c3 w7 OW7.out S7.size).mono ?_
  rintro r w8 ⟨rfl, _, hb8, hgr8⟩
  have S8 : Below V2.heap.size V2 w8 := S7.trans hb8
  have B8 := B7.trans (hb8.mono hbV.size)
  have hz8 := hgr8.size
  have R8 : ∀ k, w3.heap.size ≤ k → k < W4.heap.size → w8.heap[k]? = W4.heap[k]? := fun k h1 h2 => (hgr8.block k (by omega) (fun e => by
    rcases OW3.out.2 with ⟨e1, _⟩ | ⟨g5, cap5, cur5, e1, _, e3, _⟩
    · injection e1 with e1; rw [e1] at e; cases e
    · injection e1 with e1
      rw [e1] at e
      have : k = g5 := by simpa [Value.ownBlock] using e
      have := (Array.getElem?_eq_some_iff.1 e3).1
      omega)).trans (R7 k h2)
  have HO8 := Lib.hid (HOX.out W4 w8 _ _ A4 HO4.out (fun k h1 h2 => R8 k h1 (by omega)))
  have KW8 := Lib.hid ((KW.out.keep (S8.mono (by omega))).wide (B' := w8.heap.size) (by have := S8.size; omega))
  have KG8 := Lib.hid (HKX.out w8 _ _ A4 HO8.out (by omega))
  obtain ⟨p0, p1, p2, p3⟩ := box_cells (R8 w4.heap.size (by omega) hsW4) g0 g1 g2 g3
  obtain ⟨y0, y1, y2, y3⟩ := box_cells (S8.block w2.heap.size hsV2) d0 d1 d2 d3
  have qk : decide (((1 + n : Nat) : Int) < 0) = false := decide_eq_false (by omega)
  clear hgr8 hb8 S7 B7 R7 OW7
  go_wp2_with fail
  refine (HQX.out A4 A2 c4 c2 w8 KG8.out KW8.out hc4 hc2).mono ?_
  rintro r w9 ⟨rfl, hb9⟩
  have S9 := S8.trans (hb9.mono S8.size)
  have B9 := B8.trans (hb9.mono B8.size)
  have hz9 := hb9.size
  have R9 : ∀ k, w3.heap.size ≤ k → k < W4.heap.size → w9.heap[k]? = W4.heap[k]? := fun k h1 h2 => (hb9.block k (by omega)).trans (R8 k h1 h2)
  have HO9 := Lib.hid (HOX.out W4 w9 _ _ A4 HO4.out (fun k h1 h2 => R9 k h1 (by omega)))
  clear p0 p1 p2 p3 y0 y1 y2 y3 HO8 KW8 KG8 hb9 S8 B8 R8
  obtain ⟨p0, p1, p2, p3⟩ := box_cells (R9 w4.heap.size (by omega) hsW4) g0 g1 g2 g3
  go_wp2_with fail
  refine (HMG.out A4 c4 w3.heap.size w4.heap.size w9 HO9.out (by omega)).mono ?_
  rintro r w10 ⟨rfl, hO10, hT10⟩
  have T10 := hT10.below (show w3.heap.size ≤ w9.heap.size by omega)
  have S10 : Below V2.heap.size V2 w10 := S9.trans (T10.mono hz3)
  have B10 := B9.trans (T10.mono (by have := hbV.size; omega))
  have hz10 := hT10.size
  have R10 : w10.heap[w4.heap.size]? = W4.heap[w4.heap.size]? := (hT10.block _ (by omega) (.inr (Nat.le_refl _))).trans (R9 _ (by omega) hsW4)
  have KM10 := Lib.hid (HMK.out w10 _ _ A4 hO10 (by omega))
  clear p0 p1 p2 p3 HO9 hO10 hT10 T10 S9 B9 R9
  obtain ⟨p0, p1, p2, p3⟩ := box_cells R10 g0 g1 g2 g3
  have hq1 : decide (((1 + 3 * nx : Nat) : Int) < 0) = false := decide_eq_false (by omega)
  have hq2 : (((1 + 3 * nx : Nat) : Int) != ((1 + 3 * nx : Nat) : Int)) = false := by simp
  go_wp2_with fail
  refine (HHG.out A4 c4 w10 KM10.out).mono ?_
  rintro r w11 ⟨rfl, hb11⟩
  have S11 := S10.trans (hb11.mono S10.size)
  have B11 := B10.trans (hb11.mono B10.size)
  have hz11 := hb11.size
  clear p0 p1 p2 p3 S10 B10
  go_wp2_with fail
  refine (HT.out w11 B11).mono ?_
  rintro r w12 ⟨v12, rfl, hv12, hb12'⟩
  rw [List.length_map, HNN.out] at hv12
  obtain ⟨A12, c12, rfl, hc12⟩ := own_slice hv12
  have SA12 := Lib.hid (SlIs.own hv12)
  have hb12 := hb11.trans (hb12'.mono hb11.size)
  have S12 := S11.trans (hb12'.mono S11.size)
  have B12 := B11.trans (hb12'.mono B11.size)
  clear hv12 hb12' hb11 S11 B11
  go_wp2_with fail
  refine (HI.out A12 c12 w12 SA12.out B12).mono ?_
  rintro r w13 ⟨A13, c13, rfl, hc13, hO13, hb13'⟩
  obtain ⟨W13, hW13⟩ : ∃ W13, W13 = w13.alloc (.cells #[.int .i64 x.kind, .int .i64 x.n, .string x.s, .slice A13 x.kids.length c13] 25) := ⟨_, rfl⟩
  have hbW13 : Below w13.heap.size w13 W13 := by rw [hW13]; exact (Below.refl _ w13).alloc (Nat.le_refl _) _
  have hsW13 : w13.heap.size < W13.heap.size := by rw [hW13]; simp
  have hbq := hb13'.trans (hbW13.mono hb13'.size)
  have hb13 := hb12.trans (hbq.mono hb12.size)
  have S13 := S12.trans (hbq.mono S12.size)
  have B13 := B12.trans (hbq.mono B12.size)
  have hz13 := hb13'.size
  have KH := Lib.hid (HKX.out W13 _ _ A13 (HOX.out w13 W13 _ _ A13 hO13 (fun k _ h2 => hbW13.block k h2)) (by omega))
  have KW13 := Lib.hid ((KW.out.keep (S13.mono (by omega))).wide (B' := W13.heap.size) (by have := S13.size; omega))
  have h0 : W13.cell? ⟨w13.heap.size, 0, none⟩ = some (.int .i64 x.kind) := by rw [hW13]; exact cell_made4 w13 _ _ 0 _ rfl
  have h1 : W13.cell? ⟨w13.heap.size, 1, none⟩ = some (.int .i64 x.n) := by rw [hW13]; exact cell_made4 w13 _ _ 1 _ rfl
  have h2 : W13.cell? ⟨w13.heap.size, 2, none⟩ = some (.string x.s) := by rw [hW13]; exact cell_made4 w13 _ _ 2 _ rfl
  have h3 : W13.cell? ⟨w13.heap.size, 3, none⟩ = some (.slice A13 x.kids.length c13) := by rw [hW13]; exact cell_made4 w13 _ _ 3 _ rfl

  obtain ⟨y0, y1, y2, y3⟩ := box_cells (S13.block w2.heap.size hsV2) d0 d1 d2 d3
  clear hO13 hb13' hbW13 hbq S12 B12 hb12 SA12
  rw [hW13] at y0 y1 y2 y3
  go_wp2_with fail
  rw [← hW13]
  refine (HQX.out A13 A2 c13 c2 W13 KH.out KW13.out hc13 hc2).mono ?_
  rintro r w14 ⟨rfl, hb14'⟩
  have hb14 := hb13.trans (hb14'.mono hb13.size)
  have B14 := B13.trans (hb14'.mono B13.size)
  obtain ⟨p0, p1, p2, p3⟩ := box_cells ((hb14.block w4.heap.size (by omega)).trans R10) g0 g1 g2 g3
  have KM14 := Lib.hid ((KM10.out.keep hb14).wide hb14.size)
  clear h0 h1 h2 h3 y0 y1 y2 y3 hW13 KH KW13 hb14' hb13 B13
  go_wp2_with fail
  refine (HHG.out A4 c4 w14 KM14.out).mono ?_
  rintro r w15 ⟨rfl, hb15⟩
  have B15 := B14.trans (hb15.mono B14.size)
  go_wp2_with fail
  go_ret
  exact ⟨rfl, B15⟩

end Go.Proofs.YtkfnbakhbbcfcaaGreatDoor.fnExactExprRead
