/-
  'laws.FnExpr' returns true at every two codes: what is drawn to be reckoned is read from its words if it is ok and they are not too many; drawn words that are read are those of what was read; program and model agree.
  Conditions: the library's variables hold what their initialisers lay (tied to the program's text); every two lists of bytes.
-/
import Derived.Test.YtodioplkgjpcjaaGreatDoorDrawRead
import Derived.Test.YtodioplkgjpcjaaGreatDoorExprRead
import Derived.Test.YtodioplkgjpcjaaGreatDoorSpecRead5
import Derived.Test.YtodioplkgjpcjaaGreatDoorExprSame
import Derived.Test.YtodioplkgjpcjaaGreatDoorDrawOk
import Derived.Test.YtodioplkgjpcjaaGreatDoorJoinTok
import Derived.WalkKit
import Derived.ProofKit
import Derived.OpenShut
import Derived.ShutString
import Derived.ChangeOld
import Derived.Below
import Derived.Lib.SmallJoins
import Derived.SliceStrings
namespace Go.Proofs.YtodioplkgjpcjaaGreatDoor.fnExpr
open Go.ChangeShapes Go.WideShapes Go.ChangeAt Go.RowKit Go.Joins
open Go.ChangeMaps (open_string shut_string)


theorem calls_named {f : Nat} {args : Array Value} {Y : World} {R : Ending → World → Prop} (h : ∀ Z, Z = Y → Calls Tryz.prog f args Z R) : Calls Tryz.prog f args Y R := h Y rfl
theorem tot_le8 (ss : List ByteArray) : (∀ s ∈ ss, s.size ≤ 8) → tot ss ≤ 9 * ss.length := by
  intro h
  have aux : ∀ k, k ≤ ss.length → tot (ss.take k) ≤ 9 * k := by
    intro k
    induction k with
    | zero => intro _; simp [tot]
    | succ k ih =>
      intro hk
      have h1 := ih (by omega)
      have h2 := h ss[k] (List.getElem_mem (by omega))
      rw [tot_take_succ ss k (by omega)]
      omega
  have := aux ss.length (Nat.le_refl _)
  rwa [List.take_length] at this
theorem pt_le9 (p : Pt) : p.fine = true → p.ex.wt ≤ 9 * p.nodes := by
  induction p with
  | num n => intro _; simp only [Pt.ex, Ex.wt, Ex.wts, Pt.nodes]; have : ByteArray.empty.size = 0 := rfl; omega
  | name s => intro h; have := name_size8 h; simp only [Pt.ex, Ex.wt, Ex.wts, Pt.nodes]; omega
  | two s a b ia ib =>
    intro h
    simp only [Pt.fine, Bool.and_eq_true, decide_eq_true_eq] at h
    have h1 := ia h.2.1
    have h2 := ib h.2.2
    have h3 := hold_size1 h.1
    simp only [Pt.ex, Ex.wt, Ex.wts, Pt.nodes]; omega
  | «as» s a ia =>
    intro h
    simp only [Pt.fine, Bool.and_eq_true] at h
    have h1 := ia h.2
    have h3 := type_size4 h.1
    simp only [Pt.ex, Ex.wt, Ex.wts, Pt.nodes]; omega
theorem words_case (e : Ex) : (okE e = true → ∃ p : Pt, p.ok = true ∧ p.ex = e ∧ wordsE e = p.words) ∧ (okE e = false → wordsE e = []) := by
  unfold wordsE
  cases h : okP e with
  | none => exact ⟨fun h2 => (by rw [← okP_isSome, h] at h2; cases h2), fun _ => rfl⟩
  | some p => exact ⟨fun _ => ⟨p, (okP_some h).2, (okP_some h).1.symm, rfl⟩, fun h2 => by rw [← okP_isSome, h] at h2; cases h2⟩

set_option linter.unusedVariables false in
set_option linter.unusedSimpArgs false in
set_option maxRecDepth 100000 in
set_option maxHeartbeats 16000000 in
theorem walk (A : Option Addr) (len cap : Nat) (B0 : Option Addr) (lenB capB : Nat) (w : World) (h1 : InCode w A len cap) (h2 : InCode w B0 lenB capB) (hlaid : LaidW w) :
    Calls Tryz.prog 3 #[.slice A len cap, .slice B0 lenB capB] w fun r w' => r = .returned (.bool true) ∧ Below w.heap.size w w' := by
  by_cases hl1 : 1048576 < len
  · have q1 : decide ((1048576 : Int) < (len : Int)) = true := by simp; omega
    clear h1 h2
    go_enter Tryz.func3, Tryz.ntmps3
    go_wp2_with fail
    go_ret
    exact ⟨rfl, Below.refl _ _⟩
  have q1 : decide ((1048576 : Int) < (len : Int)) = false := by simp; omega
  by_cases hl2 : 1048576 < lenB
  · have q2 : decide ((1048576 : Int) < (lenB : Int)) = true := by simp; omega
    clear h1 h2
    go_enter Tryz.func3, Tryz.ntmps3
    go_wp2_with fail
    go_ret
    exact ⟨rfl, Below.refl _ _⟩
  have q2 : decide ((1048576 : Int) < (lenB : Int)) = false := by simp; omega
  have HD := Lib.hid (drawExprWords_any A len cap w h1)
  have H2 := Lib.hid h2
  have HL := Lib.hid hlaid
  clear h1 h2 hlaid
  go_enter Tryz.func3, Tryz.ntmps3
  go_wp2_with fail
  refine HD.out.mono ?_
  rintro r w1 ⟨e, Ae, ce, rfl, hce, hOe, hSe, hwe, hb1⟩
  have HK0 := Lib.hid (own_kidsU e _ _ Ae w1.heap.size hOe (Nat.le_refl _))
  obtain ⟨W2, hW2⟩ : ∃ W2, W2 = w1.alloc (.cells #[.int .i64 e.kind, .int .i64 e.n, .string e.s, .slice Ae e.kids.length ce] 25) := ⟨_, rfl⟩
  have hbW2 : Below w1.heap.size w1 W2 := by rw [hW2]; exact (Below.refl _ w1).alloc (Nat.le_refl _) _
  have hzW2 : w1.heap.size < W2.heap.size := by rw [hW2]; simp
  have a0 : W2.cell? ⟨w1.heap.size, 0, none⟩ = some (.int .i64 e.kind) := by rw [hW2]; exact cell_made4 w1 _ _ 0 _ rfl
  have a1 : W2.cell? ⟨w1.heap.size, 1, none⟩ = some (.int .i64 e.n) := by rw [hW2]; exact cell_made4 w1 _ _ 1 _ rfl
  have a2 : W2.cell? ⟨w1.heap.size, 2, none⟩ = some (.string e.s) := by rw [hW2]; exact cell_made4 w1 _ _ 2 _ rfl
  have a3 : W2.cell? ⟨w1.heap.size, 3, none⟩ = some (.slice Ae e.kids.length ce) := by rw [hW2]; exact cell_made4 w1 _ _ 3 _ rfl
  have hb2 := hb1.trans (hbW2.mono hb1.size)
  have HKU := Lib.hid (fun (W : World) (hW : Below W2.heap.size W2 W) => show KidsU W w1.heap.size Ae e.kids from HK0.out.keep (hbW2.trans (hW.mono hbW2.size)))
  have hle := fun (W : World) (hW : Below W2.heap.size W2 W) => Nat.le_trans (Nat.le_of_lt hzW2) hW.size
  have HLL := Lib.hid (fun (W : World) (hW : Below W2.heap.size W2 W) => show LaidW W from HL.out.below (hb2.trans (hW.mono hb2.size)))
  have HEW := Lib.hid (exprWords_any e Ae ce w1.heap.size W2 (HKU.out W2 (Below.refl _ _)).kids hce (Nat.le_of_lt hzW2) (by omega) (HLL.out W2 (Below.refl _ _)))
  have HSW := Lib.hid (fun (W : World) (hW : Below W2.heap.size W2 W) => specExprWords_any e Ae ce w1.heap.size W (HKU.out W hW).kids hce (hle W hW) (by omega))
  have HEO := Lib.hid (fun (W : World) (hW : Below W2.heap.size W2 W) => exprOk_any e Ae ce w1.heap.size W (HKU.out W hW).kids hce (hle W hW) (by omega))
  have HSO := Lib.hid (fun (W : World) (hW : Below W2.heap.size W2 W) => specExprOk_any e Ae ce w1.heap.size W (HKU.out W hW).kids hce (hle W hW) (by omega))
  have HSS := Lib.hid (fun (W : World) (hW : Below W2.heap.size W2 W) (x : Ex) (X : Option Addr) (cx : Nat) (hx : x = e) (hX : KidsU W W.heap.size X x.kids) (hl : x.kids.length ≤ cx) => show Calls Tryz.prog 16 #[.agg #[.int .i64 x.kind, .int .i64 x.n, .string x.s, .slice X x.kids.length cx], .agg #[.int .i64 e.kind, .int .i64 e.n, .string e.s, .slice Ae e.kids.length ce]] W (fun r w' => r = .returned (.bool true) ∧ Below W.heap.size W w') from by
    have h := exprSame_any x e X Ae cx ce W.heap.size W hX ((HKU.out W hW).wide (hle W hW)) hl hce (Nat.le_refl _) (by have := x.nodes_le; rw [hx] at this ⊢; omega)
    rw [(sameE_iff x e).2 hx] at h
    exact h)
  have HS := Lib.hid (show ∀ W, Below W2.heap.size W2 W → W.cell? ⟨w1.heap.size, 0, none⟩ = some (.int .i64 e.kind) ∧ W.cell? ⟨w1.heap.size, 1, none⟩ = some (.int .i64 e.n) ∧ W.cell? ⟨w1.heap.size, 2, none⟩ = some (.string e.s) ∧ W.cell? ⟨w1.heap.size, 3, none⟩ = some (.slice Ae e.kids.length ce) from fun W hW => ⟨(hW.cell (p := ⟨w1.heap.size, 0, none⟩) hzW2).trans a0, (hW.cell (p := ⟨w1.heap.size, 1, none⟩) hzW2).trans a1, (hW.cell (p := ⟨w1.heap.size, 2, none⟩) hzW2).trans a2, (hW.cell (p := ⟨w1.heap.size, 3, none⟩) hzW2).trans a3⟩)
  obtain ⟨hwl, hws⟩ := wordsE_small e
  have HCASE := Lib.hid (words_case e)
  generalize wordsE e = ws at *
  generalize okE e = b at *
  have HB2 := Lib.hid hb2
  clear HK0 hOe hSe hbW2 hb1 hb2 hle HLL HD
  rw [hW2] at a0 a1 a2 a3
  go_wp2_with fail
  rw [← hW2] at a0 a1 a2 a3 ⊢
  clear hW2
  refine HEW.out.mono ?_
  rintro r w3 ⟨v3, rfl, hv3, hb3⟩
  obtain ⟨A3, c3, rfl, hc3⟩ := own_slice hv3
  have HS3 := Lib.hid (SlIs.own hv3)
  obtain ⟨y0, y1, y2, y3⟩ := HS.out w3 hb3
  have HSW3 := Lib.hid (HSW.out w3 hb3)
  clear hv3 HEW HSW a0 a1 a2 a3
  go_wp2_with fail
  refine HSW3.out.mono ?_
  rintro r w4 ⟨v4, rfl, hv4, hb4⟩
  obtain ⟨A4, c4, rfl, hc4⟩ := own_slice hv4
  have hb24 := hb3.trans (hb4.mono hb3.size)
  have hws2 : ∀ s ∈ ws, s.size ≤ 2 ^ 40 := fun s hs => by have := hws s hs; omega
  have htt : tot ws ≤ 2 ^ 40 := by have := tot_le8 ws hws; omega
  have HSL := Lib.hid (fun (W : World) (hW : Below w4.heap.size w4 W) => show SlIs W A3 (ws.map strV) from (HS3.out.below hb4).below hW)
  have HT1 := Lib.hid (fun (W : World) (hW : Below w4.heap.size w4 W) => tokText_any A3 c3 ws W htt hc3 (HSL.out W hW))
  have HT2 := Lib.hid (fun (W : World) (hW : Below w4.heap.size w4 W) => show Calls Tryz.prog 12 #[.slice A4 ws.length c4] W (fun r w' => r = .returned (.string (joinK ws ws.length)) ∧ Below W.heap.size W w') from (specTokText_any A4 c4 ws W htt ((SlIs.own hv4).below hW)).mono (by rintro r w' ⟨h1, rfl⟩; exact ⟨h1, Below.refl _ _⟩))
  have HEO4 := Lib.hid (fun (W : World) (hW : Below w4.heap.size w4 W) => HEO.out W (hb24.trans (hW.mono hb24.size)))
  have HSO4 := Lib.hid (fun (W : World) (hW : Below w4.heap.size w4 W) => HSO.out W (hb24.trans (hW.mono hb24.size)))
  have HS4 := Lib.hid (show ∀ W, Below w4.heap.size w4 W → W.cell? ⟨w1.heap.size, 0, none⟩ = some (.int .i64 e.kind) ∧ W.cell? ⟨w1.heap.size, 1, none⟩ = some (.int .i64 e.n) ∧ W.cell? ⟨w1.heap.size, 2, none⟩ = some (.string e.s) ∧ W.cell? ⟨w1.heap.size, 3, none⟩ = some (.slice Ae e.kids.length ce) ∧ Below w4.heap.size w4 W from fun W hW => by
    obtain ⟨z0, z1, z2, z3⟩ := HS.out W (hb24.trans (hW.mono hb24.size))
    exact ⟨z0, z1, z2, z3, hW⟩)
  have HSS4 := Lib.hid (fun (W : World) (hW : Below w4.heap.size w4 W) => HSS.out W (hb24.trans (hW.mono hb24.size)))
  have HRD := Lib.hid (fun (W : World) (hW : Below w4.heap.size w4 W) => exprRead_any A3 c3 ws W (HSL.out W hW) (HL.out.below (HB2.out.trans ((hb24.trans (hW.mono hb24.size)).mono HB2.out.size))) hws2 (by omega))
  have HB4 := Lib.hid (HB2.out.trans (hb24.mono HB2.out.size))
  obtain ⟨y0, y1, y2, y3, _⟩ := HS4.out w4 (Below.refl _ _)
  generalize joinK ws ws.length = tx at *
  have qtx : (!tx.toList == tx.toList) = false := by simp
  have qlen : ((ws.length : Int) != (ws.length : Int)) = false := by simp
  have qb : (b != b) = false := by simp
  have BX := Below.refl w4.heap.size w4
  clear HSW3 hv4 HEO HSO HS HSS HS3 HSL htt hws2 hb3 hb4 hb24 HKU HB2
  obtain ⟨X, hX⟩ : ∃ X, X = w4 := ⟨_, rfl⟩
  go_wp2_with fail
  rw [← hX] at y0 y1 y2 y3 ⊢
  replace BX : Below w4.heap.size w4 X := by rw [hX]; exact BX
  clear hX
  go_region_held3 (fun W => W.cell? ⟨w1.heap.size, 0, none⟩ = some (.int .i64 e.kind) ∧ W.cell? ⟨w1.heap.size, 1, none⟩ = some (.int .i64 e.n) ∧ W.cell? ⟨w1.heap.size, 2, none⟩ = some (.string e.s) ∧ W.cell? ⟨w1.heap.size, 3, none⟩ = some (.slice Ae e.kids.length ce) ∧ Below w4.heap.size w4 W)
    (first | with_reducible exact HS4.out _ BX | with_reducible exact HS4.out _ BX.drew)
    (first | (go_at_call 11; refine calls_named ?_; intro Y hY; have hXY : Below X.heap.size X Y := (by rw [hY]; first | exact Below.refl _ _ | exact (Below.refl _ _).drew); replace BX := BX.trans (hXY.mono BX.size); refine (HT1.out Y BX).mono ?_; rintro r X ⟨rfl, hYX⟩; replace BX := BX.trans (hYX.mono BX.size); clear hY hXY hYX) | (go_at_call 12; refine calls_named ?_; intro Y hY; have hXY : Below X.heap.size X Y := (by rw [hY]; first | exact Below.refl _ _ | exact (Below.refl _ _).drew); replace BX := BX.trans (hXY.mono BX.size); refine (HT2.out Y BX).mono ?_; rintro r X ⟨rfl, hYX⟩; replace BX := BX.trans (hYX.mono BX.size); clear hY hXY hYX) | (go_at_call 13; refine calls_named ?_; intro Y hY; have hXY : Below X.heap.size X Y := (by rw [hY]; first | exact Below.refl _ _ | exact (Below.refl _ _).drew); replace BX := BX.trans (hXY.mono BX.size); refine (HEO4.out Y BX).mono ?_; rintro r X ⟨rfl, hYX⟩; replace BX := BX.trans (hYX.mono BX.size); clear hY hXY hYX) | (go_at_call 14; refine calls_named ?_; intro Y hY; have hXY : Below X.heap.size X Y := (by rw [hY]; first | exact Below.refl _ _ | exact (Below.refl _ _).drew); replace BX := BX.trans (hXY.mono BX.size); refine (HSO4.out Y BX).mono ?_; rintro r X ⟨rfl, hYX⟩; replace BX := BX.trans (hYX.mono BX.size); clear hY hXY hYX))
  all_goals
    have hRD0 := Lib.hid (HRD.out X BX)
    have B5' := fun {W : World} (h : Below X.heap.size X W) => BX.trans (h.mono BX.size)
    clear HRD HT1 HT2 HEO4
    go_wp2_with fail
    refine hRD0.out.mono ?_
    rintro r w5 hRD
    clear hRD0
    cases b with
    | false =>
      have hw0 : ws = [] := HCASE.out.2 rfl
      subst hw0
      have hz0 : (([] : List ByteArray).length) = 0 := rfl
      rcases hRD with ⟨q, Aq, kq, hI, _⟩ | ⟨_, rfl, hb5⟩
      · exact absurd hI (fun hI => by have h := q.words_pos; rw [hI.2.2.1] at h; simp at h)
      obtain ⟨W6, hW6⟩ : ∃ W6, W6 = w5.alloc (.cells #[.int .i64 0, .int .i64 0, .string { data := #[] }, .slice none 0 0] 25) := ⟨_, rfl⟩
      have hbW6 : Below w5.heap.size w5 W6 := by rw [hW6]; exact (Below.refl _ w5).alloc (Nat.le_refl _) _
      have hzW6 : w5.heap.size < W6.heap.size := by rw [hW6]; simp
      have d0 : W6.cell? ⟨w5.heap.size, 0, none⟩ = some (.int .i64 0) := by rw [hW6]; exact cell_made4 w5 _ _ 0 _ rfl
      have d1 : W6.cell? ⟨w5.heap.size, 1, none⟩ = some (.int .i64 0) := by rw [hW6]; exact cell_made4 w5 _ _ 1 _ rfl
      have d2 : W6.cell? ⟨w5.heap.size, 2, none⟩ = some (.string { data := #[] }) := by rw [hW6]; exact cell_made4 w5 _ _ 2 _ rfl
      have d3 : W6.cell? ⟨w5.heap.size, 3, none⟩ = some (.slice none 0 0) := by rw [hW6]; exact cell_made4 w5 _ _ 3 _ rfl
      have B6 := B5' (hb5.trans (hbW6.mono hb5.size))
      obtain ⟨f0, f1, f2, f3, _⟩ := HS4.out W6 B6
      have HSO6 := Lib.hid (HSO4.out W6 B6)
      clear hbW6 hzW6 hb5 d0 d1 d2 d3
      rw [hW6] at f0 f1 f2 f3
      go_wp2_with fail
      rw [← hW6] at f0 f1 f2 f3 ⊢
      clear hW6
      refine HSO6.out.mono ?_
      rintro r w7 ⟨rfl, hb7⟩
      have B7 := B6.trans (hb7.mono B6.size)
      obtain ⟨V, hV⟩ : ∃ V, V = w7 := ⟨_, rfl⟩
      have BV : Below w.heap.size w V := by rw [hV]; exact HB4.out.trans (B7.mono HB4.out.size)
      rw [← hV]
      clear hV HSO6 f0 f1 f2 f3 B6 B7 hb7
      have HDR := Lib.hid (drawExprRead_any B0 lenB capB V (H2.out.below BV))
      go_wp2_with fail
      refine HDR.out.mono ?_
      rintro r v1 ⟨ls, Al, cl, rfl, hcl, hsl, hll, hls, hbv1⟩
      have BV1 := BV.trans (hbv1.mono BV.size)
      have hls2 : ∀ s ∈ ls, s.size ≤ 2 ^ 40 := fun s hs => by have := hls s hs; omega
      have HIR := Lib.hid (exprRead_any Al cl ls v1 hsl (HL.out.below BV1) hls2 (by omega))
      have HSR := Lib.hid (fun (W : World) (hW : Below v1.heap.size v1 W) => specExprRead_any Al cl ls W ⟨hsl.below hW, hls2, by omega⟩)
      have HTL := Lib.hid (fun (W : World) (hW : Below v1.heap.size v1 W) => tokText_any Al cl ls W (by have := tot_le8 ls hls; omega) hcl (hsl.below hW))
      clear HDR hsl hls2
      go_wp2_with fail
      refine HIR.out.mono ?_
      rintro r v2 (⟨p2, A2, k2, hIs, rfl, hk2, hO2, hb2⟩ | ⟨hno, rfl, hb2⟩)
      · have HIS := Lib.hid hIs
        have hpw := hIs.2.2.1
        have hpo := hIs.2.1
        have hKO := own_kids p2.ex _ _ A2 v2.heap.size hO2 (Nat.le_refl _)
        have hwt2 : p2.ex.wt ≤ 2 ^ 29 := by have := pt_le9 p2 (ok_fine hpo); simp only [Pt.ok, Bool.and_eq_true, decide_eq_true_eq] at hpo; have := hpo.2.2; omega
        have HOK := Lib.hid (show okE p2.ex = true from (okE_iff _).2 ⟨p2, rfl, hpo⟩)
        have HWE := Lib.hid (show wordsE p2.ex = ls from (ok_words hpo).trans hpw)
        obtain ⟨W3, hW3⟩ : ∃ W3, W3 = v2.alloc (.cells #[.int .i64 p2.ex.kind, .int .i64 p2.ex.n, .string p2.ex.s, .slice A2 p2.ex.kids.length k2] 25) := ⟨_, rfl⟩
        have hbW3 : Below v2.heap.size v2 W3 := by rw [hW3]; exact (Below.refl _ v2).alloc (Nat.le_refl _) _
        have hzW3 : v2.heap.size < W3.heap.size := by rw [hW3]; simp
        have d0 : W3.cell? ⟨v2.heap.size, 0, none⟩ = some (.int .i64 p2.ex.kind) := by rw [hW3]; exact cell_made4 v2 _ _ 0 _ rfl
        have d1 : W3.cell? ⟨v2.heap.size, 1, none⟩ = some (.int .i64 p2.ex.n) := by rw [hW3]; exact cell_made4 v2 _ _ 1 _ rfl
        have d2 : W3.cell? ⟨v2.heap.size, 2, none⟩ = some (.string p2.ex.s) := by rw [hW3]; exact cell_made4 v2 _ _ 2 _ rfl
        have d3 : W3.cell? ⟨v2.heap.size, 3, none⟩ = some (.slice A2 p2.ex.kids.length k2) := by rw [hW3]; exact cell_made4 v2 _ _ 3 _ rfl
        have HEW2 := Lib.hid (fun (W : World) (hW : Below W3.heap.size W3 W) => exprWords_any p2.ex A2 k2 v2.heap.size W (hKO.keep (hbW3.trans (hW.mono hbW3.size))) hk2 (Nat.le_trans (Nat.le_of_lt hzW3) hW.size) (by omega) (HL.out.below (BV1.trans ((hb2.trans ((hbW3.trans (hW.mono hbW3.size)).mono hb2.size)).mono BV1.size))))
        have HEO2 := Lib.hid (fun (W : World) (hW : Below W3.heap.size W3 W) => exprOk_any p2.ex A2 k2 v2.heap.size W (hKO.keep (hbW3.trans (hW.mono hbW3.size))) hk2 (Nat.le_trans (Nat.le_of_lt hzW3) hW.size) (by omega))
        rw [HWE.out] at HEW2
        rw [HOK.out] at HEO2
        have HB3 := Lib.hid (hb2.trans (hbW3.mono hb2.size))
        have HV3 := Lib.hid (fun (W : World) (hW : Below W3.heap.size W3 W) (j : Nat) (u : Value) (hu : W3.cell? ⟨v2.heap.size, j, none⟩ = some u) => (hW.cell (p := ⟨v2.heap.size, j, none⟩) hzW3).trans hu)
        have HSR3 := Lib.hid (HSR.out W3 HB3.out)
        generalize p2.ex = x2 at *
        have D0 := Lib.hid d0
        have D1 := Lib.hid d1
        have D2 := Lib.hid d2
        have D3 := Lib.hid d3
        clear HIR hIs hpw hpo hKO hO2 hwt2 HSR hbW3 hb2
        rw [hW3] at d0 d1 d2 d3
        go_wp2_with fail
        rw [← hW3] at d0 d1 d2 d3 ⊢
        clear hW3
        refine HSR3.out.mono ?_
        rintro r v4 (⟨p4, A4', k4, hI4, rfl, hk4, hO4, hb4⟩ | ⟨hno, rfl, hb4⟩)
        · obtain ⟨W5, hW5⟩ : ∃ W5, W5 = v4.alloc (.cells #[.int .i64 p4.ex.kind, .int .i64 p4.ex.n, .string p4.ex.s, .slice A4' p4.ex.kids.length k4] 25) := ⟨_, rfl⟩
          have hb5 : Below W3.heap.size W3 W5 := by rw [hW5]; exact hb4.alloc hb4.size _
          have e0 := HV3.out W5 hb5 0 _ d0
          have e1 := HV3.out W5 hb5 1 _ d1
          have e2 := HV3.out W5 hb5 2 _ d2
          have e3 := HV3.out W5 hb5 3 _ d3
          have HW5 := Lib.hid hW5
          have HEW5 := Lib.hid (HEW2.out W5 hb5)
          clear hI4 hO4 HSR3 hb4 HEW2 d0 d1 d2 d3
          rw [hW5] at e0 e1 e2 e3
          go_wp2_with fail
          rw [← hW5] at e0 e1 e2 e3 ⊢
          clear hW5 HW5
          refine HEW5.out.mono ?_
          rintro r v6 ⟨v, rfl, hv, hb6⟩
          obtain ⟨A6, c6, rfl, hc6⟩ := own_slice hv
          have HT6 := Lib.hid (tokText_any A6 c6 ls v6 (by have := tot_le8 ls hls; omega) hc6 (SlIs.own hv))
          have hb36 := hb5.trans (hb6.mono hb5.size)
          generalize joinK ls ls.length = tl at *
          have qtl : (tl.toList == tl.toList) = true := by simp
          clear hv HEW5 hb6 e0 e1 e2 e3
          go_wp2_with fail
          refine HT6.out.mono ?_
          rintro r v7 ⟨rfl, hb7⟩
          have hb37 := hb36.trans (hb7.mono hb36.size)
          have HTL7 := Lib.hid (HTL.out v7 (HB3.out.trans (hb37.mono HB3.out.size)))
          clear HTL HT6
          go_wp2_with fail
          refine HTL7.out.mono ?_
          rintro r v8 ⟨rfl, hb8⟩
          have hb38 := hb37.trans (hb8.mono hb37.size)
          have g0 := HV3.out v8 hb38 0 _ D0.out
          have g1 := HV3.out v8 hb38 1 _ D1.out
          have g2 := HV3.out v8 hb38 2 _ D2.out
          have g3 := HV3.out v8 hb38 3 _ D3.out
          have HEO8 := Lib.hid (HEO2.out v8 hb38)
          clear HEO2 HTL7
          go_wp2_with fail
          refine HEO8.out.mono ?_
          rintro r v9 ⟨rfl, hb9⟩
          have hb39 := hb38.trans (hb9.mono hb38.size)
          go_wp2_with fail
          go_ret
          exact ⟨rfl, BV1.trans ((HB3.out.trans (hb39.mono HB3.out.size)).mono BV1.size)⟩
        · exact absurd (hno HIS.out.1 p2 HIS.out.2.1) (fun f => f HIS.out.2.2.1)
      · have HNO := Lib.hid hno
        obtain ⟨W3, hW3⟩ : ∃ W3, W3 = v2.alloc (.cells #[.int .i64 0, .int .i64 0, .string { data := #[] }, .slice none 0 0] 25) := ⟨_, rfl⟩
        have hbW3 : Below v2.heap.size v2 W3 := by rw [hW3]; exact (Below.refl _ v2).alloc (Nat.le_refl _) _
        have hzW3 : v2.heap.size < W3.heap.size := by rw [hW3]; simp
        have d0 : W3.cell? ⟨v2.heap.size, 0, none⟩ = some (.int .i64 0) := by rw [hW3]; exact cell_made4 v2 _ _ 0 _ rfl
        have d1 : W3.cell? ⟨v2.heap.size, 1, none⟩ = some (.int .i64 0) := by rw [hW3]; exact cell_made4 v2 _ _ 1 _ rfl
        have d2 : W3.cell? ⟨v2.heap.size, 2, none⟩ = some (.string { data := #[] }) := by rw [hW3]; exact cell_made4 v2 _ _ 2 _ rfl
        have d3 : W3.cell? ⟨v2.heap.size, 3, none⟩ = some (.slice none 0 0) := by rw [hW3]; exact cell_made4 v2 _ _ 3 _ rfl
        have HB3 := Lib.hid (hb2.trans (hbW3.mono hb2.size))
        have HSR3 := Lib.hid (HSR.out W3 HB3.out)
        clear HIR hno HSR hbW3 hb2 HTL d0 d1 d2 d3
        go_wp2_with fail
        rw [← hW3]
        clear hW3
        refine HSR3.out.mono ?_
        rintro r v4 (⟨p4, A4', k4, hI4, rfl, hk4, hO4, hb4⟩ | ⟨_, rfl, hb4⟩)
        · exact absurd (HNO.out hI4.1 p4 hI4.2.1) (fun f => f hI4.2.2.1)
        · have hb5 := HB3.out.trans (hb4.mono HB3.out.size)
          clear HSR3
          go_wp2_with fail
          go_ret
          exact ⟨rfl, BV1.trans ((hb5.alloc hb5.size _).mono BV1.size)⟩
    | true =>
      obtain ⟨p, hpo, hpe, hpw⟩ := HCASE.out.1 rfl
      have HPW := Lib.hid hpw
      clear hpw
      by_cases h40 : ws.length ≤ 40
      · have q40 : decide ((ws.length : Int) ≤ 40) = true := by simp; omega
        rcases hRD with ⟨q, Aq, kq, hI, rfl, hkq, hOq, hb5⟩ | ⟨hno, _⟩
        · have HQE := Lib.hid (show q.ex = e from by rw [← hI.2.2.2 p hpo HPW.out.symm]; exact hpe)
          obtain ⟨W6, hW6⟩ : ∃ W6, W6 = w5.alloc (.cells #[.int .i64 q.ex.kind, .int .i64 q.ex.n, .string q.ex.s, .slice Aq q.ex.kids.length kq] 25) := ⟨_, rfl⟩
          have hbW6 : Below w5.heap.size w5 W6 := by rw [hW6]; exact (Below.refl _ w5).alloc (Nat.le_refl _) _
          have hzW6 : w5.heap.size < W6.heap.size := by rw [hW6]; simp
          have d0 : W6.cell? ⟨w5.heap.size, 0, none⟩ = some (.int .i64 q.ex.kind) := by rw [hW6]; exact cell_made4 w5 _ _ 0 _ rfl
          have d1 : W6.cell? ⟨w5.heap.size, 1, none⟩ = some (.int .i64 q.ex.n) := by rw [hW6]; exact cell_made4 w5 _ _ 1 _ rfl
          have d2 : W6.cell? ⟨w5.heap.size, 2, none⟩ = some (.string q.ex.s) := by rw [hW6]; exact cell_made4 w5 _ _ 2 _ rfl
          have d3 : W6.cell? ⟨w5.heap.size, 3, none⟩ = some (.slice Aq q.ex.kids.length kq) := by rw [hW6]; exact cell_made4 w5 _ _ 3 _ rfl
          have B6 := B5' (hb5.trans (hbW6.mono hb5.size))
          obtain ⟨f0, f1, f2, f3, _⟩ := HS4.out W6 B6
          have HSO6 := Lib.hid (HSO4.out W6 B6)
          have HKQ := Lib.hid ((own_kidsU q.ex _ _ Aq w5.heap.size hOq (Nat.le_refl _)).keep hbW6)
          have HZ6 := Lib.hid hzW6
          have D0 := Lib.hid d0
          have D1 := Lib.hid d1
          have D2 := Lib.hid d2
          have D3 := Lib.hid d3
          clear hbW6 hb5 hI hOq
          rw [hW6] at f0 f1 f2 f3
          generalize q.ex = xq at *
          go_wp2_with fail
          rw [← hW6] at f0 f1 f2 f3 ⊢
          clear hW6
          refine HSO6.out.mono ?_
          rintro r w7 ⟨rfl, hb7⟩
          have B7 := B6.trans (hb7.mono B6.size)
          obtain ⟨e0, e1, e2, e3, _⟩ := HS4.out w7 B7
          have u0 := (hb7.cell (p := ⟨w5.heap.size, 0, none⟩) HZ6.out).trans D0.out
          have u1 := (hb7.cell (p := ⟨w5.heap.size, 1, none⟩) HZ6.out).trans D1.out
          have u2 := (hb7.cell (p := ⟨w5.heap.size, 2, none⟩) HZ6.out).trans D2.out
          have u3 := (hb7.cell (p := ⟨w5.heap.size, 3, none⟩) HZ6.out).trans D3.out
          have HX7 := Lib.hid (HSS4.out w7 B7 xq Aq kq HQE.out ((HKQ.out.wide (Nat.le_of_lt HZ6.out)).keep hb7 |>.wide hb7.size) hkq)
          clear HSO6 f0 f1 f2 f3 d0 d1 d2 d3 HQE
          go_wp2_with fail
          refine HX7.out.mono ?_
          rintro r w8 ⟨rfl, hb8⟩
          have B8 := B7.trans (hb8.mono B7.size)
          obtain ⟨V, hV⟩ : ∃ V, V = w8 := ⟨_, rfl⟩
          have BV : Below w.heap.size w V := by rw [hV]; exact HB4.out.trans (B8.mono HB4.out.size)
          rw [← hV]
          clear hV HX7 e0 e1 e2 e3 u0 u1 u2 u3 B6 B7 B8 hb7 hb8
          have HDR := Lib.hid (drawExprRead_any B0 lenB capB V (H2.out.below BV))
          go_wp2_with fail
          refine HDR.out.mono ?_
          rintro r v1 ⟨ls, Al, cl, rfl, hcl, hsl, hll, hls, hbv1⟩
          have BV1 := BV.trans (hbv1.mono BV.size)
          have hls2 : ∀ s ∈ ls, s.size ≤ 2 ^ 40 := fun s hs => by have := hls s hs; omega
          have HIR := Lib.hid (exprRead_any Al cl ls v1 hsl (HL.out.below BV1) hls2 (by omega))
          have HSR := Lib.hid (fun (W : World) (hW : Below v1.heap.size v1 W) => specExprRead_any Al cl ls W ⟨hsl.below hW, hls2, by omega⟩)
          have HTL := Lib.hid (fun (W : World) (hW : Below v1.heap.size v1 W) => tokText_any Al cl ls W (by have := tot_le8 ls hls; omega) hcl (hsl.below hW))
          clear HDR hsl hls2
          go_wp2_with fail
          refine HIR.out.mono ?_
          rintro r v2 (⟨p2, A2, k2, hIs, rfl, hk2, hO2, hb2⟩ | ⟨hno, rfl, hb2⟩)
          · have HIS := Lib.hid hIs
            have hpw := hIs.2.2.1
            have hpo := hIs.2.1
            have hKO := own_kids p2.ex _ _ A2 v2.heap.size hO2 (Nat.le_refl _)
            have hwt2 : p2.ex.wt ≤ 2 ^ 29 := by have := pt_le9 p2 (ok_fine hpo); simp only [Pt.ok, Bool.and_eq_true, decide_eq_true_eq] at hpo; have := hpo.2.2; omega
            have HOK := Lib.hid (show okE p2.ex = true from (okE_iff _).2 ⟨p2, rfl, hpo⟩)
            have HWE := Lib.hid (show wordsE p2.ex = ls from (ok_words hpo).trans hpw)
            obtain ⟨W3, hW3⟩ : ∃ W3, W3 = v2.alloc (.cells #[.int .i64 p2.ex.kind, .int .i64 p2.ex.n, .string p2.ex.s, .slice A2 p2.ex.kids.length k2] 25) := ⟨_, rfl⟩
            have hbW3 : Below v2.heap.size v2 W3 := by rw [hW3]; exact (Below.refl _ v2).alloc (Nat.le_refl _) _
            have hzW3 : v2.heap.size < W3.heap.size := by rw [hW3]; simp
            have d0 : W3.cell? ⟨v2.heap.size, 0, none⟩ = some (.int .i64 p2.ex.kind) := by rw [hW3]; exact cell_made4 v2 _ _ 0 _ rfl
            have d1 : W3.cell? ⟨v2.heap.size, 1, none⟩ = some (.int .i64 p2.ex.n) := by rw [hW3]; exact cell_made4 v2 _ _ 1 _ rfl
            have d2 : W3.cell? ⟨v2.heap.size, 2, none⟩ = some (.string p2.ex.s) := by rw [hW3]; exact cell_made4 v2 _ _ 2 _ rfl
            have d3 : W3.cell? ⟨v2.heap.size, 3, none⟩ = some (.slice A2 p2.ex.kids.length k2) := by rw [hW3]; exact cell_made4 v2 _ _ 3 _ rfl
            have HEW2 := Lib.hid (fun (W : World) (hW : Below W3.heap.size W3 W) => exprWords_any p2.ex A2 k2 v2.heap.size W (hKO.keep (hbW3.trans (hW.mono hbW3.size))) hk2 (Nat.le_trans (Nat.le_of_lt hzW3) hW.size) (by omega) (HL.out.below (BV1.trans ((hb2.trans ((hbW3.trans (hW.mono hbW3.size)).mono hb2.size)).mono BV1.size))))
            have HEO2 := Lib.hid (fun (W : World) (hW : Below W3.heap.size W3 W) => exprOk_any p2.ex A2 k2 v2.heap.size W (hKO.keep (hbW3.trans (hW.mono hbW3.size))) hk2 (Nat.le_trans (Nat.le_of_lt hzW3) hW.size) (by omega))
            rw [HWE.out] at HEW2
            rw [HOK.out] at HEO2
            have HB3 := Lib.hid (hb2.trans (hbW3.mono hb2.size))
            have HV3 := Lib.hid (fun (W : World) (hW : Below W3.heap.size W3 W) (j : Nat) (u : Value) (hu : W3.cell? ⟨v2.heap.size, j, none⟩ = some u) => (hW.cell (p := ⟨v2.heap.size, j, none⟩) hzW3).trans hu)
            have HSR3 := Lib.hid (HSR.out W3 HB3.out)
            generalize p2.ex = x2 at *
            have D0 := Lib.hid d0
            have D1 := Lib.hid d1
            have D2 := Lib.hid d2
            have D3 := Lib.hid d3
            clear HIR hIs hpw hpo hKO hO2 hwt2 HSR hbW3 hb2
            rw [hW3] at d0 d1 d2 d3
            go_wp2_with fail
            rw [← hW3] at d0 d1 d2 d3 ⊢
            clear hW3
            refine HSR3.out.mono ?_
            rintro r v4 (⟨p4, A4', k4, hI4, rfl, hk4, hO4, hb4⟩ | ⟨hno, rfl, hb4⟩)
            · obtain ⟨W5, hW5⟩ : ∃ W5, W5 = v4.alloc (.cells #[.int .i64 p4.ex.kind, .int .i64 p4.ex.n, .string p4.ex.s, .slice A4' p4.ex.kids.length k4] 25) := ⟨_, rfl⟩
              have hb5 : Below W3.heap.size W3 W5 := by rw [hW5]; exact hb4.alloc hb4.size _
              have e0 := HV3.out W5 hb5 0 _ d0
              have e1 := HV3.out W5 hb5 1 _ d1
              have e2 := HV3.out W5 hb5 2 _ d2
              have e3 := HV3.out W5 hb5 3 _ d3
              have HW5 := Lib.hid hW5
              have HEW5 := Lib.hid (HEW2.out W5 hb5)
              clear hI4 hO4 HSR3 hb4 HEW2 d0 d1 d2 d3
              rw [hW5] at e0 e1 e2 e3
              go_wp2_with fail
              rw [← hW5] at e0 e1 e2 e3 ⊢
              clear hW5 HW5
              refine HEW5.out.mono ?_
              rintro r v6 ⟨v, rfl, hv, hb6⟩
              obtain ⟨A6, c6, rfl, hc6⟩ := own_slice hv
              have HT6 := Lib.hid (tokText_any A6 c6 ls v6 (by have := tot_le8 ls hls; omega) hc6 (SlIs.own hv))
              have hb36 := hb5.trans (hb6.mono hb5.size)
              generalize joinK ls ls.length = tl at *
              have qtl : (tl.toList == tl.toList) = true := by simp
              clear hv HEW5 hb6 e0 e1 e2 e3
              go_wp2_with fail
              refine HT6.out.mono ?_
              rintro r v7 ⟨rfl, hb7⟩
              have hb37 := hb36.trans (hb7.mono hb36.size)
              have HTL7 := Lib.hid (HTL.out v7 (HB3.out.trans (hb37.mono HB3.out.size)))
              clear HTL HT6
              go_wp2_with fail
              refine HTL7.out.mono ?_
              rintro r v8 ⟨rfl, hb8⟩
              have hb38 := hb37.trans (hb8.mono hb37.size)
              have g0 := HV3.out v8 hb38 0 _ D0.out
              have g1 := HV3.out v8 hb38 1 _ D1.out
              have g2 := HV3.out v8 hb38 2 _ D2.out
              have g3 := HV3.out v8 hb38 3 _ D3.out
              have HEO8 := Lib.hid (HEO2.out v8 hb38)
              clear HEO2 HTL7
              go_wp2_with fail
              refine HEO8.out.mono ?_
              rintro r v9 ⟨rfl, hb9⟩
              have hb39 := hb38.trans (hb9.mono hb38.size)
              go_wp2_with fail
              go_ret
              exact ⟨rfl, BV1.trans ((HB3.out.trans (hb39.mono HB3.out.size)).mono BV1.size)⟩
            · exact absurd (hno HIS.out.1 p2 HIS.out.2.1) (fun f => f HIS.out.2.2.1)
          · have HNO := Lib.hid hno
            obtain ⟨W3, hW3⟩ : ∃ W3, W3 = v2.alloc (.cells #[.int .i64 0, .int .i64 0, .string { data := #[] }, .slice none 0 0] 25) := ⟨_, rfl⟩
            have hbW3 : Below v2.heap.size v2 W3 := by rw [hW3]; exact (Below.refl _ v2).alloc (Nat.le_refl _) _
            have hzW3 : v2.heap.size < W3.heap.size := by rw [hW3]; simp
            have d0 : W3.cell? ⟨v2.heap.size, 0, none⟩ = some (.int .i64 0) := by rw [hW3]; exact cell_made4 v2 _ _ 0 _ rfl
            have d1 : W3.cell? ⟨v2.heap.size, 1, none⟩ = some (.int .i64 0) := by rw [hW3]; exact cell_made4 v2 _ _ 1 _ rfl
            have d2 : W3.cell? ⟨v2.heap.size, 2, none⟩ = some (.string { data := #[] }) := by rw [hW3]; exact cell_made4 v2 _ _ 2 _ rfl
            have d3 : W3.cell? ⟨v2.heap.size, 3, none⟩ = some (.slice none 0 0) := by rw [hW3]; exact cell_made4 v2 _ _ 3 _ rfl
            have HB3 := Lib.hid (hb2.trans (hbW3.mono hb2.size))
            have HSR3 := Lib.hid (HSR.out W3 HB3.out)
            clear HIR hno HSR hbW3 hb2 HTL d0 d1 d2 d3
            go_wp2_with fail
            rw [← hW3]
            clear hW3
            refine HSR3.out.mono ?_
            rintro r v4 (⟨p4, A4', k4, hI4, rfl, hk4, hO4, hb4⟩ | ⟨_, rfl, hb4⟩)
            · exact absurd (HNO.out hI4.1 p4 hI4.2.1) (fun f => f hI4.2.2.1)
            · have hb5 := HB3.out.trans (hb4.mono HB3.out.size)
              clear HSR3
              go_wp2_with fail
              go_ret
              exact ⟨rfl, BV1.trans ((hb5.alloc hb5.size _).mono BV1.size)⟩
        · exact absurd (hno h40 p hpo) (fun f => f HPW.out.symm)
      · have q40 : decide ((ws.length : Int) ≤ 40) = false := by simp; omega
        rcases hRD with ⟨q, Aq, kq, hI, _⟩ | ⟨_, rfl, hb5⟩
        · exact absurd hI (fun hI => h40 hI.1)
        obtain ⟨W6, hW6⟩ : ∃ W6, W6 = w5.alloc (.cells #[.int .i64 0, .int .i64 0, .string { data := #[] }, .slice none 0 0] 25) := ⟨_, rfl⟩
        have hbW6 : Below w5.heap.size w5 W6 := by rw [hW6]; exact (Below.refl _ w5).alloc (Nat.le_refl _) _
        have hzW6 : w5.heap.size < W6.heap.size := by rw [hW6]; simp
        have d0 : W6.cell? ⟨w5.heap.size, 0, none⟩ = some (.int .i64 0) := by rw [hW6]; exact cell_made4 w5 _ _ 0 _ rfl
        have d1 : W6.cell? ⟨w5.heap.size, 1, none⟩ = some (.int .i64 0) := by rw [hW6]; exact cell_made4 w5 _ _ 1 _ rfl
        have d2 : W6.cell? ⟨w5.heap.size, 2, none⟩ = some (.string { data := #[] }) := by rw [hW6]; exact cell_made4 w5 _ _ 2 _ rfl
        have d3 : W6.cell? ⟨w5.heap.size, 3, none⟩ = some (.slice none 0 0) := by rw [hW6]; exact cell_made4 w5 _ _ 3 _ rfl
        have B6 := B5' (hb5.trans (hbW6.mono hb5.size))
        obtain ⟨f0, f1, f2, f3, _⟩ := HS4.out W6 B6
        have HSO6 := Lib.hid (HSO4.out W6 B6)
        clear hbW6 hzW6 hb5 d0 d1 d2 d3
        rw [hW6] at f0 f1 f2 f3
        go_wp2_with fail
        rw [← hW6] at f0 f1 f2 f3 ⊢
        clear hW6
        refine HSO6.out.mono ?_
        rintro r w7 ⟨rfl, hb7⟩
        have B7 := B6.trans (hb7.mono B6.size)
        obtain ⟨V, hV⟩ : ∃ V, V = w7 := ⟨_, rfl⟩
        have BV : Below w.heap.size w V := by rw [hV]; exact HB4.out.trans (B7.mono HB4.out.size)
        rw [← hV]
        clear hV HSO6 f0 f1 f2 f3 B6 B7 hb7
        have HDR := Lib.hid (drawExprRead_any B0 lenB capB V (H2.out.below BV))
        go_wp2_with fail
        refine HDR.out.mono ?_
        rintro r v1 ⟨ls, Al, cl, rfl, hcl, hsl, hll, hls, hbv1⟩
        have BV1 := BV.trans (hbv1.mono BV.size)
        have hls2 : ∀ s ∈ ls, s.size ≤ 2 ^ 40 := fun s hs => by have := hls s hs; omega
        have HIR := Lib.hid (exprRead_any Al cl ls v1 hsl (HL.out.below BV1) hls2 (by omega))
        have HSR := Lib.hid (fun (W : World) (hW : Below v1.heap.size v1 W) => specExprRead_any Al cl ls W ⟨hsl.below hW, hls2, by omega⟩)
        have HTL := Lib.hid (fun (W : World) (hW : Below v1.heap.size v1 W) => tokText_any Al cl ls W (by have := tot_le8 ls hls; omega) hcl (hsl.below hW))
        clear HDR hsl hls2
        go_wp2_with fail
        refine HIR.out.mono ?_
        rintro r v2 (⟨p2, A2, k2, hIs, rfl, hk2, hO2, hb2⟩ | ⟨hno, rfl, hb2⟩)
        · have HIS := Lib.hid hIs
          have hpw := hIs.2.2.1
          have hpo := hIs.2.1
          have hKO := own_kids p2.ex _ _ A2 v2.heap.size hO2 (Nat.le_refl _)
          have hwt2 : p2.ex.wt ≤ 2 ^ 29 := by have := pt_le9 p2 (ok_fine hpo); simp only [Pt.ok, Bool.and_eq_true, decide_eq_true_eq] at hpo; have := hpo.2.2; omega
          have HOK := Lib.hid (show okE p2.ex = true from (okE_iff _).2 ⟨p2, rfl, hpo⟩)
          have HWE := Lib.hid (show wordsE p2.ex = ls from (ok_words hpo).trans hpw)
          obtain ⟨W3, hW3⟩ : ∃ W3, W3 = v2.alloc (.cells #[.int .i64 p2.ex.kind, .int .i64 p2.ex.n, .string p2.ex.s, .slice A2 p2.ex.kids.length k2] 25) := ⟨_, rfl⟩
          have hbW3 : Below v2.heap.size v2 W3 := by rw [hW3]; exact (Below.refl _ v2).alloc (Nat.le_refl _) _
          have hzW3 : v2.heap.size < W3.heap.size := by rw [hW3]; simp
          have d0 : W3.cell? ⟨v2.heap.size, 0, none⟩ = some (.int .i64 p2.ex.kind) := by rw [hW3]; exact cell_made4 v2 _ _ 0 _ rfl
          have d1 : W3.cell? ⟨v2.heap.size, 1, none⟩ = some (.int .i64 p2.ex.n) := by rw [hW3]; exact cell_made4 v2 _ _ 1 _ rfl
          have d2 : W3.cell? ⟨v2.heap.size, 2, none⟩ = some (.string p2.ex.s) := by rw [hW3]; exact cell_made4 v2 _ _ 2 _ rfl
          have d3 : W3.cell? ⟨v2.heap.size, 3, none⟩ = some (.slice A2 p2.ex.kids.length k2) := by rw [hW3]; exact cell_made4 v2 _ _ 3 _ rfl
          have HEW2 := Lib.hid (fun (W : World) (hW : Below W3.heap.size W3 W) => exprWords_any p2.ex A2 k2 v2.heap.size W (hKO.keep (hbW3.trans (hW.mono hbW3.size))) hk2 (Nat.le_trans (Nat.le_of_lt hzW3) hW.size) (by omega) (HL.out.below (BV1.trans ((hb2.trans ((hbW3.trans (hW.mono hbW3.size)).mono hb2.size)).mono BV1.size))))
          have HEO2 := Lib.hid (fun (W : World) (hW : Below W3.heap.size W3 W) => exprOk_any p2.ex A2 k2 v2.heap.size W (hKO.keep (hbW3.trans (hW.mono hbW3.size))) hk2 (Nat.le_trans (Nat.le_of_lt hzW3) hW.size) (by omega))
          rw [HWE.out] at HEW2
          rw [HOK.out] at HEO2
          have HB3 := Lib.hid (hb2.trans (hbW3.mono hb2.size))
          have HV3 := Lib.hid (fun (W : World) (hW : Below W3.heap.size W3 W) (j : Nat) (u : Value) (hu : W3.cell? ⟨v2.heap.size, j, none⟩ = some u) => (hW.cell (p := ⟨v2.heap.size, j, none⟩) hzW3).trans hu)
          have HSR3 := Lib.hid (HSR.out W3 HB3.out)
          generalize p2.ex = x2 at *
          have D0 := Lib.hid d0
          have D1 := Lib.hid d1
          have D2 := Lib.hid d2
          have D3 := Lib.hid d3
          clear HIR hIs hpw hpo hKO hO2 hwt2 HSR hbW3 hb2
          rw [hW3] at d0 d1 d2 d3
          go_wp2_with fail
          rw [← hW3] at d0 d1 d2 d3 ⊢
          clear hW3
          refine HSR3.out.mono ?_
          rintro r v4 (⟨p4, A4', k4, hI4, rfl, hk4, hO4, hb4⟩ | ⟨hno, rfl, hb4⟩)
          · obtain ⟨W5, hW5⟩ : ∃ W5, W5 = v4.alloc (.cells #[.int .i64 p4.ex.kind, .int .i64 p4.ex.n, .string p4.ex.s, .slice A4' p4.ex.kids.length k4] 25) := ⟨_, rfl⟩
            have hb5 : Below W3.heap.size W3 W5 := by rw [hW5]; exact hb4.alloc hb4.size _
            have e0 := HV3.out W5 hb5 0 _ d0
            have e1 := HV3.out W5 hb5 1 _ d1
            have e2 := HV3.out W5 hb5 2 _ d2
            have e3 := HV3.out W5 hb5 3 _ d3
            have HW5 := Lib.hid hW5
            have HEW5 := Lib.hid (HEW2.out W5 hb5)
            clear hI4 hO4 HSR3 hb4 HEW2 d0 d1 d2 d3
            rw [hW5] at e0 e1 e2 e3
            go_wp2_with fail
            rw [← hW5] at e0 e1 e2 e3 ⊢
            clear hW5 HW5
            refine HEW5.out.mono ?_
            rintro r v6 ⟨v, rfl, hv, hb6⟩
            obtain ⟨A6, c6, rfl, hc6⟩ := own_slice hv
            have HT6 := Lib.hid (tokText_any A6 c6 ls v6 (by have := tot_le8 ls hls; omega) hc6 (SlIs.own hv))
            have hb36 := hb5.trans (hb6.mono hb5.size)
            generalize joinK ls ls.length = tl at *
            have qtl : (tl.toList == tl.toList) = true := by simp
            clear hv HEW5 hb6 e0 e1 e2 e3
            go_wp2_with fail
            refine HT6.out.mono ?_
            rintro r v7 ⟨rfl, hb7⟩
            have hb37 := hb36.trans (hb7.mono hb36.size)
            have HTL7 := Lib.hid (HTL.out v7 (HB3.out.trans (hb37.mono HB3.out.size)))
            clear HTL HT6
            go_wp2_with fail
            refine HTL7.out.mono ?_
            rintro r v8 ⟨rfl, hb8⟩
            have hb38 := hb37.trans (hb8.mono hb37.size)
            have g0 := HV3.out v8 hb38 0 _ D0.out
            have g1 := HV3.out v8 hb38 1 _ D1.out
            have g2 := HV3.out v8 hb38 2 _ D2.out
            have g3 := HV3.out v8 hb38 3 _ D3.out
            have HEO8 := Lib.hid (HEO2.out v8 hb38)
            clear HEO2 HTL7
            go_wp2_with fail
            refine HEO8.out.mono ?_
            rintro r v9 ⟨rfl, hb9⟩
            have hb39 := hb38.trans (hb9.mono hb38.size)
            go_wp2_with fail
            go_ret
            exact ⟨rfl, BV1.trans ((HB3.out.trans (hb39.mono HB3.out.size)).mono BV1.size)⟩
          · exact absurd (hno HIS.out.1 p2 HIS.out.2.1) (fun f => f HIS.out.2.2.1)
        · have HNO := Lib.hid hno
          obtain ⟨W3, hW3⟩ : ∃ W3, W3 = v2.alloc (.cells #[.int .i64 0, .int .i64 0, .string { data := #[] }, .slice none 0 0] 25) := ⟨_, rfl⟩
          have hbW3 : Below v2.heap.size v2 W3 := by rw [hW3]; exact (Below.refl _ v2).alloc (Nat.le_refl _) _
          have hzW3 : v2.heap.size < W3.heap.size := by rw [hW3]; simp
          have d0 : W3.cell? ⟨v2.heap.size, 0, none⟩ = some (.int .i64 0) := by rw [hW3]; exact cell_made4 v2 _ _ 0 _ rfl
          have d1 : W3.cell? ⟨v2.heap.size, 1, none⟩ = some (.int .i64 0) := by rw [hW3]; exact cell_made4 v2 _ _ 1 _ rfl
          have d2 : W3.cell? ⟨v2.heap.size, 2, none⟩ = some (.string { data := #[] }) := by rw [hW3]; exact cell_made4 v2 _ _ 2 _ rfl
          have d3 : W3.cell? ⟨v2.heap.size, 3, none⟩ = some (.slice none 0 0) := by rw [hW3]; exact cell_made4 v2 _ _ 3 _ rfl
          have HB3 := Lib.hid (hb2.trans (hbW3.mono hb2.size))
          have HSR3 := Lib.hid (HSR.out W3 HB3.out)
          clear HIR hno HSR hbW3 hb2 HTL d0 d1 d2 d3
          go_wp2_with fail
          rw [← hW3]
          clear hW3
          refine HSR3.out.mono ?_
          rintro r v4 (⟨p4, A4', k4, hI4, rfl, hk4, hO4, hb4⟩ | ⟨_, rfl, hb4⟩)
          · exact absurd (HNO.out hI4.1 p4 hI4.2.1) (fun f => f hI4.2.2.1)
          · have hb5 := HB3.out.trans (hb4.mono HB3.out.size)
            clear HSR3
            go_wp2_with fail
            go_ret
            exact ⟨rfl, BV1.trans ((hb5.alloc hb5.size _).mono BV1.size)⟩
end Go.Proofs.YtodioplkgjpcjaaGreatDoor.fnExpr
