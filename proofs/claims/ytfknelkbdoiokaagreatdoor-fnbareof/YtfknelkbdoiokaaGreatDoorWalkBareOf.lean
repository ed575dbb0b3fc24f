/-
  'laws.FnBareOf' returns true at every code: a drawn line without types has its kind and name, and no type in what it reckons; it is at most four wider.
  Conditions: the library's variables and the program's own error hold what their initialisers lay (tied to the program's text); every list of bytes.
-/
import Derived.Test.YtfknelkbdoiokaaGreatDoorGH
import Derived.Test.YtfknelkbdoiokaaGreatDoorGV
import Derived.Test.YtfknelkbdoiokaaGreatDoorSpecOfB
import Derived.Test.YtfknelkbdoiokaaGreatDoorDrawLn
import Derived.Test.YtfknelkbdoiokaaGreatDoorImplStmt
import Derived.Test.YtfknelkbdoiokaaGreatDoorImplBare
import Derived.Test.YtfknelkbdoiokaaGreatDoorImplLine
import Derived.Test.YtfknelkbdoiokaaGreatDoorExprBare
import Derived.Test.YtfknelkbdoiokaaGreatDoorBareSame
import Derived.Test.YtfknelkbdoiokaaGreatDoorGB
import Derived.Test.YtfknelkbdoiokaaGreatDoorIsErr
import Derived.WalkKit
import Derived.ProofKit
import Derived.OpenShut
import Derived.ShutString
import Derived.ChangeOld
import Derived.Below
import Derived.Lib.SmallJoins
import Derived.SliceStrings
namespace Go.Proofs.YtfknelkbdoiokaaGreatDoor.fnBareOf
open Go.ChangeShapes Go.WideShapes Go.ChangeAt Go.RowKit Go.Joins
open Go.ChangeMaps (open_string shut_string)


theorem kidsS_u {w : World} {S : Nat → Prop} {B : Nat} {A : Option Addr} {ks : List Ex} (h : KidsS w S A ks) (hS : ∀ b, S b → b < B) : KidsU w B A ks := by
  induction h with
  | nil => exact .nil
  | mk D c hg hb h0 h1 h2 h3 hc _ ih => exact .mk D c (hS _ hg) hb (fun j h => ⟨h0 j h, h1 j h, h2 j h, h3 j h, hc j h⟩) ih
theorem kids_two {W : World} {s : Br} {A1 A2 : Option Addr} {lo mid : Nat} (h1 : OwnE W s.e lo mid A1) (h2 : OwnE W s.t mid W.heap.size A2) : KidsU W W.heap.size A1 s.e.kids ∧ KidsU W W.heap.size A2 s.t.kids :=
  ⟨own_kidsU s.e _ _ _ _ h1 (own_le W s.t _ _ _ h2), own_kidsU s.t _ _ _ _ h2 (Nat.le_refl _)⟩
theorem bare_wt2 (p : Pt) : p.bare.ex.wt ≤ p.ex.wt := by
  induction p with
  | num n => exact Nat.le_refl _
  | name s => exact Nat.le_refl _
  | two s a b ia ib => simp only [Pt.bare, Pt.ex, Ex.wt, Ex.wts]; omega
  | «as» s a ia => simp only [Pt.bare, Pt.ex, Ex.wt, Ex.wts]; omega
theorem turnS_wt (s : St) : (turnS s).wt ≤ s.wt := by
  have hz : Ex.zero.wt = 0 := rfl
  unfold turnS
  cases h : doS s with
  | none => show ByteArray.empty.size + Ex.zero.wt + Ex.zero.wt ≤ _; rw [hz]; exact Nat.zero_le _
  | some d =>
    obtain ⟨_, hs, _⟩ := doS_some h
    subst hs
    cases d with
    | noD => show ByteArray.empty.size + Ex.zero.wt + Ex.zero.wt ≤ _; rw [hz]; exact Nat.zero_le _
    | letD n t p => have := bare_wt2 p; simp only [De.turned, Ba.br, De.st, Br.wt, St.wt]; omega
    | sayD p => have := bare_wt2 p; simp only [De.turned, Ba.br, De.st, Br.wt, St.wt]; omega
    | whenD p q => have := bare_wt2 p; have := bare_wt2 q; simp only [De.turned, Ba.br, De.st, Br.wt, St.wt]; omega
theorem word_free {s : ByteArray} (h : freeW s) : (s.toList == [97, 115]) = false ∧ (s.toList == [105, 110, 116]) = false ∧ (s.toList == [98, 111, 111, 108]) = false ∧ (s.toList == [108, 101, 116]) = false ∧ (s.toList == [115, 97, 121]) = false ∧ (s.toList == [119, 104, 101, 110]) = false := by
  refine ⟨?_, ?_, ?_, ?_, ?_, ?_⟩ <;> rw [isS] <;> apply decide_eq_false
  · exact h.1.1
  · exact h.1.2.1
  · exact h.1.2.2
  · exact h.2.1
  · exact h.2.2.1
  · exact h.2.2.2
theorem turned_e {s : St} {d : De} (h : doS s = some d) : (turnS s).e = bareE s.e := by
  obtain ⟨h1, h2, _⟩ := doS_some h
  rw [turnS_some h]
  subst h2
  cases d with
  | noD => rfl
  | letD n t p =>
    simp only [De.fine, Bool.and_eq_true] at h1
    show p.bare.ex = bareE p.ex
    unfold bareE
    rw [okP_ex h1.2.2]
  | sayD p =>
    show p.bare.ex = bareE p.ex
    unfold bareE
    rw [okP_ex (show p.ok = true from h1)]
  | whenD p q =>
    simp only [De.fine, Bool.and_eq_true] at h1
    show p.bare.ex = bareE p.ex
    unfold bareE
    rw [okP_ex h1.1]
set_option linter.unusedVariables false in
set_option linter.unusedSimpArgs false in
set_option maxRecDepth 100000 in
set_option maxHeartbeats 16000000 in
theorem walk (A : Option Addr) (len cap : Nat) (w : World) (h1 : InCode w A len cap) (hL : LaidW w ∧ ∃ a, LaidN w a) :
    Calls Tryz.prog 6 #[.slice A len cap] w fun r w' => r = .returned (.bool true) ∧ Below w.heap.size w w' := by
  by_cases hl1 : 1048576 < len
  · have q1 : decide ((1048576 : Int) < (len : Int)) = true := by simp; omega
    clear h1
    go_enter Tryz.func6, Tryz.ntmps6
    go_wp2_with fail
    go_ret
    exact ⟨rfl, Below.refl _ _⟩
  have q1 : decide ((1048576 : Int) < (len : Int)) = false := by simp; omega
  have HD := Lib.hid (drawBareOf_any A len cap w h1)
  obtain ⟨hL, ad, hN⟩ := hL
  have HL := Lib.hid hL
  have HN := Lib.hid hN
  clear h1 hL hN
  go_enter Tryz.func6, Tryz.ntmps6
  go_wp2_with fail
  refine HD.out.mono ?_
  rintro r w1 ⟨s, A1, A2, c1, c2, rfl, hc1, hc2, hO1, hO2, hwt, hb1⟩
  have hxw := turnS_wt s
  have HK1 := Lib.hid hO1.kids
  have HK2 := Lib.hid hO2.kids
  obtain ⟨W2, hW2⟩ : ∃ W2, W2 = w1.alloc (.cells #[.int .i64 s.kind, .string s.name, .string s.typ, .int .i64 s.e.kind, .int .i64 s.e.n, .string s.e.s, .slice A1 s.e.kids.length c1, .int .i64 s.t.kind, .int .i64 s.t.n, .string s.t.s, .slice A2 s.t.kids.length c2] 35) := ⟨_, rfl⟩
  have hb2' : Below w1.heap.size w1 W2 := by rw [hW2]; exact below_new _ _
  have hB2 : BlkT W2 w1.heap.size #[.int .i64 s.kind, .string s.name, .string s.typ, .int .i64 s.e.kind, .int .i64 s.e.n, .string s.e.s, .slice A1 s.e.kids.length c1, .int .i64 s.t.kind, .int .i64 s.t.n, .string s.t.s, .slice A2 s.t.kids.length c2] 35 := by rw [hW2]; exact blkT_new _ _ _
  have hz2 : W2.heap.size = w1.heap.size + 1 := by rw [hW2]; simp
  have hb2 := hb1.trans (hb2'.mono hb1.size)
  have HIB := Lib.hid (bareOf_any s A1 A2 c1 c2 w1.heap.size ad W2 (HK1.out.keep hb2') (HK2.out.keep hb2') hc1 hc2 (by omega) (by omega) (HL.out.below hb2) (HN.out.below hb2))
  have HSW2 := Lib.hid hB2
  unfold stV GivesBr brV at HIB
  unfold stV
  have a0 := BlkT.cell hB2 0
  have a1 := BlkT.cell hB2 1
  have a2 := BlkT.cell hB2 2
  have a3 := BlkT.cell hB2 3
  have a4 := BlkT.cell hB2 4
  have a5 := BlkT.cell hB2 5
  have a6 := BlkT.cell hB2 6
  have a7 := BlkT.cell hB2 7
  have a8 := BlkT.cell hB2 8
  have a9 := BlkT.cell hB2 9
  have a10 := BlkT.cell hB2 10
  simp only [List.getElem?_toArray, List.getElem?_cons_zero, List.getElem?_cons_succ] at a0 a1 a2 a3 a4 a5 a6 a7 a8 a9 a10
  have HB2' := Lib.hid hb2'
  clear hO1 hO2 hB2 HD hb2'
  rw [hW2] at a0 a1 a2 a3 a4 a5 a6 a7 a8 a9 a10
  go_wp2_with fail
  rw [← hW2] at a0 a1 a2 a3 a4 a5 a6 a7 a8 a9 a10 ⊢
  clear hW2 a0 a1 a2 a3 a4 a5 a6 a7 a8 a9 a10
  obtain ⟨x, hx⟩ : ∃ x, x = turnS s := ⟨_, rfl⟩
  rw [← hx] at HIB hxw
  refine HIB.out.mono ?_
  rintro r w3 ⟨B1, d1, B2, d2, mid, rfl, hd1, hd2, hOB1, hOB2, hmid, hb3'⟩
  have HXE := Lib.hid hx.symm
  have hbw := hb2.trans (hb3'.mono hb2.size)
  have HKB := Lib.hid (kids_two hOB1 hOB2)
  obtain ⟨X, hX⟩ : ∃ X, X = w3.alloc (.cells #[.int .i64 x.kind, .string x.name, .int .i64 x.e.kind, .int .i64 x.e.n, .string x.e.s, .slice B1 x.e.kids.length d1, .int .i64 x.t.kind, .int .i64 x.t.n, .string x.t.s, .slice B2 x.t.kids.length d2] 52) := ⟨_, rfl⟩
  have hbX' : Below w3.heap.size w3 X := by rw [hX]; exact below_new _ _
  have hzX : X.heap.size = w3.heap.size + 1 := by rw [hX]; simp
  have HB0 := Lib.hid (show BlkT X w3.heap.size #[.int .i64 x.kind, .string x.name, .int .i64 x.e.kind, .int .i64 x.e.n, .string x.e.s, .slice B1 x.e.kids.length d1, .int .i64 x.t.kind, .int .i64 x.t.n, .string x.t.s, .slice B2 x.t.kids.length d2] 52 by rw [hX]; exact blkT_new _ _ _)
  have hb13 := HB2'.out.trans (hb3'.mono HB2'.out.size)
  have hb1X := hb13.trans (hbX'.mono hb13.size)
  have HS0 := Lib.hid (HSW2.out.below (hb3'.trans (hbX'.mono hb3'.size)))
  have hz13 := hb13.size
  have HBW := Lib.hid (hbw.trans (hbX'.mono hbw.size))
  have HLL := Lib.hid (fun (W : World) (hW : Below X.heap.size X W) => show LaidW W from HL.out.below (HBW.out.trans (hW.mono HBW.out.size)))
  have HLN := Lib.hid (fun (W : World) (hW : Below X.heap.size X W) => show LaidN W ad from HN.out.below (HBW.out.trans (hW.mono HBW.out.size)))
  have HKS := Lib.hid (fun (W : World) (hW : Below X.heap.size X W) (B : Nat) (hB : w1.heap.size ≤ B) => show KidsU W B A1 s.e.kids ∧ KidsU W B A2 s.t.kids from ⟨((HK1.out.keep hb1X).keep (hW.mono (by omega))).wide hB, ((HK2.out.keep hb1X).keep (hW.mono (by omega))).wide hB⟩)
  have HKX := Lib.hid (fun (W : World) (hW : Below X.heap.size X W) => show KidsU W W.heap.size B1 x.e.kids ∧ KidsU W W.heap.size B2 x.t.kids from ⟨((HKB.out.1.keep hbX').keep (hW.mono (by omega))).wide (by have := hW.size; omega), ((HKB.out.2.keep hbX').keep (hW.mono (by omega))).wide (by have := hW.size; omega)⟩)
  have HMB := Lib.hid (fun (W : World) (hW : Below X.heap.size X W) => specBareOf_any s A1 A2 c1 c2 w1.heap.size W (HKS.out W hW _ (Nat.le_refl _)).1.kids (HKS.out W hW _ (Nat.le_refl _)).2.kids hc1 hc2 (by have := hW.size; omega) (by omega))
  have HOK := Lib.hid (fun (W : World) (hW : Below X.heap.size X W) => specStmtOk_any s A1 A2 c1 c2 w1.heap.size W (HKS.out W hW _ (Nat.le_refl _)).1.kids (HKS.out W hW _ (Nat.le_refl _)).2.kids hc1 hc2 (by have := hW.size; omega) (by omega))
  have HSM := Lib.hid (fun (W : World) (Y1 Y2 : Option Addr) (m1 m2 : Nat) (hW : Below X.heap.size X W) (h1 : KidsU W W.heap.size Y1 x.e.kids) (h2 : KidsU W W.heap.size Y2 x.t.kids) (h3 : x.e.kids.length ≤ m1) (h4 : x.t.kids.length ≤ m2) => And.intro (show Calls Tryz.prog 30 #[.agg #[.int .i64 x.kind, .string x.name, .int .i64 x.e.kind, .int .i64 x.e.n, .string x.e.s, .slice B1 x.e.kids.length d1, .int .i64 x.t.kind, .int .i64 x.t.n, .string x.t.s, .slice B2 x.t.kids.length d2], .agg #[.int .i64 x.kind, .string x.name, .int .i64 x.e.kind, .int .i64 x.e.n, .string x.e.s, .slice Y1 x.e.kids.length m1, .int .i64 x.t.kind, .int .i64 x.t.n, .string x.t.s, .slice Y2 x.t.kids.length m2]] W (fun r w' => r = .returned (.bool true) ∧ Below W.heap.size W w') from by
    have h := bareSame_any x x B1 B2 Y1 Y2 d1 d2 m1 m2 W.heap.size W (HKX.out W hW).1 (HKX.out W hW).2 h1 h2 hd1 hd2 h3 h4 (Nat.le_refl _) (by omega)
    rw [sameB_self] at h
    exact h) (show Calls Tryz.prog 30 #[.agg #[.int .i64 x.kind, .string x.name, .int .i64 x.e.kind, .int .i64 x.e.n, .string x.e.s, .slice Y1 x.e.kids.length m1, .int .i64 x.t.kind, .int .i64 x.t.n, .string x.t.s, .slice Y2 x.t.kids.length m2], .agg #[.int .i64 x.kind, .string x.name, .int .i64 x.e.kind, .int .i64 x.e.n, .string x.e.s, .slice B1 x.e.kids.length d1, .int .i64 x.t.kind, .int .i64 x.t.n, .string x.t.s, .slice B2 x.t.kids.length d2]] W (fun r w' => r = .returned (.bool true) ∧ Below W.heap.size W w') from by
    have h := bareSame_any x x Y1 Y2 B1 B2 m1 m2 d1 d2 W.heap.size W h1 h2 (HKX.out W hW).1 (HKX.out W hW).2 h3 h4 hd1 hd2 (Nat.le_refl _) (by omega)
    rw [sameB_self] at h
    exact h))
  unfold stV GivesBare at HMB
  rw [← hx] at HMB
  unfold stV at HOK
  clear hx hb3' hbX' hb13 hb1X hbw hb2 hOB1 hOB2 HK1 HK2 HKB HIB HSW2 HB2' HL HN hb1 hmid
  go_wp2_with fail
  rw [← hX]
  clear hX
  refine wp_region_noPanic ?_
  refine wp_region_held_drew (S := (fun W => BlkT W w1.heap.size #[.int .i64 s.kind, .string s.name, .string s.typ, .int .i64 s.e.kind, .int .i64 s.e.n, .string s.e.s, .slice A1 s.e.kids.length c1, .int .i64 s.t.kind, .int .i64 s.t.n, .string s.t.s, .slice A2 s.t.kids.length c2] 35 ∧ BlkT W w3.heap.size #[.int .i64 x.kind, .string x.name, .int .i64 x.e.kind, .int .i64 x.e.n, .string x.e.s, .slice B1 x.e.kids.length d1, .int .i64 x.t.kind, .int .i64 x.t.n, .string x.t.s, .slice B2 x.t.kids.length d2] 52 ∧ Below X.heap.size X W)) (by kernel_rfl) (by exact ⟨HS0.out, HB0.out, (Below.refl _ X).drew⟩) (fun hHeld => ?_)
  refine wpAnyH_take (i := 0) (v := ?valF0T1) rfl (by kernel_rfl) (by kernel_rfl) (by kernel_rfl) (fun _ _ _ h => h) (Or.inl ⟨by rfl, ?yieF0T1⟩) (by assumption) ?resF0T1
  case yieF0T1 =>
    intro w hSw
    try dsimp only at hSw
    obtain ⟨s0, s1, s2⟩ := hSw
    have e0 := BlkT.cell s1 0
    have e1 := BlkT.cell s1 1
    have e2 := BlkT.cell s1 2
    have e3 := BlkT.cell s1 3
    have e4 := BlkT.cell s1 4
    have e5 := BlkT.cell s1 5
    have e6 := BlkT.cell s1 6
    have e7 := BlkT.cell s1 7
    have e8 := BlkT.cell s1 8
    have e9 := BlkT.cell s1 9
    simp only [List.getElem?_toArray, List.getElem?_cons_zero, List.getElem?_cons_succ] at e0 e1 e2 e3 e4 e5 e6 e7 e8 e9
    go_simp
    try with_reducible rfl
  try simp only [Act.put, List.setIfInBounds_toArray, List.set_cons_zero, List.set_cons_succ, List.getElem_toArray, List.getElem_cons_zero, List.getElem_cons_succ]
  refine wpAnyH_take (i := 1) (v := ?valF1T2) rfl (by kernel_rfl) (by kernel_rfl) (by kernel_rfl) (fun _ _ _ h => h) (Or.inl ⟨by rfl, ?yieF1T2⟩) (by assumption) ?resF1T2
  case yieF1T2 =>
    intro w hSw
    try dsimp only at hSw
    obtain ⟨s0, s1, s2⟩ := hSw
    have e0 := BlkT.cell s0 0
    have e1 := BlkT.cell s0 1
    have e2 := BlkT.cell s0 2
    have e3 := BlkT.cell s0 3
    have e4 := BlkT.cell s0 4
    have e5 := BlkT.cell s0 5
    have e6 := BlkT.cell s0 6
    have e7 := BlkT.cell s0 7
    have e8 := BlkT.cell s0 8
    have e9 := BlkT.cell s0 9
    have e10 := BlkT.cell s0 10
    simp only [List.getElem?_toArray, List.getElem?_cons_zero, List.getElem?_cons_succ] at e0 e1 e2 e3 e4 e5 e6 e7 e8 e9 e10
    go_simp
    try with_reducible rfl
  try simp only [Act.put, List.setIfInBounds_toArray, List.set_cons_zero, List.set_cons_succ, List.getElem_toArray, List.getElem_cons_zero, List.getElem_cons_succ]
  refine wpAnyH_ready (rs := [2]) (by kernel_rfl) (by simp) ?_
  refine AllReadyH.cons rfl (fun K hK => ?_) AllReadyH.nil
  go_simp
  refine (HMB.out _ (Below.refl _ X).drew).mono ?_
  rintro r W1 ⟨Y1, Y2, m1, m2, rfl, hm1, hm2, hY1, hY2, hbY'⟩
  have hb1 : Below X.heap.size X W1 := (Below.refl _ X).drew.trans hbY'
  have HY := Lib.hid (And.intro (kidsS_u (B := W1.heap.size) hY1 (fun b h => h.2)) (kidsS_u (B := W1.heap.size) hY2 (fun b h => h.2)))
  go_wp2_with fail
  refine hK.out _ _ (by exact ⟨HS0.out.below hb1, HB0.out.below hb1, hb1⟩) (fun hHeld => ?_)
  clear hK K
  try simp only [Act.put, List.setIfInBounds_toArray, List.set_cons_zero, List.set_cons_succ, List.getElem_toArray, List.getElem_cons_zero, List.getElem_cons_succ]
  refine wpAnyH_ready (rs := [3]) (by kernel_rfl) (by simp) ?_
  refine AllReadyH.cons rfl (fun K hK => ?_) AllReadyH.nil
  go_simp
  refine ((HSM.out _ Y1 Y2 m1 m2 hb1 HY.out.1 HY.out.2 hm1 hm2).1).mono ?_
  rintro r W2' ⟨rfl, hbZ⟩
  have hb2 : Below X.heap.size X W2' := hb1.trans (hbZ.mono hb1.size)
  go_wp2_with fail
  refine hK.out _ _ (by exact ⟨HS0.out.below hb2, HB0.out.below hb2, hb2⟩) (fun hHeld => ?_)
  clear hK K
  try simp only [Act.put, List.setIfInBounds_toArray, List.set_cons_zero, List.set_cons_succ, List.getElem_toArray, List.getElem_cons_zero, List.getElem_cons_succ]
  refine wpAnyH_take (i := 4) (v := ?valF4T3) rfl (by kernel_rfl) (by kernel_rfl) (by kernel_rfl) (fun _ _ _ h => h) (Or.inl ⟨by rfl, ?yieF4T3⟩) (by assumption) ?resF4T3
  case yieF4T3 =>
    intro w hSw
    try dsimp only at hSw
    go_simp
    try with_reducible rfl
  try simp only [Act.put, List.setIfInBounds_toArray, List.set_cons_zero, List.set_cons_succ, List.getElem_toArray, List.getElem_cons_zero, List.getElem_cons_succ]
  refine wpAnyH_done (by kernel_rfl) ?_ _
  refine NoPanic.normal ?_
  obtain ⟨Y, hY⟩ : ∃ Y, Y = W2' := ⟨_, rfl⟩
  rw [← hY] at hb2 ⊢
  clear hY
  have HXY := Lib.hid hb2
  have HSY := Lib.hid (HS0.out.below hb2)
  have HBY := Lib.hid (HB0.out.below hb2)
  clear hb2 hb1 hbZ hbY' HY
  have p0 := BlkT.cell HSY.out 0
  have p1 := BlkT.cell HSY.out 1
  have p2 := BlkT.cell HSY.out 2
  have p3 := BlkT.cell HSY.out 3
  have p4 := BlkT.cell HSY.out 4
  have p5 := BlkT.cell HSY.out 5
  have p6 := BlkT.cell HSY.out 6
  have p7 := BlkT.cell HSY.out 7
  have p8 := BlkT.cell HSY.out 8
  have p9 := BlkT.cell HSY.out 9
  have p10 := BlkT.cell HSY.out 10
  simp only [List.getElem?_toArray, List.getElem?_cons_zero, List.getElem?_cons_succ] at p0 p1 p2 p3 p4 p5 p6 p7 p8 p9 p10
  go_wp2_with fail
  refine (HOK.out Y HXY.out).mono ?_
  rintro r w5 ⟨rfl, hb5'⟩
  have hb5 := HXY.out.trans (hb5'.mono HXY.out.size)
  have HS5 := Lib.hid (HSY.out.below hb5')
  have HB5 := Lib.hid (HBY.out.below hb5')
  clear p0 p1 p2 p3 p4 p5 p6 p7 p8 p9 p10
  have q0 := BlkT.cell HB5.out 0
  have q1 := BlkT.cell HB5.out 1
  have q2 := BlkT.cell HB5.out 2
  have q3 := BlkT.cell HB5.out 3
  have q4 := BlkT.cell HB5.out 4
  have q5 := BlkT.cell HB5.out 5
  have q6 := BlkT.cell HB5.out 6
  have q7 := BlkT.cell HB5.out 7
  have q8 := BlkT.cell HB5.out 8
  have q9 := BlkT.cell HB5.out 9
  simp only [List.getElem?_toArray, List.getElem?_cons_zero, List.getElem?_cons_succ] at q0 q1 q2 q3 q4 q5 q6 q7 q8 q9
  cases hd : doS s with
  | none =>
    simp only [Option.isSome_none]
    have hx0 : x = Br.zero := by rw [← HXE.out]; exact turnS_none hd
    have HZ := Lib.hid (show Calls Tryz.prog 30 #[.agg #[.int .i64 x.kind, .string x.name, .int .i64 x.e.kind, .int .i64 x.e.n, .string x.e.s, .slice B1 x.e.kids.length d1, .int .i64 x.t.kind, .int .i64 x.t.n, .string x.t.s, .slice B2 x.t.kids.length d2], .agg #[.int .i64 0, .string { data := #[] }, .int .i64 0, .int .i64 0, .string { data := #[] }, .slice none 0 0, .int .i64 0, .int .i64 0, .string { data := #[] }, .slice none 0 0]] w5 (fun r w' => r = .returned (.bool true) ∧ Below w5.heap.size w5 w') from by
      have h := bareSame_any x Br.zero B1 B2 none none d1 d2 0 0 w5.heap.size w5 (HKX.out w5 hb5).1 (HKX.out w5 hb5).2 .nil .nil hd1 hd2 (Nat.le_refl _) (Nat.le_refl _) (Nat.le_refl _) (by omega)
      rw [← hx0, sameB_self] at h
      subst hx0
      exact h)
    clear hx0 hd
    go_wp2_with fail
    refine HZ.out.mono ?_
    rintro r w6 ⟨rfl, hb6⟩
    go_wp2_with fail
    go_ret
    exact ⟨rfl, HBW.out.trans ((hb5.trans (hb6.mono hb5.size)).mono HBW.out.size)⟩
  | some d =>
    simp only [Option.isSome_some]
    obtain ⟨hbo, hsz, htk⟩ := turned_is hd
    obtain ⟨hkn, hnn⟩ := turned_has hd
    have hte := turned_e hd
    have hfr := turned_free (doS_some hd).1
    have hbt : textB (turnS s) = d.turned.text := by unfold textB; rw [hbo]
    have hst : textS s = d.text := by unfold textS; rw [hd]
    have hbs : d.turned.text.size ≤ 120 := by have := (doS_some hd).2.2; omega
    rw [HXE.out] at hbo hkn hnn hte hbt
    have HBT := Lib.hid (fun (W : World) (hW : Below X.heap.size X W) => show Calls Tryz.prog 32 #[.agg #[.int .i64 x.kind, .string x.name, .int .i64 x.e.kind, .int .i64 x.e.n, .string x.e.s, .slice B1 x.e.kids.length d1, .int .i64 x.t.kind, .int .i64 x.t.n, .string x.t.s, .slice B2 x.t.kids.length d2]] W (fun r w' => r = .returned (.string d.turned.text) ∧ Below W.heap.size W w') from by
      have h := bareText_all x B1 B2 d1 d2 W.heap.size W (HKX.out W hW).1 (HKX.out W hW).2 hd1 hd2 (Nat.le_refl _) (by omega) (HLL.out W hW)
      rw [hbt] at h
      exact h)
    have HST := Lib.hid (fun (W : World) (hW : Below X.heap.size X W) => show Calls Tryz.prog 17 #[.agg #[.int .i64 s.kind, .string s.name, .string s.typ, .int .i64 s.e.kind, .int .i64 s.e.n, .string s.e.s, .slice A1 s.e.kids.length c1, .int .i64 s.t.kind, .int .i64 s.t.n, .string s.t.s, .slice A2 s.t.kids.length c2]] W (fun r w' => r = .returned (.string d.text) ∧ Below W.heap.size W w') from by
      have h := stmtText_any s A1 A2 c1 c2 w1.heap.size ad W (HKS.out W hW _ (Nat.le_refl _)).1 (HKS.out W hW _ (Nat.le_refl _)).2 hc1 hc2 (by have := hW.size; omega) (by omega) (HLL.out W hW) (HLN.out W hW)
      rw [hst] at h
      exact h)
    have HBK := Lib.hid (fun (W : World) (hW : Below X.heap.size X W) => show Calls Tryz.prog 33 #[.agg #[.int .i64 x.kind, .string x.name, .int .i64 x.e.kind, .int .i64 x.e.n, .string x.e.s, .slice B1 x.e.kids.length d1, .int .i64 x.t.kind, .int .i64 x.t.n, .string x.t.s, .slice B2 x.t.kids.length d2]] W (fun r w' => r = .returned (.bool true) ∧ Below W.heap.size W w') from by
      have h := bareOk_any x B1 B2 d1 d2 W.heap.size W (HKX.out W hW).1 (HKX.out W hW).2 hd1 hd2 (Nat.le_refl _) (by omega) (HLL.out W hW)
      rw [hbo] at h
      exact h)
    have HEB := Lib.hid (fun (W : World) (hW : Below X.heap.size X W) => exprBare_any s.e A1 c1 w1.heap.size W (HKS.out W hW _ (Nat.le_refl _)).1.kids hc1 (by have := hW.size; omega) (by unfold St.wt at hwt; omega))
    rw [← hte] at HEB
    unfold Gives at HEB
    have HES := Lib.hid (fun (W : World) (G : Option Addr) (gc : Nat) (hW : Below X.heap.size X W) (hG : KidsU W W.heap.size G x.e.kids) (hgc : x.e.kids.length ≤ gc) => show Calls Tryz.prog 34 #[.agg #[.int .i64 x.e.kind, .int .i64 x.e.n, .string x.e.s, .slice B1 x.e.kids.length d1], .agg #[.int .i64 x.e.kind, .int .i64 x.e.n, .string x.e.s, .slice G x.e.kids.length gc]] W (fun r w' => r = .returned (.bool true) ∧ Below W.heap.size W w') from by
      have h := exprSame_any x.e x.e B1 G d1 gc W.heap.size W (HKX.out W hW).1 hG hd1 hgc (Nat.le_refl _) (by have := x.e.nodes_le; unfold Br.wt at hxw; omega)
      rw [sameE_self] at h
      exact h)
    have HTL := Lib.hid (fun (W : World) (hW : Below X.heap.size X W) => tokLine_any d.turned.text W (by omega) (HLL.out W hW))
    unfold ReadsT at HTL
    rw [htk] at HTL
    simp only [Option.isSome_some, Option.getD_some] at HTL
    have hwp : IntKind.i64.wrap ((d.text.size : Int) + 4) = (d.text.size : Int) + 4 := IntWalk.i64_in _ (by have := (doS_some hd).2.2; omega)
    have hql : decide ((d.turned.text.size : Int) ≤ (d.text.size : Int) + 4) = true := by simp; omega
    have HWD := Lib.hid (fun k (hk : k < d.turned.words.length) => And.intro (show ∃ a c, ((joinToks d.turned.words d.turned.words.length).map tkV)[k]? = some (a, d.turned.words[k], c) from ⟨_, _, by
      rw [List.getElem?_eq_getElem (by rw [List.length_map, joinToks_length]; exact hk), List.getElem_map, joinToks_get d.turned.words _ k hk (Nat.le_refl _)]⟩) (word_free (hfr _ (List.getElem_mem hk))))
    have HWL := Lib.hid (show ((joinToks d.turned.words d.turned.words.length).map tkV).length = d.turned.words.length by rw [List.length_map, joinToks_length])
    have hwl : d.turned.words.length ≤ 200 := Ba.words_length (turned_fine (doS_some hd).1)
    rw [show (joinToks d.turned.words d.turned.words.length).length = d.turned.words.length from joinToks_length _ _] at HTL
    generalize (joinToks d.turned.words d.turned.words.length).map tkV = tv at *
    generalize d.turned.words = ws at *
    generalize d.turned.text = t1 at *
    generalize d.text = t2 at *
    have qkk : (x.kind == s.kind) = true := by rw [hkn]; simp
    have qnn : (x.name.toList == s.name.toList) = true := by rw [hnn]; simp
    clear hd hbo hsz htk hkn hnn hte hfr hbt hst hbs HKS HSM HMB HOK HXE HS0 HB0 HXY HSY HBY
    go_wp2_with fail
    refine (HBT.out w5 hb5).mono ?_
    rintro r w6 ⟨rfl, hb6'⟩
    have hb6 := hb5.trans (hb6'.mono hb5.size)
    clear q0 q1 q2 q3 q4 q5 q6 q7 q8 q9
    go_wp2_with fail
    refine (HTL.out w6 hb6).mono ?_
    rintro r w7 ⟨v, rfl, hv, hb7'⟩
    obtain ⟨At, ct, rfl, _⟩ := own_sliceK hv
    have HT7 := Lib.hid (SlIs.ownK hv)
    have HXV := Lib.hid (hb6.trans (hb7'.mono hb6.size))
    have hb57 := hb6'.trans (hb7'.mono hb6'.size)
    obtain ⟨V, hV⟩ : ∃ V, V = w7 := ⟨_, rfl⟩
    rw [← hV] at HT7 HXV hb57 ⊢
    have HSV := Lib.hid (HS5.out.below hb57)
    have HBV := Lib.hid (HB5.out.below hb57)
    clear hV hv hb7' hb6' hb6 hb57 hb5' hb5 HS5 HB5
    go_wp2_with fail
    go_loop [7] (fun i => ∃ k : Nat, k ≤ ws.length ∧ i = .int .i64 k) (fun i => ws.length - (intOf i).toNat)
    case atStart => exact ⟨0, Nat.zero_le _, rfl⟩
    case round =>
      obtain ⟨k, hk, rfl⟩ := hrel
      by_cases hlt : k < ws.length
      · obtain ⟨g, off, rfl, hg, _, hc, _⟩ := HT7.out.tok (k := k) (by rw [HWL.out]; exact hlt)
        obtain ⟨⟨a, c, hw1⟩, f1, f2, f3, f4, f5, f6⟩ := HWD.out k hlt
        rw [(List.getElem?_eq_some_iff.1 hw1).2] at hc
        simp only at hc
        clear hw1
        generalize ws[k] = t at *
        have hx : (k : Int) < (ws.length : Int) := by omega
        go_wp2_with fail
        go_round
        case rel => exact ⟨k + 1, by omega, by go_num⟩
        case measure => simp [intOf]; omega
      · clear HT7 HWD HWL
        go_wp2_with fail
        have HBK := Lib.hid (fun (W : World) (hW : Below V.heap.size V W) => HBK.out W (HXV.out.trans (hW.mono HXV.out.size)))
        have HEB := Lib.hid (fun (W : World) (hW : Below V.heap.size V W) => HEB.out W (HXV.out.trans (hW.mono HXV.out.size)))
        have HES := Lib.hid (fun (W : World) (G : Option Addr) (gc : Nat) (hW : Below V.heap.size V W) (hG : KidsU W W.heap.size G x.e.kids) (hgc : x.e.kids.length ≤ gc) => HES.out W G gc (HXV.out.trans (hW.mono HXV.out.size)) hG hgc)
        have HBT := Lib.hid (fun (W : World) (hW : Below V.heap.size V W) => HBT.out W (HXV.out.trans (hW.mono HXV.out.size)))
        have HST := Lib.hid (fun (W : World) (hW : Below V.heap.size V W) => HST.out W (HXV.out.trans (hW.mono HXV.out.size)))
        refine wp_region_noPanic ?_
        refine wp_region_held_drew (S := (fun W => BlkT W w1.heap.size #[.int .i64 s.kind, .string s.name, .string s.typ, .int .i64 s.e.kind, .int .i64 s.e.n, .string s.e.s, .slice A1 s.e.kids.length c1, .int .i64 s.t.kind, .int .i64 s.t.n, .string s.t.s, .slice A2 s.t.kids.length c2] 35 ∧ BlkT W w3.heap.size #[.int .i64 x.kind, .string x.name, .int .i64 x.e.kind, .int .i64 x.e.n, .string x.e.s, .slice B1 x.e.kids.length d1, .int .i64 x.t.kind, .int .i64 x.t.n, .string x.t.s, .slice B2 x.t.kids.length d2] 52 ∧ Below V.heap.size V W)) (by kernel_rfl) (by exact ⟨HSV.out, HBV.out, (Below.refl _ V).drew⟩) (fun hHeld => ?_)
        refine wpAnyH_take (i := 0) (v := ?valF0T4) rfl (by kernel_rfl) (by kernel_rfl) (by kernel_rfl) (fun _ _ _ h => h) (Or.inl ⟨by rfl, ?yieF0T4⟩) (by assumption) ?resF0T4
        case yieF0T4 =>
          intro w hSw
          try dsimp only at hSw
          go_simp
          try with_reducible rfl
        try simp only [Act.put, List.setIfInBounds_toArray, List.set_cons_zero, List.set_cons_succ, List.getElem_toArray, List.getElem_cons_zero, List.getElem_cons_succ]
        refine wpAnyH_take (i := 1) (v := ?valF1T5) rfl (by kernel_rfl) (by kernel_rfl) (by kernel_rfl) (fun _ _ _ h => h) (Or.inl ⟨by rfl, ?yieF1T5⟩) (by assumption) ?resF1T5
        case yieF1T5 =>
          intro w hSw
          try dsimp only at hSw
          go_simp
          try with_reducible rfl
        try simp only [Act.put, List.setIfInBounds_toArray, List.set_cons_zero, List.set_cons_succ, List.getElem_toArray, List.getElem_cons_zero, List.getElem_cons_succ]
        refine wpAnyH_take (i := 2) (v := ?valF2T6) rfl (by kernel_rfl) (by kernel_rfl) (by kernel_rfl) (fun _ _ _ h => h) (Or.inl ⟨by rfl, ?yieF2T6⟩) (by assumption) ?resF2T6
        case yieF2T6 =>
          intro w hSw
          try dsimp only at hSw
          obtain ⟨s0, s1, s2⟩ := hSw
          have e0 := BlkT.cell s1 0
          have e1 := BlkT.cell s1 1
          have e2 := BlkT.cell s1 2
          have e3 := BlkT.cell s1 3
          have e4 := BlkT.cell s1 4
          have e5 := BlkT.cell s1 5
          have e6 := BlkT.cell s1 6
          have e7 := BlkT.cell s1 7
          have e8 := BlkT.cell s1 8
          have e9 := BlkT.cell s1 9
          simp only [List.getElem?_toArray, List.getElem?_cons_zero, List.getElem?_cons_succ] at e0 e1 e2 e3 e4 e5 e6 e7 e8 e9
          go_simp
          try with_reducible rfl
        try simp only [Act.put, List.setIfInBounds_toArray, List.set_cons_zero, List.set_cons_succ, List.getElem_toArray, List.getElem_cons_zero, List.getElem_cons_succ]
        refine wpAnyH_ready (rs := [3]) (by kernel_rfl) (by simp) ?_
        refine AllReadyH.cons rfl (fun K hK => ?_) AllReadyH.nil
        go_simp
        refine (HBK.out _ (Below.refl _ V).drew).mono ?_
        rintro r U1 ⟨rfl, hbZ1⟩
        have hb1 : Below V.heap.size V U1 := (Below.refl _ V).drew.trans hbZ1
        go_wp2_with fail
        refine hK.out _ _ (by exact ⟨HSV.out.below hb1, HBV.out.below hb1, hb1⟩) (fun hHeld => ?_)
        clear hK K
        try simp only [Act.put, List.setIfInBounds_toArray, List.set_cons_zero, List.set_cons_succ, List.getElem_toArray, List.getElem_cons_zero, List.getElem_cons_succ]
        refine wpAnyH_take (i := 4) (v := ?valF4T7) rfl (by kernel_rfl) (by kernel_rfl) (by kernel_rfl) (fun _ _ _ h => h) (Or.inl ⟨by rfl, ?yieF4T7⟩) (by assumption) ?resF4T7
        case yieF4T7 =>
          intro w hSw
          try dsimp only at hSw
          go_simp
          try with_reducible rfl
        try simp only [Act.put, List.setIfInBounds_toArray, List.set_cons_zero, List.set_cons_succ, List.getElem_toArray, List.getElem_cons_zero, List.getElem_cons_succ]
        refine wpAnyH_take (i := 5) (v := ?valF5T8) rfl (by kernel_rfl) (by kernel_rfl) (by kernel_rfl) (fun _ _ _ h => h) (Or.inl ⟨by rfl, ?yieF5T8⟩) (by assumption) ?resF5T8
        case yieF5T8 =>
          intro w hSw
          try dsimp only at hSw
          go_simp
          try with_reducible rfl
        try simp only [Act.put, List.setIfInBounds_toArray, List.set_cons_zero, List.set_cons_succ, List.getElem_toArray, List.getElem_cons_zero, List.getElem_cons_succ]
        refine wpAnyH_take (i := 6) (v := ?valF6T9) rfl (by kernel_rfl) (by kernel_rfl) (by kernel_rfl) (fun _ _ _ h => h) (Or.inl ⟨by rfl, ?yieF6T9⟩) (by assumption) ?resF6T9
        case yieF6T9 =>
          intro w hSw
          try dsimp only at hSw
          go_simp
          try with_reducible rfl
        try simp only [Act.put, List.setIfInBounds_toArray, List.set_cons_zero, List.set_cons_succ, List.getElem_toArray, List.getElem_cons_zero, List.getElem_cons_succ]
        refine wpAnyH_take (i := 7) (v := ?valF7T10) rfl (by kernel_rfl) (by kernel_rfl) (by kernel_rfl) (fun _ _ _ h => h) (Or.inl ⟨by rfl, ?yieF7T10⟩) (by assumption) ?resF7T10
        case yieF7T10 =>
          intro w hSw
          try dsimp only at hSw
          obtain ⟨s0, s1, s2⟩ := hSw
          have e0 := BlkT.cell s1 0
          have e1 := BlkT.cell s1 1
          have e2 := BlkT.cell s1 2
          have e3 := BlkT.cell s1 3
          have e4 := BlkT.cell s1 4
          have e5 := BlkT.cell s1 5
          have e6 := BlkT.cell s1 6
          have e7 := BlkT.cell s1 7
          have e8 := BlkT.cell s1 8
          have e9 := BlkT.cell s1 9
          simp only [List.getElem?_toArray, List.getElem?_cons_zero, List.getElem?_cons_succ] at e0 e1 e2 e3 e4 e5 e6 e7 e8 e9
          go_simp
          try with_reducible rfl
        try simp only [Act.put, List.setIfInBounds_toArray, List.set_cons_zero, List.set_cons_succ, List.getElem_toArray, List.getElem_cons_zero, List.getElem_cons_succ]
        refine wpAnyH_take (i := 8) (v := ?valF8T11) rfl (by kernel_rfl) (by kernel_rfl) (by kernel_rfl) (fun _ _ _ h => h) (Or.inl ⟨by rfl, ?yieF8T11⟩) (by assumption) ?resF8T11
        case yieF8T11 =>
          intro w hSw
          try dsimp only at hSw
          go_simp
          try with_reducible rfl
        try simp only [Act.put, List.setIfInBounds_toArray, List.set_cons_zero, List.set_cons_succ, List.getElem_toArray, List.getElem_cons_zero, List.getElem_cons_succ]
        refine wpAnyH_take (i := 9) (v := ?valF9T12) rfl (by kernel_rfl) (by kernel_rfl) (by kernel_rfl) (fun _ _ _ h => h) (Or.inl ⟨by rfl, ?yieF9T12⟩) (by assumption) ?resF9T12
        case yieF9T12 =>
          intro w hSw
          try dsimp only at hSw
          obtain ⟨s0, s1, s2⟩ := hSw
          have e0 := BlkT.cell s0 0
          have e1 := BlkT.cell s0 1
          have e2 := BlkT.cell s0 2
          have e3 := BlkT.cell s0 3
          have e4 := BlkT.cell s0 4
          have e5 := BlkT.cell s0 5
          have e6 := BlkT.cell s0 6
          have e7 := BlkT.cell s0 7
          have e8 := BlkT.cell s0 8
          have e9 := BlkT.cell s0 9
          have e10 := BlkT.cell s0 10
          simp only [List.getElem?_toArray, List.getElem?_cons_zero, List.getElem?_cons_succ] at e0 e1 e2 e3 e4 e5 e6 e7 e8 e9 e10
          go_simp
          try with_reducible rfl
        try simp only [Act.put, List.setIfInBounds_toArray, List.set_cons_zero, List.set_cons_succ, List.getElem_toArray, List.getElem_cons_zero, List.getElem_cons_succ]
        refine wpAnyH_take (i := 10) (v := ?valF10T13) rfl (by kernel_rfl) (by kernel_rfl) (by kernel_rfl) (fun _ _ _ h => h) (Or.inl ⟨by rfl, ?yieF10T13⟩) (by assumption) ?resF10T13
        case yieF10T13 =>
          intro w hSw
          try dsimp only at hSw
          go_simp
          try with_reducible rfl
        try simp only [Act.put, List.setIfInBounds_toArray, List.set_cons_zero, List.set_cons_succ, List.getElem_toArray, List.getElem_cons_zero, List.getElem_cons_succ]
        refine wpAnyH_take (i := 11) (v := ?valF11T14) rfl (by kernel_rfl) (by kernel_rfl) (by kernel_rfl) (fun _ _ _ h => h) (Or.inl ⟨by rfl, ?yieF11T14⟩) (by assumption) ?resF11T14
        case yieF11T14 =>
          intro w hSw
          try dsimp only at hSw
          go_simp
          try with_reducible rfl
        try simp only [Act.put, List.setIfInBounds_toArray, List.set_cons_zero, List.set_cons_succ, List.getElem_toArray, List.getElem_cons_zero, List.getElem_cons_succ]
        refine wpAnyH_take (i := 12) (v := ?valF12T15) rfl (by kernel_rfl) (by kernel_rfl) (by kernel_rfl) (fun _ _ _ h => h) (Or.inl ⟨by rfl, ?yieF12T15⟩) (by assumption) ?resF12T15
        case yieF12T15 =>
          intro w hSw
          try dsimp only at hSw
          go_simp
          try with_reducible rfl
        try simp only [Act.put, List.setIfInBounds_toArray, List.set_cons_zero, List.set_cons_succ, List.getElem_toArray, List.getElem_cons_zero, List.getElem_cons_succ]
        refine wpAnyH_take (i := 13) (v := ?valF13T16) rfl (by kernel_rfl) (by kernel_rfl) (by kernel_rfl) (fun _ _ _ h => h) (Or.inl ⟨by rfl, ?yieF13T16⟩) (by assumption) ?resF13T16
        case yieF13T16 =>
          intro w hSw
          try dsimp only at hSw
          go_simp
          try with_reducible rfl
        try simp only [Act.put, List.setIfInBounds_toArray, List.set_cons_zero, List.set_cons_succ, List.getElem_toArray, List.getElem_cons_zero, List.getElem_cons_succ]
        refine wpAnyH_take (i := 14) (v := ?valF14T17) rfl (by kernel_rfl) (by kernel_rfl) (by kernel_rfl) (fun _ _ _ h => h) (Or.inl ⟨by rfl, ?yieF14T17⟩) (by assumption) ?resF14T17
        case yieF14T17 =>
          intro w hSw
          try dsimp only at hSw
          obtain ⟨s0, s1, s2⟩ := hSw
          have e0 := BlkT.cell s1 0
          have e1 := BlkT.cell s1 1
          have e2 := BlkT.cell s1 2
          have e3 := BlkT.cell s1 3
          have e4 := BlkT.cell s1 4
          have e5 := BlkT.cell s1 5
          have e6 := BlkT.cell s1 6
          have e7 := BlkT.cell s1 7
          have e8 := BlkT.cell s1 8
          have e9 := BlkT.cell s1 9
          simp only [List.getElem?_toArray, List.getElem?_cons_zero, List.getElem?_cons_succ] at e0 e1 e2 e3 e4 e5 e6 e7 e8 e9
          go_simp
          try with_reducible rfl
        try simp only [Act.put, List.setIfInBounds_toArray, List.set_cons_zero, List.set_cons_succ, List.getElem_toArray, List.getElem_cons_zero, List.getElem_cons_succ]
        refine wpAnyH_take (i := 15) (v := ?valF15T18) rfl (by kernel_rfl) (by kernel_rfl) (by kernel_rfl) (fun _ _ _ h => h) (Or.inl ⟨by rfl, ?yieF15T18⟩) (by assumption) ?resF15T18
        case yieF15T18 =>
          intro w hSw
          try dsimp only at hSw
          go_simp
          try with_reducible rfl
        try simp only [Act.put, List.setIfInBounds_toArray, List.set_cons_zero, List.set_cons_succ, List.getElem_toArray, List.getElem_cons_zero, List.getElem_cons_succ]
        refine wpAnyH_take (i := 16) (v := ?valF16T19) rfl (by kernel_rfl) (by kernel_rfl) (by kernel_rfl) (fun _ _ _ h => h) (Or.inl ⟨by rfl, ?yieF16T19⟩) (by assumption) ?resF16T19
        case yieF16T19 =>
          intro w hSw
          try dsimp only at hSw
          obtain ⟨s0, s1, s2⟩ := hSw
          have e0 := BlkT.cell s0 0
          have e1 := BlkT.cell s0 1
          have e2 := BlkT.cell s0 2
          have e3 := BlkT.cell s0 3
          have e4 := BlkT.cell s0 4
          have e5 := BlkT.cell s0 5
          have e6 := BlkT.cell s0 6
          have e7 := BlkT.cell s0 7
          have e8 := BlkT.cell s0 8
          have e9 := BlkT.cell s0 9
          have e10 := BlkT.cell s0 10
          simp only [List.getElem?_toArray, List.getElem?_cons_zero, List.getElem?_cons_succ] at e0 e1 e2 e3 e4 e5 e6 e7 e8 e9 e10
          go_simp
          try with_reducible rfl
        try simp only [Act.put, List.setIfInBounds_toArray, List.set_cons_zero, List.set_cons_succ, List.getElem_toArray, List.getElem_cons_zero, List.getElem_cons_succ]
        refine wpAnyH_take (i := 17) (v := ?valF17T20) rfl (by kernel_rfl) (by kernel_rfl) (by kernel_rfl) (fun _ _ _ h => h) (Or.inl ⟨by rfl, ?yieF17T20⟩) (by assumption) ?resF17T20
        case yieF17T20 =>
          intro w hSw
          try dsimp only at hSw
          go_simp
          try with_reducible rfl
        try simp only [Act.put, List.setIfInBounds_toArray, List.set_cons_zero, List.set_cons_succ, List.getElem_toArray, List.getElem_cons_zero, List.getElem_cons_succ]
        refine wpAnyH_take (i := 18) (v := ?valF18T21) rfl (by kernel_rfl) (by kernel_rfl) (by kernel_rfl) (fun _ _ _ h => h) (Or.inl ⟨by rfl, ?yieF18T21⟩) (by assumption) ?resF18T21
        case yieF18T21 =>
          intro w hSw
          try dsimp only at hSw
          go_simp
          try with_reducible rfl
        try simp only [Act.put, List.setIfInBounds_toArray, List.set_cons_zero, List.set_cons_succ, List.getElem_toArray, List.getElem_cons_zero, List.getElem_cons_succ]
        refine wpAnyH_take (i := 19) (v := ?valF19T22) rfl (by kernel_rfl) (by kernel_rfl) (by kernel_rfl) (fun _ _ _ h => h) (Or.inl ⟨by rfl, ?yieF19T22⟩) (by assumption) ?resF19T22
        case yieF19T22 =>
          intro w hSw
          try dsimp only at hSw
          go_simp
          try with_reducible rfl
        try simp only [Act.put, List.setIfInBounds_toArray, List.set_cons_zero, List.set_cons_succ, List.getElem_toArray, List.getElem_cons_zero, List.getElem_cons_succ]
        refine wpAnyH_take (i := 20) (v := ?valF20T23) rfl (by kernel_rfl) (by kernel_rfl) (by kernel_rfl) (fun _ _ _ h => h) (Or.inl ⟨by rfl, ?yieF20T23⟩) (by assumption) ?resF20T23
        case yieF20T23 =>
          intro w hSw
          try dsimp only at hSw
          go_simp
          try with_reducible rfl
        try simp only [Act.put, List.setIfInBounds_toArray, List.set_cons_zero, List.set_cons_succ, List.getElem_toArray, List.getElem_cons_zero, List.getElem_cons_succ]
        refine wpAnyH_take (i := 21) (v := ?valF21T24) rfl (by kernel_rfl) (by kernel_rfl) (by kernel_rfl) (fun _ _ _ h => h) (Or.inl ⟨by rfl, ?yieF21T24⟩) (by assumption) ?resF21T24
        case yieF21T24 =>
          intro w hSw
          try dsimp only at hSw
          obtain ⟨s0, s1, s2⟩ := hSw
          have e0 := BlkT.cell s1 0
          have e1 := BlkT.cell s1 1
          have e2 := BlkT.cell s1 2
          have e3 := BlkT.cell s1 3
          have e4 := BlkT.cell s1 4
          have e5 := BlkT.cell s1 5
          have e6 := BlkT.cell s1 6
          have e7 := BlkT.cell s1 7
          have e8 := BlkT.cell s1 8
          have e9 := BlkT.cell s1 9
          simp only [List.getElem?_toArray, List.getElem?_cons_zero, List.getElem?_cons_succ] at e0 e1 e2 e3 e4 e5 e6 e7 e8 e9
          go_simp
          try with_reducible rfl
        try simp only [Act.put, List.setIfInBounds_toArray, List.set_cons_zero, List.set_cons_succ, List.getElem_toArray, List.getElem_cons_zero, List.getElem_cons_succ]
        refine wpAnyH_take (i := 22) (v := ?valF22T25) rfl (by kernel_rfl) (by kernel_rfl) (by kernel_rfl) (fun _ _ _ h => h) (Or.inl ⟨by rfl, ?yieF22T25⟩) (by assumption) ?resF22T25
        case yieF22T25 =>
          intro w hSw
          try dsimp only at hSw
          go_simp
          try with_reducible rfl
        try simp only [Act.put, List.setIfInBounds_toArray, List.set_cons_zero, List.set_cons_succ, List.getElem_toArray, List.getElem_cons_zero, List.getElem_cons_succ]
        refine wpAnyH_take (i := 23) (v := ?valF23T26) rfl (by kernel_rfl) (by kernel_rfl) (by kernel_rfl) (fun _ _ _ h => h) (Or.inl ⟨by rfl, ?yieF23T26⟩) (by assumption) ?resF23T26
        case yieF23T26 =>
          intro w hSw
          try dsimp only at hSw
          obtain ⟨s0, s1, s2⟩ := hSw
          have e0 := BlkT.cell s0 0
          have e1 := BlkT.cell s0 1
          have e2 := BlkT.cell s0 2
          have e3 := BlkT.cell s0 3
          have e4 := BlkT.cell s0 4
          have e5 := BlkT.cell s0 5
          have e6 := BlkT.cell s0 6
          have e7 := BlkT.cell s0 7
          have e8 := BlkT.cell s0 8
          have e9 := BlkT.cell s0 9
          have e10 := BlkT.cell s0 10
          simp only [List.getElem?_toArray, List.getElem?_cons_zero, List.getElem?_cons_succ] at e0 e1 e2 e3 e4 e5 e6 e7 e8 e9 e10
          go_simp
          try with_reducible rfl
        try simp only [Act.put, List.setIfInBounds_toArray, List.set_cons_zero, List.set_cons_succ, List.getElem_toArray, List.getElem_cons_zero, List.getElem_cons_succ]
        refine wpAnyH_ready (rs := [24]) (by kernel_rfl) (by simp) ?_
        refine AllReadyH.cons rfl (fun K hK => ?_) AllReadyH.nil
        go_simp
        refine (HEB.out _ hb1).mono ?_
        rintro r U2 ⟨G, gc, rfl, hgc, hG, hbZ2⟩
        have hb2 : Below V.heap.size V U2 := hb1.trans (hbZ2.mono hb1.size)
        have HG := Lib.hid (own_kidsU _ _ _ _ _ hG (Nat.le_refl _))
        go_wp2_with fail
        refine hK.out _ _ (by exact ⟨HSV.out.below hb2, HBV.out.below hb2, hb2⟩) (fun hHeld => ?_)
        clear hK K
        try simp only [Act.put, List.setIfInBounds_toArray, List.set_cons_zero, List.set_cons_succ, List.getElem_toArray, List.getElem_cons_zero, List.getElem_cons_succ]
        refine wpAnyH_ready (rs := [25]) (by kernel_rfl) (by simp) ?_
        refine AllReadyH.cons rfl (fun K hK => ?_) AllReadyH.nil
        go_simp
        refine (HES.out _ G gc hb2 HG.out hgc).mono ?_
        rintro r U3 ⟨rfl, hbZ3⟩
        have hb3 : Below V.heap.size V U3 := hb2.trans (hbZ3.mono hb2.size)
        go_wp2_with fail
        refine hK.out _ _ (by exact ⟨HSV.out.below hb3, HBV.out.below hb3, hb3⟩) (fun hHeld => ?_)
        clear hK K
        try simp only [Act.put, List.setIfInBounds_toArray, List.set_cons_zero, List.set_cons_succ, List.getElem_toArray, List.getElem_cons_zero, List.getElem_cons_succ]
        refine wpAnyH_take (i := 26) (v := ?valF26T27) rfl (by kernel_rfl) (by kernel_rfl) (by kernel_rfl) (fun _ _ _ h => h) (Or.inl ⟨by rfl, ?yieF26T27⟩) (by assumption) ?resF26T27
        case yieF26T27 =>
          intro w hSw
          try dsimp only at hSw
          go_simp
          try with_reducible rfl
        try simp only [Act.put, List.setIfInBounds_toArray, List.set_cons_zero, List.set_cons_succ, List.getElem_toArray, List.getElem_cons_zero, List.getElem_cons_succ]
        refine wpAnyH_take (i := 27) (v := ?valF27T28) rfl (by kernel_rfl) (by kernel_rfl) (by kernel_rfl) (fun _ _ _ h => h) (Or.inl ⟨by rfl, ?yieF27T28⟩) (by assumption) ?resF27T28
        case yieF27T28 =>
          intro w hSw
          try dsimp only at hSw
          go_simp
          try with_reducible rfl
        try simp only [Act.put, List.setIfInBounds_toArray, List.set_cons_zero, List.set_cons_succ, List.getElem_toArray, List.getElem_cons_zero, List.getElem_cons_succ]
        refine wpAnyH_take (i := 28) (v := ?valF28T29) rfl (by kernel_rfl) (by kernel_rfl) (by kernel_rfl) (fun _ _ _ h => h) (Or.inl ⟨by rfl, ?yieF28T29⟩) (by assumption) ?resF28T29
        case yieF28T29 =>
          intro w hSw
          try dsimp only at hSw
          obtain ⟨s0, s1, s2⟩ := hSw
          have e0 := BlkT.cell s1 0
          have e1 := BlkT.cell s1 1
          have e2 := BlkT.cell s1 2
          have e3 := BlkT.cell s1 3
          have e4 := BlkT.cell s1 4
          have e5 := BlkT.cell s1 5
          have e6 := BlkT.cell s1 6
          have e7 := BlkT.cell s1 7
          have e8 := BlkT.cell s1 8
          have e9 := BlkT.cell s1 9
          simp only [List.getElem?_toArray, List.getElem?_cons_zero, List.getElem?_cons_succ] at e0 e1 e2 e3 e4 e5 e6 e7 e8 e9
          go_simp
          try with_reducible rfl
        try simp only [Act.put, List.setIfInBounds_toArray, List.set_cons_zero, List.set_cons_succ, List.getElem_toArray, List.getElem_cons_zero, List.getElem_cons_succ]
        refine wpAnyH_take (i := 31) (v := ?valF31T30) rfl (by kernel_rfl) (by kernel_rfl) (by kernel_rfl) (fun _ _ _ h => h) (Or.inl ⟨by rfl, ?yieF31T30⟩) (by assumption) ?resF31T30
        case yieF31T30 =>
          intro w hSw
          try dsimp only at hSw
          obtain ⟨s0, s1, s2⟩ := hSw
          have e0 := BlkT.cell s0 0
          have e1 := BlkT.cell s0 1
          have e2 := BlkT.cell s0 2
          have e3 := BlkT.cell s0 3
          have e4 := BlkT.cell s0 4
          have e5 := BlkT.cell s0 5
          have e6 := BlkT.cell s0 6
          have e7 := BlkT.cell s0 7
          have e8 := BlkT.cell s0 8
          have e9 := BlkT.cell s0 9
          have e10 := BlkT.cell s0 10
          simp only [List.getElem?_toArray, List.getElem?_cons_zero, List.getElem?_cons_succ] at e0 e1 e2 e3 e4 e5 e6 e7 e8 e9 e10
          go_simp
          try with_reducible rfl
        try simp only [Act.put, List.setIfInBounds_toArray, List.set_cons_zero, List.set_cons_succ, List.getElem_toArray, List.getElem_cons_zero, List.getElem_cons_succ]
        refine wpAnyH_ready (rs := [29]) (by kernel_rfl) (by simp) ?_
        refine AllReadyH.cons rfl (fun K hK => ?_) AllReadyH.nil
        go_simp
        refine (HBT.out _ hb3).mono ?_
        rintro r U4 ⟨rfl, hbZ4⟩
        have hb4 : Below V.heap.size V U4 := hb3.trans (hbZ4.mono hb3.size)
        go_wp2_with fail
        refine hK.out _ _ (by exact ⟨HSV.out.below hb4, HBV.out.below hb4, hb4⟩) (fun hHeld => ?_)
        clear hK K
        try simp only [Act.put, List.setIfInBounds_toArray, List.set_cons_zero, List.set_cons_succ, List.getElem_toArray, List.getElem_cons_zero, List.getElem_cons_succ]
        refine wpAnyH_take (i := 30) (v := ?valF30T31) rfl (by kernel_rfl) (by kernel_rfl) (by kernel_rfl) (fun _ _ _ h => h) (Or.inl ⟨by rfl, ?yieF30T31⟩) (by assumption) ?resF30T31
        case yieF30T31 =>
          intro w hSw
          try dsimp only at hSw
          go_simp
          try with_reducible rfl
        try simp only [Act.put, List.setIfInBounds_toArray, List.set_cons_zero, List.set_cons_succ, List.getElem_toArray, List.getElem_cons_zero, List.getElem_cons_succ]
        refine wpAnyH_ready (rs := [32]) (by kernel_rfl) (by simp) ?_
        refine AllReadyH.cons rfl (fun K hK => ?_) AllReadyH.nil
        go_simp
        refine (HST.out _ hb4).mono ?_
        rintro r U5 ⟨rfl, hbZ5⟩
        have hb5 : Below V.heap.size V U5 := hb4.trans (hbZ5.mono hb4.size)
        go_wp2_with fail
        refine hK.out _ _ (by exact ⟨HSV.out.below hb5, HBV.out.below hb5, hb5⟩) (fun hHeld => ?_)
        clear hK K
        try simp only [Act.put, List.setIfInBounds_toArray, List.set_cons_zero, List.set_cons_succ, List.getElem_toArray, List.getElem_cons_zero, List.getElem_cons_succ]
        refine wpAnyH_take (i := 33) (v := ?valF33T32) rfl (by kernel_rfl) (by kernel_rfl) (by kernel_rfl) (fun _ _ _ h => h) (Or.inl ⟨by rfl, ?yieF33T32⟩) (by assumption) ?resF33T32
        case yieF33T32 =>
          intro w hSw
          try dsimp only at hSw
          go_simp
          try with_reducible rfl
        try simp only [Act.put, List.setIfInBounds_toArray, List.set_cons_zero, List.set_cons_succ, List.getElem_toArray, List.getElem_cons_zero, List.getElem_cons_succ]
        refine wpAnyH_take (i := 34) (v := ?valF34T33) rfl (by kernel_rfl) (by kernel_rfl) (by kernel_rfl) (fun _ _ _ h => h) (Or.inl ⟨by rfl, ?yieF34T33⟩) (by assumption) ?resF34T33
        case yieF34T33 =>
          intro w hSw
          try dsimp only at hSw
          go_simp
          try with_reducible rfl
        try simp only [Act.put, List.setIfInBounds_toArray, List.set_cons_zero, List.set_cons_succ, List.getElem_toArray, List.getElem_cons_zero, List.getElem_cons_succ]
        refine wpAnyH_take (i := 35) (v := ?valF35T34) rfl (by kernel_rfl) (by kernel_rfl) (by kernel_rfl) (fun _ _ _ h => h) (Or.inl ⟨by rfl, ?yieF35T34⟩) (by assumption) ?resF35T34
        case yieF35T34 =>
          intro w hSw
          try dsimp only at hSw
          go_simp
          try with_reducible rfl
        try simp only [Act.put, List.setIfInBounds_toArray, List.set_cons_zero, List.set_cons_succ, List.getElem_toArray, List.getElem_cons_zero, List.getElem_cons_succ]
        refine wpAnyH_take (i := 36) (v := ?valF36T35) rfl (by kernel_rfl) (by kernel_rfl) (by kernel_rfl) (fun _ _ _ h => h) (Or.inl ⟨by rfl, ?yieF36T35⟩) (by assumption) ?resF36T35
        case yieF36T35 =>
          intro w hSw
          try dsimp only at hSw
          go_simp
          try with_reducible rfl
        try simp only [Act.put, List.setIfInBounds_toArray, List.set_cons_zero, List.set_cons_succ, List.getElem_toArray, List.getElem_cons_zero, List.getElem_cons_succ]
        refine wpAnyH_take (i := 37) (v := ?valF37T36) rfl (by kernel_rfl) (by kernel_rfl) (by kernel_rfl) (fun _ _ _ h => h) (Or.inl ⟨by rfl, ?yieF37T36⟩) (by assumption) ?resF37T36
        case yieF37T36 =>
          intro w hSw
          try dsimp only at hSw
          go_simp
          try with_reducible rfl
        try simp only [Act.put, List.setIfInBounds_toArray, List.set_cons_zero, List.set_cons_succ, List.getElem_toArray, List.getElem_cons_zero, List.getElem_cons_succ]
        refine wpAnyH_done (by kernel_rfl) ?_ _
        refine NoPanic.normal ?_
        go_wp2_with fail
        go_ret
        exact ⟨rfl, HBW.out.trans ((HXV.out.trans (hb5.mono HXV.out.size)).mono HBW.out.size)⟩
end Go.Proofs.YtfknelkbdoiokaaGreatDoor.fnBareOf
