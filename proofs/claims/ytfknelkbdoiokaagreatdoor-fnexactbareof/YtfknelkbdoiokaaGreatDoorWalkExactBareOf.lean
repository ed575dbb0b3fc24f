/-
  'laws.FnExactBareOf' returns true at whatever line: impl.BareOf and the model's BareOf answer the same in every field, nothing is written into the argument, and each answer is memory of its own.
  Conditions: the library's variables and the program's own error hold what their initialisers lay (tied to the program's text); every value of laws.Stmt.
-/
import Derived.Test.YtfknelkbdoiokaaGreatDoorImplOf
import Derived.Test.YtfknelkbdoiokaaGreatDoorSpecOfB
import Derived.Test.YtfknelkbdoiokaaGreatDoorGM
import Derived.Test.YtfknelkbdoiokaaGreatDoorGB
import Derived.Test.YtfknelkbdoiokaaGreatDoorGN
import Derived.Test.YtfknelkbdoiokaaGreatDoorOpenSt
import Derived.Test.YtfknelkbdoiokaaGreatDoorIsErr
import Derived.WalkKit
import Derived.ProofKit
import Derived.OpenShut
import Derived.ShutString
import Derived.ChangeOld
import Derived.Below
import Derived.Lib.SmallJoins
import Derived.SliceStrings
namespace Go.Proofs.YtfknelkbdoiokaaGreatDoor.fnExactBareOf
open Go.ChangeShapes Go.WideShapes Go.ChangeAt Go.RowKit Go.Joins
open Go.ChangeMaps (open_string shut_string)


theorem kids_both {W : World} {s : St} {A1 A2 : Option Addr} {lo mid : Nat} (h1 : OwnE W s.e lo mid A1) (h2 : OwnE W s.t mid W.heap.size A2) : KidsU W W.heap.size A1 s.e.kids ∧ KidsU W W.heap.size A2 s.t.kids :=
  ⟨own_kidsU s.e _ _ _ _ h1 (own_le W s.t _ _ _ h2), own_kidsU s.t _ _ _ _ h2 (Nat.le_refl _)⟩
theorem bare_wt2 (p : Pt) : p.bare.ex.wt ≤ p.ex.wt := by
  induction p with
  | num n => exact Nat.le_refl _
  | name s => exact Nat.le_refl _
  | two s a b ia ib => simp only [Pt.bare, Pt.ex, Ex.wt, Ex.wts]; omega
  | «as» s a ia => simp only [Pt.bare, Pt.ex, Ex.wt, Ex.wts]; omega
theorem turnS_wt (s : St) : (turnS s).wt ≤ s.wt := by
  have hz : Ex.zero.wt = 0 := rfl
  unfold turnS
  cases h : doS s with
  | none => show ByteArray.empty.size + Ex.zero.wt + Ex.zero.wt ≤ _; rw [hz]; exact Nat.zero_le _
  | some d =>
    obtain ⟨_, hs, _⟩ := doS_some h
    subst hs
    cases d with
    | noD => show ByteArray.empty.size + Ex.zero.wt + Ex.zero.wt ≤ _; rw [hz]; exact Nat.zero_le _
    | letD n t p => have := bare_wt2 p; simp only [De.turned, Ba.br, De.st, Br.wt, St.wt]; omega
    | sayD p => have := bare_wt2 p; simp only [De.turned, Ba.br, De.st, Br.wt, St.wt]; omega
    | whenD p q => have := bare_wt2 p; have := bare_wt2 q; simp only [De.turned, Ba.br, De.st, Br.wt, St.wt]; omega
theorem nod_small (a b : Ex) (h : a.wt + b.wt ≤ 2 ^ 29) : 1 + 3 * Ex.nodess a.kids + 3 * Ex.nodess b.kids ≤ 2 ^ 39 := by
  have h1 := a.nodes_le
  have h2 : a.nodes = 1 + Ex.nodess a.kids := by cases a; rfl
  have h3 := b.nodes_le
  have h4 : b.nodes = 1 + Ex.nodess b.kids := by cases b; rfl
  omega
set_option linter.unusedVariables false in
set_option maxRecDepth 100000 in
set_option maxHeartbeats 16000000 in
theorem walk (s : St) (A1 : Option Addr) (c1 : Nat) (A2 : Option Addr) (c2 : Nat) (w : World) (hE : InSt w A1 c1 A2 c2 s) (hL : LaidW w ∧ ∃ a, LaidN w a) :
    Calls Tryz.prog 11 #[.agg #[.int .i64 s.kind, .string s.name, .string s.typ, .int .i64 s.e.kind, .int .i64 s.e.n, .string s.e.s, .slice A1 s.e.kids.length c1, .int .i64 s.t.kind, .int .i64 s.t.n, .string s.t.s, .slice A2 s.t.kids.length c2]] w fun r w' => r = .returned (.bool true) ∧ Below w.heap.size w w' := by
  obtain ⟨hfit, hA1, hA2, hc1, hc2⟩ := hE
  obtain ⟨hL, ad, hN⟩ := hL
  obtain ⟨W0, hW0⟩ : ∃ W0, W0 = w.alloc (.cells #[.int .i64 s.kind, .string s.name, .string s.typ, .int .i64 s.e.kind, .int .i64 s.e.n, .string s.e.s, .slice A1 s.e.kids.length c1, .int .i64 s.t.kind, .int .i64 s.t.n, .string s.t.s, .slice A2 s.t.kids.length c2] 77) := ⟨_, rfl⟩
  have hbW0' : Below w.heap.size w W0 := by rw [hW0]; exact below_new _ _
  have BW0 : BlkT W0 w.heap.size #[.int .i64 s.kind, .string s.name, .string s.typ, .int .i64 s.e.kind, .int .i64 s.e.n, .string s.e.s, .slice A1 s.e.kids.length c1, .int .i64 s.t.kind, .int .i64 s.t.n, .string s.t.s, .slice A2 s.t.kids.length c2] 77 := by rw [hW0]; exact blkT_new _ _ _
  have hzW0 : W0.heap.size = w.heap.size + 1 := by rw [hW0]; simp

  have hb0 := hbW0'
  have HSz := Lib.hid (szStmt_any s A1 A2 c1 c2 w.heap.size 1048576 W0 hfit (hA1.keep hb0) (hA2.keep hb0) hc1 hc2 hb0.size (by omega) (by omega))
  have HTo := Lib.hid (fun (W : World) (hW : Below W0.heap.size W0 W) (hw : s.wt ≤ 2 ^ 29) => toStmt_any s A1 A2 c1 c2 w.heap.size W ((hA1.keep hb0).keep (hW.mono hb0.size)) ((hA2.keep hb0).keep (hW.mono hb0.size)) hc1 hc2 (Nat.le_trans hb0.size hW.size) hw)
  have HL := Lib.hid (fun (W : World) (hW : Below W0.heap.size W0 W) => hL.below (hb0.trans (hW.mono hb0.size)))
  have HLN := Lib.hid (fun (W : World) (hW : Below W0.heap.size W0 W) => hN.below (hb0.trans (hW.mono hb0.size)))
  have HB0 := Lib.hid hb0
  have HBA := Lib.hid BW0
  have a0 := BlkT.cell BW0 0
  have a1 := BlkT.cell BW0 1
  have a2 := BlkT.cell BW0 2
  have a3 := BlkT.cell BW0 3
  have a4 := BlkT.cell BW0 4
  have a5 := BlkT.cell BW0 5
  have a6 := BlkT.cell BW0 6
  have a7 := BlkT.cell BW0 7
  have a8 := BlkT.cell BW0 8
  have a9 := BlkT.cell BW0 9
  have a10 := BlkT.cell BW0 10
  simp only [List.getElem?_toArray, List.getElem?_cons_zero, List.getElem?_cons_succ] at a0 a1 a2 a3 a4 a5 a6 a7 a8 a9 a10
  clear hfit hA1 hA2 hL hN hbW0'
  go_enter Tryz.func11, Tryz.ntmps11
  rw [hW0] at a0 a1 a2 a3 a4 a5 a6 a7 a8 a9 a10
  go_wp2_with fail
  rw [← hW0] at a0 a1 a2 a3 a4 a5 a6 a7 a8 a9 a10 ⊢
  clear hW0 a0 a1 a2 a3 a4 a5 a6 a7 a8 a9 a10
  refine HSz.out.mono ?_
  rintro r w1 ⟨z, rfl, hz, hzl, hb1⟩
  by_cases hneg : z < 0
  · have q : decide (z < 0) = true := by simpa using hneg
    go_wp2_with fail
    go_ret
    exact ⟨rfl, hb0.trans (hb1.mono hb0.size)⟩
  have q : decide (z < 0) = false := by simpa using hneg
  have hwa : s.wt ≤ 1048576 := by have := hz (by omega); omega
  have hxw := turnS_wt s
  have hnd : 1 + 3 * Ex.nodess s.e.kids + 3 * Ex.nodess s.t.kids ≤ 2 ^ 39 := nod_small _ _ (by unfold St.wt at hwa; omega)
  have hnx : 1 + 3 * Ex.nodess (turnS s).e.kids + 3 * Ex.nodess (turnS s).t.kids ≤ 2 ^ 39 := nod_small _ _ (by unfold Br.wt at hxw; omega)
  have HT := Lib.hid (fun (W : World) (hW : Below W0.heap.size W0 W) => HTo.out W hW (by omega))
  have HS := Lib.hid (fun (A1 A2 : Option Addr) (c1 c2 B : Nat) (W : World) (h1 : KidsAt W B A1 s.e.kids) (h2 : KidsAt W B A2 s.t.kids) (k1 : s.e.kids.length ≤ c1) (k2 : s.t.kids.length ≤ c2) (h5 : B ≤ W.heap.size) => specBareOf_any s A1 A2 c1 c2 B W h1 h2 k1 k2 h5 (by omega))
  have HI := Lib.hid (fun (A1 A2 : Option Addr) (c1 c2 B : Nat) (W : World) (hW : Below W0.heap.size W0 W) (h1 : KidsU W B A1 s.e.kids) (h2 : KidsU W B A2 s.t.kids) (k1 : s.e.kids.length ≤ c1) (k2 : s.t.kids.length ≤ c2) (h5 : B ≤ W.heap.size) => bareOf_any s A1 A2 c1 c2 B ad W h1 h2 k1 k2 h5 (by omega) (HL.out W hW) (HLN.out W hW))
  unfold stV at HS HI
  unfold GivesBr brV at HI
  unfold GivesBare at HS
  have HQ := Lib.hid (fun (A1 A2 B1 B2 : Option Addr) (c1 c2 d1 d2 B : Nat) (W : World) (h1 : KidsAt W B A1 s.e.kids) (h2 : KidsAt W B A2 s.t.kids) (h3 : KidsAt W B B1 s.e.kids) (h4 : KidsAt W B B2 s.t.kids) (k1 : s.e.kids.length ≤ c1) (k2 : s.t.kids.length ≤ c2) (k3 : s.e.kids.length ≤ d1) (k4 : s.t.kids.length ≤ d2) (h5 : B ≤ W.heap.size) => eqStmt_same s A1 A2 B1 B2 c1 c2 d1 d2 B W h1 h2 h3 h4 k1 k2 k3 k4 h5 (by omega))
  have HQX := Lib.hid (fun (A1 A2 B1 B2 : Option Addr) (c1 c2 d1 d2 : Nat) (W : World) (h1 : KidsAt W W.heap.size A1 (turnS s).e.kids) (h2 : KidsAt W W.heap.size A2 (turnS s).t.kids) (h3 : KidsAt W W.heap.size B1 (turnS s).e.kids) (h4 : KidsAt W W.heap.size B2 (turnS s).t.kids) (k1 : (turnS s).e.kids.length ≤ c1) (k2 : (turnS s).t.kids.length ≤ c2) (k3 : (turnS s).e.kids.length ≤ d1) (k4 : (turnS s).t.kids.length ≤ d2) => eqBare_same (turnS s) A1 A2 B1 B2 c1 c2 d1 d2 W.heap.size W h1 h2 h3 h4 k1 k2 k3 k4 (Nat.le_refl _) (by omega))
  have HMX := Lib.hid (fun (A1 A2 : Option Addr) (c1 c2 lo mid hi : Nat) (W : World) (h1 : OwnE W s.e lo mid A1) (h2 : OwnE W s.t mid hi A2) (h3 : hi ≤ W.heap.size) => (markStmt_any s A1 A2 c1 c2 lo mid hi W h1 h2 h3 hnd).mono (fun r w' (h : _ ∧ _ ∧ _ ∧ _) => And.intro h.1 h.2.2.2))
  have HMG := Lib.hid (fun (A1 A2 : Option Addr) (c1 c2 lo mid hi : Nat) (W : World) (h1 : OwnE W (turnS s).e lo mid A1) (h2 : OwnE W (turnS s).t mid hi A2) (h3 : hi ≤ W.heap.size) => markBare_any (turnS s) A1 A2 c1 c2 lo mid hi W h1 h2 h3 hnx)
  have HHG := Lib.hid (fun (A1 A2 : Option Addr) (c1 c2 : Nat) (W : World) (h1 : KidsAt W W.heap.size A1 (marksE (turnS s).e.kids 1)) (h2 : KidsAt W W.heap.size A2 (marksE (turnS s).t.kids (1 + 3 * Ex.nodess (turnS s).e.kids))) => heldBare_ok (turnS s) A1 A2 c1 c2 W.heap.size W h1 h2 (Nat.le_refl _) hnx)
  have HMK := Lib.hid (fun (W : World) (lo mid hi : Nat) (A1 A2 : Option Addr) (h1 : OwnE W (markedE (turnS s).e 1) lo mid A1) (h2 : OwnE W (markedE (turnS s).t (1 + 3 * Ex.nodess (turnS s).e.kids)) mid hi A2) (hm : mid ≤ W.heap.size) (hB : hi ≤ W.heap.size) => And.intro (show KidsAt W W.heap.size A1 (marksE (turnS s).e.kids 1) from own_kids _ lo mid A1 W.heap.size h1 hm) (show KidsAt W W.heap.size A2 (marksE (turnS s).t.kids (1 + 3 * Ex.nodess (turnS s).e.kids)) from own_kids _ mid hi A2 W.heap.size h2 hB))
  have HKX := Lib.hid (fun (W : World) (lo hi : Nat) (x : Ex) (A' : Option Addr) (h : OwnE W x lo hi A') (hB : hi ≤ W.heap.size) => own_kids x lo hi A' W.heap.size h hB)
  have HOK := Lib.hid (fun (W W' : World) (lo hi : Nat) (x : Ex) (A' : Option Addr) (h : OwnE W x lo hi A') (hk : ∀ k, lo ≤ k → k < hi → W'.heap[k]? = W.heap[k]?) => own_keep x lo hi A' hk h)
  generalize turnS s = x at *
  generalize marksE x.t.kids (1 + 3 * Ex.nodess x.e.kids) = mk2 at *
  generalize markedE x.t (1 + 3 * Ex.nodess x.e.kids) = mt2 at *
  generalize marksE x.e.kids 1 = mk1 at *
  generalize markedE x.e 1 = mt1 at *
  generalize 1 + 3 * Ex.nodess s.e.kids + 3 * Ex.nodess s.t.kids = nd at *
  generalize 1 + 3 * Ex.nodess x.e.kids + 3 * Ex.nodess x.t.kids = nx at *
  clear HTo HSz hz HL HLN hwa hzl hxw
  have p0 := BlkT.cell (HBA.out.below hb1) 0
  have p1 := BlkT.cell (HBA.out.below hb1) 1
  have p2 := BlkT.cell (HBA.out.below hb1) 2
  have p3 := BlkT.cell (HBA.out.below hb1) 3
  have p4 := BlkT.cell (HBA.out.below hb1) 4
  have p5 := BlkT.cell (HBA.out.below hb1) 5
  have p6 := BlkT.cell (HBA.out.below hb1) 6
  have p7 := BlkT.cell (HBA.out.below hb1) 7
  have p8 := BlkT.cell (HBA.out.below hb1) 8
  have p9 := BlkT.cell (HBA.out.below hb1) 9
  have p10 := BlkT.cell (HBA.out.below hb1) 10
  simp only [List.getElem?_toArray, List.getElem?_cons_zero, List.getElem?_cons_succ] at p0 p1 p2 p3 p4 p5 p6 p7 p8 p9 p10

  go_wp2_with fail
  refine (HT.out w1 hb1).mono ?_
  rintro r w2 ⟨X1, k1, X2, k2, m2, rfl, hk1, hk2, hP2, hQ2, hb2'⟩
  have hb2 := hb1.trans (hb2'.mono hb1.size)
  have K2 := Lib.hid (kids_both hP2 hQ2)
  clear hP2 hQ2 hb2' p0 p1 p2 p3 p4 p5 p6 p7 p8 p9 p10
  go_wp2_with fail
  refine (HS.out X1 X2 k1 k2 w2.heap.size w2 K2.out.1.kids K2.out.2.kids hk1 hk2 (Nat.le_refl _)).mono ?_
  rintro r w3 ⟨A3, A3', c3, c3', rfl, hc3, hc3', hK3, hK3', hb3'⟩
  have hb3 := hb2.trans (hb3'.mono hb2.size)
  obtain ⟨V3, hV3⟩ : ∃ V3, V3 = w3.alloc (.cells #[.int .i64 x.kind, .string x.name, .int .i64 x.e.kind, .int .i64 x.e.n, .string x.e.s, .slice A3 x.e.kids.length c3, .int .i64 x.t.kind, .int .i64 x.t.n, .string x.t.s, .slice A3' x.t.kids.length c3'] 52) := ⟨_, rfl⟩
  have hbV3' : Below w3.heap.size w3 V3 := by rw [hV3]; exact below_new _ _
  have BV3 : BlkT V3 w3.heap.size #[.int .i64 x.kind, .string x.name, .int .i64 x.e.kind, .int .i64 x.e.n, .string x.e.s, .slice A3 x.e.kids.length c3, .int .i64 x.t.kind, .int .i64 x.t.n, .string x.t.s, .slice A3' x.t.kids.length c3'] 52 := by rw [hV3]; exact blkT_new _ _ _
  have hzV3 : V3.heap.size = w3.heap.size + 1 := by rw [hV3]; simp
  have hb3V := hb3.trans (hbV3'.mono hb3.size)
  have KW := Lib.hid (show KidsAt V3 w3.heap.size A3 x.e.kids ∧ KidsAt V3 w3.heap.size A3' x.t.kids from ⟨(hK3.at_ (fun b h => h.2)).keep hbV3', (hK3'.at_ (fun b h => h.2)).keep hbV3'⟩)
  have HBD := Lib.hid BV3
  have p0 := BlkT.cell (HBA.out.below hb3V) 0
  have p1 := BlkT.cell (HBA.out.below hb3V) 1
  have p2 := BlkT.cell (HBA.out.below hb3V) 2
  have p3 := BlkT.cell (HBA.out.below hb3V) 3
  have p4 := BlkT.cell (HBA.out.below hb3V) 4
  have p5 := BlkT.cell (HBA.out.below hb3V) 5
  have p6 := BlkT.cell (HBA.out.below hb3V) 6
  have p7 := BlkT.cell (HBA.out.below hb3V) 7
  have p8 := BlkT.cell (HBA.out.below hb3V) 8
  have p9 := BlkT.cell (HBA.out.below hb3V) 9
  have p10 := BlkT.cell (HBA.out.below hb3V) 10
  simp only [List.getElem?_toArray, List.getElem?_cons_zero, List.getElem?_cons_succ] at p0 p1 p2 p3 p4 p5 p6 p7 p8 p9 p10
  clear hb3' hbV3' K2 hK3 hK3' HS hk1 hk2 BV3
  rw [hV3] at p0 p1 p2 p3 p4 p5 p6 p7 p8 p9 p10
  go_wp2_with fail
  rw [← hV3] at p0 p1 p2 p3 p4 p5 p6 p7 p8 p9 p10 ⊢
  clear hV3 p0 p1 p2 p3 p4 p5 p6 p7 p8 p9 p10
  refine (HT.out V3 hb3V).mono ?_
  rintro r w4 ⟨A4, c4, A4', c4', m4, rfl, hc4, hc4', hO4, hO4', hb4'⟩
  have hb4 := hb3V.trans (hb4'.mono hb3V.size)
  have K4 := Lib.hid (kids_both hO4 hO4')
  obtain ⟨W5, hW5⟩ : ∃ W5, W5 = w4.alloc (.cells #[.int .i64 s.kind, .string s.name, .string s.typ, .int .i64 s.e.kind, .int .i64 s.e.n, .string s.e.s, .slice A4 s.e.kids.length c4, .int .i64 s.t.kind, .int .i64 s.t.n, .string s.t.s, .slice A4' s.t.kids.length c4'] 35) := ⟨_, rfl⟩
  have hbW5' : Below w4.heap.size w4 W5 := by rw [hW5]; exact below_new _ _
  have BW5 : BlkT W5 w4.heap.size #[.int .i64 s.kind, .string s.name, .string s.typ, .int .i64 s.e.kind, .int .i64 s.e.n, .string s.e.s, .slice A4 s.e.kids.length c4, .int .i64 s.t.kind, .int .i64 s.t.n, .string s.t.s, .slice A4' s.t.kids.length c4'] 35 := by rw [hW5]; exact blkT_new _ _ _
  have hzW5 : W5.heap.size = w4.heap.size + 1 := by rw [hW5]; simp
  have hb5 := hb4.trans (hbW5'.mono hb4.size)
  have S5 : Below V3.heap.size V3 W5 := hb4'.trans (hbW5'.mono hb4'.size)
  have hz34 := hb4'.size
  have hm4a := own_le w4 s.e _ _ _ hO4
  have hm4b := own_le w4 s.t _ _ _ hO4'
  have K5 := Lib.hid (show KidsU W5 w4.heap.size A4 s.e.kids ∧ KidsU W5 w4.heap.size A4' s.t.kids from ⟨K4.out.1.keep hbW5', K4.out.2.keep hbW5'⟩)
  have HO5 := Lib.hid (And.intro (HOK.out w4 W5 _ _ s.e A4 hO4 (fun k _ h2 => hbW5'.block k (by omega))) (HOK.out w4 W5 _ _ s.t A4' hO4' (fun k _ h2 => hbW5'.block k h2)))
  have HBX := Lib.hid BW5
  have hz03 := hb3V.size
  have p0 := BlkT.cell BW5 0
  have p1 := BlkT.cell BW5 1
  have p2 := BlkT.cell BW5 2
  have p3 := BlkT.cell BW5 3
  have p4 := BlkT.cell BW5 4
  have p5 := BlkT.cell BW5 5
  have p6 := BlkT.cell BW5 6
  have p7 := BlkT.cell BW5 7
  have p8 := BlkT.cell BW5 8
  have p9 := BlkT.cell BW5 9
  have p10 := BlkT.cell BW5 10
  simp only [List.getElem?_toArray, List.getElem?_cons_zero, List.getElem?_cons_succ] at p0 p1 p2 p3 p4 p5 p6 p7 p8 p9 p10
  clear hO4 hO4' hb4' hbW5' K4 BW5
  rw [hW5] at p0 p1 p2 p3 p4 p5 p6 p7 p8 p9 p10
  go_wp2_with fail
  rw [← hW5] at p0 p1 p2 p3 p4 p5 p6 p7 p8 p9 p10 ⊢
  clear hW5 p0 p1 p2 p3 p4 p5 p6 p7 p8 p9 p10
  refine (HI.out A4 A4' c4 c4' w4.heap.size W5 hb5 K5.out.1 K5.out.2 hc4 hc4' (by omega)).mono ?_
  rintro r w6 ⟨A6, c6, A6', c6', m6, rfl, hc6, hc6', hO6, hO6', hm6, hb6'⟩
  obtain ⟨W7, hW7⟩ : ∃ W7, W7 = w6.alloc (.cells #[.int .i64 x.kind, .string x.name, .int .i64 x.e.kind, .int .i64 x.e.n, .string x.e.s, .slice A6 x.e.kids.length c6, .int .i64 x.t.kind, .int .i64 x.t.n, .string x.t.s, .slice A6' x.t.kids.length c6'] 52) := ⟨_, rfl⟩
  have hbW7' : Below w6.heap.size w6 W7 := by rw [hW7]; exact below_new _ _
  have BW7 : BlkT W7 w6.heap.size #[.int .i64 x.kind, .string x.name, .int .i64 x.e.kind, .int .i64 x.e.n, .string x.e.s, .slice A6 x.e.kids.length c6, .int .i64 x.t.kind, .int .i64 x.t.n, .string x.t.s, .slice A6' x.t.kids.length c6'] 52 := by rw [hW7]; exact blkT_new _ _ _
  have hzW7 : W7.heap.size = w6.heap.size + 1 := by rw [hW7]; simp
  have hz56 := hb6'.size
  have hb57 : Below W5.heap.size W5 W7 := hb6'.trans (hbW7'.mono hb6'.size)
  have hb7 := hb5.trans (hb57.mono hb5.size)
  have S7 : Below V3.heap.size V3 W7 := S5.trans (hb57.mono S5.size)
  have hm6a := own_le w6 x.e _ _ _ hO6
  have HO7 := Lib.hid (And.intro (HOK.out w6 W7 _ _ x.e A6 hO6 (fun k _ h2 => hbW7'.block k (by omega))) (HOK.out w6 W7 _ _ x.t A6' hO6' (fun k _ h2 => hbW7'.block k h2)))
  have HBG := Lib.hid BW7
  have p0 := BlkT.cell BW7 0
  have p1 := BlkT.cell BW7 1
  have p2 := BlkT.cell BW7 2
  have p3 := BlkT.cell BW7 3
  have p4 := BlkT.cell BW7 4
  have p5 := BlkT.cell BW7 5
  have p6 := BlkT.cell BW7 6
  have p7 := BlkT.cell BW7 7
  have p8 := BlkT.cell BW7 8
  have p9 := BlkT.cell BW7 9
  simp only [List.getElem?_toArray, List.getElem?_cons_zero, List.getElem?_cons_succ] at p0 p1 p2 p3 p4 p5 p6 p7 p8 p9
  have d0 := BlkT.cell (HBD.out.below S7) 0
  have d1 := BlkT.cell (HBD.out.below S7) 1
  have d2 := BlkT.cell (HBD.out.below S7) 2
  have d3 := BlkT.cell (HBD.out.below S7) 3
  have d4 := BlkT.cell (HBD.out.below S7) 4
  have d5 := BlkT.cell (HBD.out.below S7) 5
  have d6 := BlkT.cell (HBD.out.below S7) 6
  have d7 := BlkT.cell (HBD.out.below S7) 7
  have d8 := BlkT.cell (HBD.out.below S7) 8
  have d9 := BlkT.cell (HBD.out.below S7) 9
  simp only [List.getElem?_toArray, List.getElem?_cons_zero, List.getElem?_cons_succ] at d0 d1 d2 d3 d4 d5 d6 d7 d8 d9
  clear hO6 hO6' hb6' hbW7' BW7
  rw [hW7] at p0 p1 p2 p3 p4 p5 p6 p7 p8 p9 d0 d1 d2 d3 d4 d5 d6 d7 d8 d9
  go_wp2_with fail
  rw [← hW7] at p0 p1 p2 p3 p4 p5 p6 p7 p8 p9 d0 d1 d2 d3 d4 d5 d6 d7 d8 d9 ⊢
  clear hW7 p0 p1 p2 p3 p4 p5 p6 p7 p8 p9 d0 d1 d2 d3 d4 d5 d6 d7 d8 d9
  refine (HQX.out A6 A6' A3 A3' c6 c6' c3 c3' W7 (HKX.out W7 _ _ x.e A6 HO7.out.1 (by omega)) (HKX.out W7 _ _ x.t A6' HO7.out.2 (by omega)) ((KW.out.1.keep (S7.mono (by omega))).wide (by have := S7.size; omega)) ((KW.out.2.keep (S7.mono (by omega))).wide (by have := S7.size; omega)) hc6 hc6' hc3 hc3').mono ?_
  rintro r w8 ⟨rfl, hb8'⟩
  have hb8 := hb7.trans (hb8'.mono hb7.size)
  have hb58 := hb57.trans (hb8'.mono hb57.size)
  have hz58 := hb58.size
  have hz08 := hb8.size
  have hz78 := hb8'.size
  have g1 : w4.heap.size < w8.heap.size := by omega
  have g3 : w.heap.size < w8.heap.size := by omega
  have K8 := Lib.hid (show KidsAt w8 w4.heap.size A4 s.e.kids ∧ KidsAt w8 w4.heap.size A4' s.t.kids from ⟨K5.out.1.kids.keep (hb58.mono (by omega)), K5.out.2.kids.keep (hb58.mono (by omega))⟩)
  have HO8 := Lib.hid (And.intro (HOK.out W5 w8 _ _ s.e A4 HO5.out.1 (fun k _ h2 => hb58.block k (by omega))) (HOK.out W5 w8 _ _ s.t A4' HO5.out.2 (fun k _ h2 => hb58.block k (by omega))))
  have S8 := S7.trans (hb8'.mono S7.size)
  have HB8 := Lib.hid hb8
  have s0 := BlkT.cell (HBX.out.below hb58) 0
  have s1 := BlkT.cell (HBX.out.below hb58) 1
  have s2 := BlkT.cell (HBX.out.below hb58) 2
  have s3 := BlkT.cell (HBX.out.below hb58) 3
  have s4 := BlkT.cell (HBX.out.below hb58) 4
  have s5 := BlkT.cell (HBX.out.below hb58) 5
  have s6 := BlkT.cell (HBX.out.below hb58) 6
  have s7 := BlkT.cell (HBX.out.below hb58) 7
  have s8 := BlkT.cell (HBX.out.below hb58) 8
  have s9 := BlkT.cell (HBX.out.below hb58) 9
  have s10 := BlkT.cell (HBX.out.below hb58) 10
  simp only [List.getElem?_toArray, List.getElem?_cons_zero, List.getElem?_cons_succ] at s0 s1 s2 s3 s4 s5 s6 s7 s8 s9 s10
  have u0 := BlkT.cell (HBA.out.below hb8) 0
  have u1 := BlkT.cell (HBA.out.below hb8) 1
  have u2 := BlkT.cell (HBA.out.below hb8) 2
  have u3 := BlkT.cell (HBA.out.below hb8) 3
  have u4 := BlkT.cell (HBA.out.below hb8) 4
  have u5 := BlkT.cell (HBA.out.below hb8) 5
  have u6 := BlkT.cell (HBA.out.below hb8) 6
  have u7 := BlkT.cell (HBA.out.below hb8) 7
  have u8 := BlkT.cell (HBA.out.below hb8) 8
  have u9 := BlkT.cell (HBA.out.below hb8) 9
  have u10 := BlkT.cell (HBA.out.below hb8) 10
  simp only [List.getElem?_toArray, List.getElem?_cons_zero, List.getElem?_cons_succ] at u0 u1 u2 u3 u4 u5 u6 u7 u8 u9 u10
  clear K5 HO5 hb1 hb2 hb3 hb3V hb4 hb5 hb57 hb58 S5 S7 hb7 hb8
  go_wp2_with fail
  go_region_held3 (fun w' => w'.cell? ⟨w4.heap.size, 0, none⟩ = some (.int .i64 s.kind) ∧ w'.cell? ⟨w4.heap.size, 1, none⟩ = some (.string s.name) ∧ w'.cell? ⟨w4.heap.size, 2, none⟩ = some (.string s.typ) ∧ w'.cell? ⟨w4.heap.size, 3, none⟩ = some (.int .i64 s.e.kind) ∧ w'.cell? ⟨w4.heap.size, 4, none⟩ = some (.int .i64 s.e.n) ∧ w'.cell? ⟨w4.heap.size, 5, none⟩ = some (.string s.e.s) ∧ w'.cell? ⟨w4.heap.size, 6, none⟩ = some (.slice A4 s.e.kids.length c4) ∧ w'.cell? ⟨w4.heap.size, 7, none⟩ = some (.int .i64 s.t.kind) ∧ w'.cell? ⟨w4.heap.size, 8, none⟩ = some (.int .i64 s.t.n) ∧ w'.cell? ⟨w4.heap.size, 9, none⟩ = some (.string s.t.s) ∧ w'.cell? ⟨w4.heap.size, 10, none⟩ = some (.slice A4' s.t.kids.length c4') ∧ w'.cell? ⟨w.heap.size, 0, none⟩ = some (.int .i64 s.kind) ∧ w'.cell? ⟨w.heap.size, 1, none⟩ = some (.string s.name) ∧ w'.cell? ⟨w.heap.size, 2, none⟩ = some (.string s.typ) ∧ w'.cell? ⟨w.heap.size, 3, none⟩ = some (.int .i64 s.e.kind) ∧ w'.cell? ⟨w.heap.size, 4, none⟩ = some (.int .i64 s.e.n) ∧ w'.cell? ⟨w.heap.size, 5, none⟩ = some (.string s.e.s) ∧ w'.cell? ⟨w.heap.size, 6, none⟩ = some (.slice A1 s.e.kids.length c1) ∧ w'.cell? ⟨w.heap.size, 7, none⟩ = some (.int .i64 s.t.kind) ∧ w'.cell? ⟨w.heap.size, 8, none⟩ = some (.int .i64 s.t.n) ∧ w'.cell? ⟨w.heap.size, 9, none⟩ = some (.string s.t.s) ∧ w'.cell? ⟨w.heap.size, 10, none⟩ = some (.slice A2 s.t.kids.length c2) ∧ Below w8.heap.size w8 w')
    (first | exact ⟨s0, s1, s2, s3, s4, s5, s6, s7, s8, s9, s10, u0, u1, u2, u3, u4, u5, u6, u7, u8, u9, u10, (Below.refl _ w8).drew⟩ | exact ⟨(hb10.cell (p := ⟨w4.heap.size, 0, none⟩) g1).trans s0, (hb10.cell (p := ⟨w4.heap.size, 1, none⟩) g1).trans s1, (hb10.cell (p := ⟨w4.heap.size, 2, none⟩) g1).trans s2, (hb10.cell (p := ⟨w4.heap.size, 3, none⟩) g1).trans s3, (hb10.cell (p := ⟨w4.heap.size, 4, none⟩) g1).trans s4, (hb10.cell (p := ⟨w4.heap.size, 5, none⟩) g1).trans s5, (hb10.cell (p := ⟨w4.heap.size, 6, none⟩) g1).trans s6, (hb10.cell (p := ⟨w4.heap.size, 7, none⟩) g1).trans s7, (hb10.cell (p := ⟨w4.heap.size, 8, none⟩) g1).trans s8, (hb10.cell (p := ⟨w4.heap.size, 9, none⟩) g1).trans s9, (hb10.cell (p := ⟨w4.heap.size, 10, none⟩) g1).trans s10, (hb10.cell (p := ⟨w.heap.size, 0, none⟩) g3).trans u0, (hb10.cell (p := ⟨w.heap.size, 1, none⟩) g3).trans u1, (hb10.cell (p := ⟨w.heap.size, 2, none⟩) g3).trans u2, (hb10.cell (p := ⟨w.heap.size, 3, none⟩) g3).trans u3, (hb10.cell (p := ⟨w.heap.size, 4, none⟩) g3).trans u4, (hb10.cell (p := ⟨w.heap.size, 5, none⟩) g3).trans u5, (hb10.cell (p := ⟨w.heap.size, 6, none⟩) g3).trans u6, (hb10.cell (p := ⟨w.heap.size, 7, none⟩) g3).trans u7, (hb10.cell (p := ⟨w.heap.size, 8, none⟩) g3).trans u8, (hb10.cell (p := ⟨w.heap.size, 9, none⟩) g3).trans u9, (hb10.cell (p := ⟨w.heap.size, 10, none⟩) g3).trans u10, hb10⟩ | exact ⟨(hb9.cell (p := ⟨w4.heap.size, 0, none⟩) g1).trans s0, (hb9.cell (p := ⟨w4.heap.size, 1, none⟩) g1).trans s1, (hb9.cell (p := ⟨w4.heap.size, 2, none⟩) g1).trans s2, (hb9.cell (p := ⟨w4.heap.size, 3, none⟩) g1).trans s3, (hb9.cell (p := ⟨w4.heap.size, 4, none⟩) g1).trans s4, (hb9.cell (p := ⟨w4.heap.size, 5, none⟩) g1).trans s5, (hb9.cell (p := ⟨w4.heap.size, 6, none⟩) g1).trans s6, (hb9.cell (p := ⟨w4.heap.size, 7, none⟩) g1).trans s7, (hb9.cell (p := ⟨w4.heap.size, 8, none⟩) g1).trans s8, (hb9.cell (p := ⟨w4.heap.size, 9, none⟩) g1).trans s9, (hb9.cell (p := ⟨w4.heap.size, 10, none⟩) g1).trans s10, (hb9.cell (p := ⟨w.heap.size, 0, none⟩) g3).trans u0, (hb9.cell (p := ⟨w.heap.size, 1, none⟩) g3).trans u1, (hb9.cell (p := ⟨w.heap.size, 2, none⟩) g3).trans u2, (hb9.cell (p := ⟨w.heap.size, 3, none⟩) g3).trans u3, (hb9.cell (p := ⟨w.heap.size, 4, none⟩) g3).trans u4, (hb9.cell (p := ⟨w.heap.size, 5, none⟩) g3).trans u5, (hb9.cell (p := ⟨w.heap.size, 6, none⟩) g3).trans u6, (hb9.cell (p := ⟨w.heap.size, 7, none⟩) g3).trans u7, (hb9.cell (p := ⟨w.heap.size, 8, none⟩) g3).trans u8, (hb9.cell (p := ⟨w.heap.size, 9, none⟩) g3).trans u9, (hb9.cell (p := ⟨w.heap.size, 10, none⟩) g3).trans u10, hb9⟩)
    (first | (go_at_call 51; refine (HT.out _ (HB8.out.trans ((Below.refl _ w8).drew.mono HB8.out.size))).mono ?_; rintro r w9 ⟨G1, i1, G2, i2, mm, rfl, hi1, hi2, hPP, hQQ, hb9'⟩; have hb9 : Below w8.heap.size w8 w9 := (Below.refl _ w8).drew.trans hb9'; have HKK := Lib.hid (kids_both hPP hQQ); have HQ9 := Lib.hid (fun (V : World) (XX : Below w9.heap.size w9 V) => HQ.out A4 A4' G1 G2 c4 c4' i1 i2 w9.heap.size V ((K8.out.1.keep ((hb9.trans (XX.mono hb9.size)).mono (Nat.le_of_lt g1))).wide (by have := hb9.size; omega)) ((K8.out.2.keep ((hb9.trans (XX.mono hb9.size)).mono (Nat.le_of_lt g1))).wide (by have := hb9.size; omega)) (HKK.out.1.kids.keep XX) (HKK.out.2.kids.keep XX) hc4 hc4' hi1 hi2 XX.size); clear hPP hQQ hb9') | (go_at_call 36; (first | refine (HQ9.out _ (Below.refl _ w9)).mono ?_ | refine (HQ9.out _ (Below.refl _ w9).drew).mono ?_); rintro r w10 ⟨rfl, hb10'⟩; have hb10 : Below w8.heap.size w8 w10 := hb9.trans (hb10'.mono hb9.size)))
  rename_i hh8
  clear HQ9 HKK hb10'
  have hz10 := hb10.size
  have B10 := HB8.out.trans (hb10.mono HB8.out.size)
  have S10 := S8.trans (hb10.mono S8.size)
  have HO10 := Lib.hid (And.intro (HOK.out w8 w10 _ _ s.e A4 HO8.out.1 (fun k _ h2 => hb10.block k (by omega))) (HOK.out w8 w10 _ _ s.t A4' HO8.out.2 (fun k _ h2 => hb10.block k (by omega))))
  have R10 : ∀ b, b < W7.heap.size → w10.heap[b]? = W7.heap[b]? := fun b h2 => (hb10.block b (by omega)).trans (hb8'.block b h2)
  obtain ⟨s0, s1, s2, s3, s4, s5, s6, s7, s8, s9, s10, _⟩ := hh8
  clear hb9 hb8' HQ K8 HO8 HB8 S8
  go_wp2_with fail
  refine (HMX.out A4 A4' c4 c4' V3.heap.size m4 w4.heap.size w10 HO10.out.1 HO10.out.2 (by omega)).mono ?_
  rintro r w11 ⟨rfl, hT11⟩
  have q10 : decide ((nd : Int) < 0) = false := decide_eq_false (by omega)
  have T11 := hT11.below S10.size
  have S11 : Below V3.heap.size V3 w11 := S10.trans T11
  have B11 : Below W0.heap.size W0 w11 := B10.trans (T11.mono hz03)
  have R11 : ∀ b, w4.heap.size ≤ b → b < W7.heap.size → w11.heap[b]? = W7.heap[b]? := fun b h1 h2 => (hT11.block b (by omega) (.inr h1)).trans (R10 b h2)
  have hz11 := hT11.size
  have HO11 := Lib.hid (And.intro (HOK.out W7 w11 _ _ x.e A6 HO7.out.1 (fun k h1 h2 => R11 k (by omega) (by omega))) (HOK.out W7 w11 _ _ x.t A6' HO7.out.2 (fun k h1 h2 => R11 k (by omega) (by omega))))
  have KW11 := Lib.hid (And.intro ((KW.out.1.keep (S11.mono (by omega))).wide (B' := w11.heap.size) (by have := S11.size; omega)) ((KW.out.2.keep (S11.mono (by omega))).wide (B' := w11.heap.size) (by have := S11.size; omega)))
  have KG11 := Lib.hid (And.intro (HKX.out w11 _ _ x.e A6 HO11.out.1 (by omega)) (HKX.out w11 _ _ x.t A6' HO11.out.2 (by omega)))
  clear HO10 s0 s1 s2 s3 s4 s5 s6 s7 s8 s9 s10 hT11 T11 HMX S10 B10 HO7
  have p0 := BlkT.cell (HBG.out.stay (R11 w6.heap.size (by omega) (by omega))) 0
  have p1 := BlkT.cell (HBG.out.stay (R11 w6.heap.size (by omega) (by omega))) 1
  have p2 := BlkT.cell (HBG.out.stay (R11 w6.heap.size (by omega) (by omega))) 2
  have p3 := BlkT.cell (HBG.out.stay (R11 w6.heap.size (by omega) (by omega))) 3
  have p4 := BlkT.cell (HBG.out.stay (R11 w6.heap.size (by omega) (by omega))) 4
  have p5 := BlkT.cell (HBG.out.stay (R11 w6.heap.size (by omega) (by omega))) 5
  have p6 := BlkT.cell (HBG.out.stay (R11 w6.heap.size (by omega) (by omega))) 6
  have p7 := BlkT.cell (HBG.out.stay (R11 w6.heap.size (by omega) (by omega))) 7
  have p8 := BlkT.cell (HBG.out.stay (R11 w6.heap.size (by omega) (by omega))) 8
  have p9 := BlkT.cell (HBG.out.stay (R11 w6.heap.size (by omega) (by omega))) 9
  simp only [List.getElem?_toArray, List.getElem?_cons_zero, List.getElem?_cons_succ] at p0 p1 p2 p3 p4 p5 p6 p7 p8 p9
  have d0 := BlkT.cell (HBD.out.below S11) 0
  have d1 := BlkT.cell (HBD.out.below S11) 1
  have d2 := BlkT.cell (HBD.out.below S11) 2
  have d3 := BlkT.cell (HBD.out.below S11) 3
  have d4 := BlkT.cell (HBD.out.below S11) 4
  have d5 := BlkT.cell (HBD.out.below S11) 5
  have d6 := BlkT.cell (HBD.out.below S11) 6
  have d7 := BlkT.cell (HBD.out.below S11) 7
  have d8 := BlkT.cell (HBD.out.below S11) 8
  have d9 := BlkT.cell (HBD.out.below S11) 9
  simp only [List.getElem?_toArray, List.getElem?_cons_zero, List.getElem?_cons_succ] at d0 d1 d2 d3 d4 d5 d6 d7 d8 d9

  go_wp2_with fail
  refine (HQX.out A6 A6' A3 A3' c6 c6' c3 c3' w11 KG11.out.1 KG11.out.2 KW11.out.1 KW11.out.2 hc6 hc6' hc3 hc3').mono ?_
  rintro r w12 ⟨rfl, hb12⟩
  have S12 := S11.trans (hb12.mono S11.size)
  have B12 := B11.trans (hb12.mono B11.size)
  have hz12 := hb12.size
  have R12 : ∀ b, w4.heap.size ≤ b → b < W7.heap.size → w12.heap[b]? = W7.heap[b]? := fun b h1 h2 => (hb12.block b (by omega)).trans (R11 b h1 h2)
  have HO12 := Lib.hid (And.intro (HOK.out w11 w12 _ _ x.e A6 HO11.out.1 (fun k h1 h2 => hb12.block k (by omega))) (HOK.out w11 w12 _ _ x.t A6' HO11.out.2 (fun k h1 h2 => hb12.block k (by omega))))
  clear p0 p1 p2 p3 p4 p5 p6 p7 p8 p9 d0 d1 d2 d3 d4 d5 d6 d7 d8 d9 HO11 KW11 KG11 S11 B11 R11
  have p0 := BlkT.cell (HBG.out.stay (R12 w6.heap.size (by omega) (by omega))) 0
  have p1 := BlkT.cell (HBG.out.stay (R12 w6.heap.size (by omega) (by omega))) 1
  have p2 := BlkT.cell (HBG.out.stay (R12 w6.heap.size (by omega) (by omega))) 2
  have p3 := BlkT.cell (HBG.out.stay (R12 w6.heap.size (by omega) (by omega))) 3
  have p4 := BlkT.cell (HBG.out.stay (R12 w6.heap.size (by omega) (by omega))) 4
  have p5 := BlkT.cell (HBG.out.stay (R12 w6.heap.size (by omega) (by omega))) 5
  have p6 := BlkT.cell (HBG.out.stay (R12 w6.heap.size (by omega) (by omega))) 6
  have p7 := BlkT.cell (HBG.out.stay (R12 w6.heap.size (by omega) (by omega))) 7
  have p8 := BlkT.cell (HBG.out.stay (R12 w6.heap.size (by omega) (by omega))) 8
  have p9 := BlkT.cell (HBG.out.stay (R12 w6.heap.size (by omega) (by omega))) 9
  simp only [List.getElem?_toArray, List.getElem?_cons_zero, List.getElem?_cons_succ] at p0 p1 p2 p3 p4 p5 p6 p7 p8 p9

  go_wp2_with fail
  refine (HMG.out A6 A6' c6 c6' W5.heap.size m6 w6.heap.size w12 HO12.out.1 HO12.out.2 (by omega)).mono ?_
  rintro r w13 ⟨rfl, hO13, hO13', hT13⟩
  have hz35 : V3.heap.size ≤ W5.heap.size := by omega
  have T13 := hT13.below (show W5.heap.size ≤ w12.heap.size by omega)
  have S13 : Below V3.heap.size V3 w13 := S12.trans (T13.mono hz35)
  have B13 : Below W0.heap.size W0 w13 := B12.trans (T13.mono (by omega))
  have hz13 := hT13.size
  have R13 : w13.heap[w6.heap.size]? = W7.heap[w6.heap.size]? := (hT13.block _ (by omega) (.inr (Nat.le_refl _))).trans (R12 _ (by omega) (by omega))
  have KM13 := Lib.hid (HMK.out w13 _ _ _ A6 A6' hO13 hO13' (by omega) (by omega))
  have HBG13 := Lib.hid (HBG.out.stay R13)
  clear p0 p1 p2 p3 p4 p5 p6 p7 p8 p9 HO12 hO13 hO13' hT13 T13 S12 B12 R12
  have p0 := BlkT.cell HBG13.out 0
  have p1 := BlkT.cell HBG13.out 1
  have p2 := BlkT.cell HBG13.out 2
  have p3 := BlkT.cell HBG13.out 3
  have p4 := BlkT.cell HBG13.out 4
  have p5 := BlkT.cell HBG13.out 5
  have p6 := BlkT.cell HBG13.out 6
  have p7 := BlkT.cell HBG13.out 7
  have p8 := BlkT.cell HBG13.out 8
  have p9 := BlkT.cell HBG13.out 9
  simp only [List.getElem?_toArray, List.getElem?_cons_zero, List.getElem?_cons_succ] at p0 p1 p2 p3 p4 p5 p6 p7 p8 p9

  have hq1 : decide ((nx : Int) < 0) = false := decide_eq_false (by omega)
  have hq2 : ((nx : Int) != (nx : Int)) = false := by simp
  go_wp2_with fail
  refine (HHG.out A6 A6' c6 c6' w13 KM13.out.1 KM13.out.2).mono ?_
  rintro r w14 ⟨rfl, hb14⟩
  have S14 := S13.trans (hb14.mono S13.size)
  have B14 := B13.trans (hb14.mono B13.size)
  have hz14 := hb14.size
  clear p0 p1 p2 p3 p4 p5 p6 p7 p8 p9 S13 B13
  have u0 := BlkT.cell (HBA.out.below B14) 0
  have u1 := BlkT.cell (HBA.out.below B14) 1
  have u2 := BlkT.cell (HBA.out.below B14) 2
  have u3 := BlkT.cell (HBA.out.below B14) 3
  have u4 := BlkT.cell (HBA.out.below B14) 4
  have u5 := BlkT.cell (HBA.out.below B14) 5
  have u6 := BlkT.cell (HBA.out.below B14) 6
  have u7 := BlkT.cell (HBA.out.below B14) 7
  have u8 := BlkT.cell (HBA.out.below B14) 8
  have u9 := BlkT.cell (HBA.out.below B14) 9
  have u10 := BlkT.cell (HBA.out.below B14) 10
  simp only [List.getElem?_toArray, List.getElem?_cons_zero, List.getElem?_cons_succ] at u0 u1 u2 u3 u4 u5 u6 u7 u8 u9 u10

  go_wp2_with fail
  refine (HT.out w14 B14).mono ?_
  rintro r w15 ⟨A15, c15, A15', c15', m15, rfl, hc15, hc15', hO15, hO15', hb15'⟩
  have hb15 := hb14.trans (hb15'.mono hb14.size)
  have S15 := S14.trans (hb15'.mono S14.size)
  have B15 := B14.trans (hb15'.mono B14.size)
  have K15 := Lib.hid (kids_both hO15 hO15')
  clear u0 u1 u2 u3 u4 u5 u6 u7 u8 u9 u10 hO15 hO15' hb15' hb14 S14 B14
  go_wp2_with fail
  refine (HI.out A15 A15' c15 c15' w15.heap.size w15 B15 K15.out.1 K15.out.2 hc15 hc15' (Nat.le_refl _)).mono ?_
  rintro r w16 ⟨A16, c16, A16', c16', m16, rfl, hc16, hc16', hO16, hO16', hm16, hb16'⟩
  obtain ⟨W17, hW17⟩ : ∃ W17, W17 = w16.alloc (.cells #[.int .i64 x.kind, .string x.name, .int .i64 x.e.kind, .int .i64 x.e.n, .string x.e.s, .slice A16 x.e.kids.length c16, .int .i64 x.t.kind, .int .i64 x.t.n, .string x.t.s, .slice A16' x.t.kids.length c16'] 52) := ⟨_, rfl⟩
  have hbW17' : Below w16.heap.size w16 W17 := by rw [hW17]; exact below_new _ _
  have BW17 : BlkT W17 w16.heap.size #[.int .i64 x.kind, .string x.name, .int .i64 x.e.kind, .int .i64 x.e.n, .string x.e.s, .slice A16 x.e.kids.length c16, .int .i64 x.t.kind, .int .i64 x.t.n, .string x.t.s, .slice A16' x.t.kids.length c16'] 52 := by rw [hW17]; exact blkT_new _ _ _
  have hzW17 : W17.heap.size = w16.heap.size + 1 := by rw [hW17]; simp
  have hbq := hb16'.trans (hbW17'.mono hb16'.size)
  have hb17 := hb15.trans (hbq.mono hb15.size)
  have S17 := S15.trans (hbq.mono S15.size)
  have B17 := B15.trans (hbq.mono B15.size)
  have hz16 := hb16'.size
  have hz15 := hb15.size
  have KH := Lib.hid (And.intro (HKX.out W17 _ _ x.e A16 (HOK.out w16 W17 _ _ x.e A16 hO16 (fun k _ h2 => hbW17'.block k (by omega))) (by omega)) (HKX.out W17 _ _ x.t A16' (HOK.out w16 W17 _ _ x.t A16' hO16' (fun k _ h2 => hbW17'.block k h2)) (by omega)))
  have KW17 := Lib.hid (And.intro ((KW.out.1.keep (S17.mono (by omega))).wide (B' := W17.heap.size) (by have := S17.size; omega)) ((KW.out.2.keep (S17.mono (by omega))).wide (B' := W17.heap.size) (by have := S17.size; omega)))
  have p0 := BlkT.cell BW17 0
  have p1 := BlkT.cell BW17 1
  have p2 := BlkT.cell BW17 2
  have p3 := BlkT.cell BW17 3
  have p4 := BlkT.cell BW17 4
  have p5 := BlkT.cell BW17 5
  have p6 := BlkT.cell BW17 6
  have p7 := BlkT.cell BW17 7
  have p8 := BlkT.cell BW17 8
  have p9 := BlkT.cell BW17 9
  simp only [List.getElem?_toArray, List.getElem?_cons_zero, List.getElem?_cons_succ] at p0 p1 p2 p3 p4 p5 p6 p7 p8 p9
  have d0 := BlkT.cell (HBD.out.below S17) 0
  have d1 := BlkT.cell (HBD.out.below S17) 1
  have d2 := BlkT.cell (HBD.out.below S17) 2
  have d3 := BlkT.cell (HBD.out.below S17) 3
  have d4 := BlkT.cell (HBD.out.below S17) 4
  have d5 := BlkT.cell (HBD.out.below S17) 5
  have d6 := BlkT.cell (HBD.out.below S17) 6
  have d7 := BlkT.cell (HBD.out.below S17) 7
  have d8 := BlkT.cell (HBD.out.below S17) 8
  have d9 := BlkT.cell (HBD.out.below S17) 9
  simp only [List.getElem?_toArray, List.getElem?_cons_zero, List.getElem?_cons_succ] at d0 d1 d2 d3 d4 d5 d6 d7 d8 d9
  clear hO16 hO16' hb16' hbW17' hbq K15 S15 B15 hb15 BW17
  rw [hW17] at p0 p1 p2 p3 p4 p5 p6 p7 p8 p9 d0 d1 d2 d3 d4 d5 d6 d7 d8 d9
  go_wp2_with fail
  rw [← hW17] at p0 p1 p2 p3 p4 p5 p6 p7 p8 p9 d0 d1 d2 d3 d4 d5 d6 d7 d8 d9 ⊢
  clear hW17 p0 p1 p2 p3 p4 p5 p6 p7 p8 p9 d0 d1 d2 d3 d4 d5 d6 d7 d8 d9
  refine (HQX.out A16 A16' A3 A3' c16 c16' c3 c3' W17 KH.out.1 KH.out.2 KW17.out.1 KW17.out.2 hc16 hc16' hc3 hc3').mono ?_
  rintro r w18 ⟨rfl, hb18'⟩
  have hb18 := hb17.trans (hb18'.mono hb17.size)
  have B18 := B17.trans (hb18'.mono B17.size)
  have KM18 := Lib.hid (And.intro ((KM13.out.1.keep hb18).wide hb18.size) ((KM13.out.2.keep hb18).wide hb18.size))
  have p0 := BlkT.cell (HBG13.out.below hb18) 0
  have p1 := BlkT.cell (HBG13.out.below hb18) 1
  have p2 := BlkT.cell (HBG13.out.below hb18) 2
  have p3 := BlkT.cell (HBG13.out.below hb18) 3
  have p4 := BlkT.cell (HBG13.out.below hb18) 4
  have p5 := BlkT.cell (HBG13.out.below hb18) 5
  have p6 := BlkT.cell (HBG13.out.below hb18) 6
  have p7 := BlkT.cell (HBG13.out.below hb18) 7
  have p8 := BlkT.cell (HBG13.out.below hb18) 8
  have p9 := BlkT.cell (HBG13.out.below hb18) 9
  simp only [List.getElem?_toArray, List.getElem?_cons_zero, List.getElem?_cons_succ] at p0 p1 p2 p3 p4 p5 p6 p7 p8 p9
  clear KH KW17 hb18' hb17 B17 S17
  go_wp2_with fail
  refine (HHG.out A6 A6' c6 c6' w18 KM18.out.1 KM18.out.2).mono ?_
  rintro r w19 ⟨rfl, hb19⟩
  have B19 := B18.trans (hb19.mono B18.size)
  go_wp2_with fail
  go_ret
  exact ⟨rfl, HB0.out.trans (B19.mono HB0.out.size)⟩
end Go.Proofs.YtfknelkbdoiokaaGreatDoor.fnExactBareOf
