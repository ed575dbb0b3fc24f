/-
  'laws.FnBareCast' returns true at every code: a drawn line is turned into what the model says, and a line that is cast, or told with another type, is turned into the same.
  Conditions: the library's variables and the program's own error hold what their initialisers lay (tied to the program's text); every list of bytes.
-/
import Derived.Test.YtfknelkbdoiokaaGreatDoorCastTurn
import Derived.Test.YtfknelkbdoiokaaGreatDoorImplOf
import Derived.Test.YtfknelkbdoiokaaGreatDoorSpecOfB
import Derived.Test.YtfknelkbdoiokaaGreatDoorDrawLn
import Derived.Test.YtfknelkbdoiokaaGreatDoorImplStmt
import Derived.Test.YtfknelkbdoiokaaGreatDoorBareSame
import Derived.Test.YtfknelkbdoiokaaGreatDoorGB
import Derived.Test.YtfknelkbdoiokaaGreatDoorIsErr
import Derived.WalkKit
import Derived.ProofKit
import Derived.OpenShut
import Derived.ShutString
import Derived.ChangeOld
import Derived.Below
import Derived.Lib.SmallJoins
import Derived.SliceStrings
namespace Go.Proofs.YtfknelkbdoiokaaGreatDoor.fnBareCast
open Go.ChangeShapes Go.WideShapes Go.ChangeAt Go.RowKit Go.Joins
open Go.ChangeMaps (open_string shut_string)


theorem kidsS_u {w : World} {S : Nat → Prop} {B : Nat} {A : Option Addr} {ks : List Ex} (h : KidsS w S A ks) (hS : ∀ b, S b → b < B) : KidsU w B A ks := by
  induction h with
  | nil => exact .nil
  | mk D c hg hb h0 h1 h2 h3 hc _ ih => exact .mk D c (hS _ hg) hb (fun j h => ⟨h0 j h, h1 j h, h2 j h, h3 j h, hc j h⟩) ih
theorem kids_two {W : World} {s : Br} {A1 A2 : Option Addr} {lo mid : Nat} (h1 : OwnE W s.e lo mid A1) (h2 : OwnE W s.t mid W.heap.size A2) : KidsU W W.heap.size A1 s.e.kids ∧ KidsU W W.heap.size A2 s.t.kids :=
  ⟨own_kidsU s.e _ _ _ _ h1 (own_le W s.t _ _ _ h2), own_kidsU s.t _ _ _ _ h2 (Nat.le_refl _)⟩
theorem bare_wt2 (p : Pt) : p.bare.ex.wt ≤ p.ex.wt := by
  induction p with
  | num n => exact Nat.le_refl _
  | name s => exact Nat.le_refl _
  | two s a b ia ib => simp only [Pt.bare, Pt.ex, Ex.wt, Ex.wts]; omega
  | «as» s a ia => simp only [Pt.bare, Pt.ex, Ex.wt, Ex.wts]; omega
theorem turnS_wt (s : St) : (turnS s).wt ≤ s.wt := by
  have hz : Ex.zero.wt = 0 := rfl
  unfold turnS
  cases h : doS s with
  | none => show ByteArray.empty.size + Ex.zero.wt + Ex.zero.wt ≤ _; rw [hz]; exact Nat.zero_le _
  | some d =>
    obtain ⟨_, hs, _⟩ := doS_some h
    subst hs
    cases d with
    | noD => show ByteArray.empty.size + Ex.zero.wt + Ex.zero.wt ≤ _; rw [hz]; exact Nat.zero_le _
    | letD n t p => have := bare_wt2 p; simp only [De.turned, Ba.br, De.st, Br.wt, St.wt]; omega
    | sayD p => have := bare_wt2 p; simp only [De.turned, Ba.br, De.st, Br.wt, St.wt]; omega
    | whenD p q => have := bare_wt2 p; have := bare_wt2 q; simp only [De.turned, Ba.br, De.st, Br.wt, St.wt]; omega
theorem three_new (X V : World) (A B C : Array Value) (h : V = ((X.alloc (.cells A 35)).alloc (.cells B 25)).alloc (.cells C 35)) :
    V.heap.size = X.heap.size + 3 ∧ BlkT V X.heap.size A 35 ∧ BlkT V (X.heap.size + 1) B 25 ∧ BlkT V (X.heap.size + 2) C 35 ∧ Below X.heap.size X V := by
  subst h
  refine ⟨by simp, ?_, ?_, ?_, (((Below.refl _ X).alloc (Nat.le_refl _) _).alloc (by simp) _).alloc (by simp <;> omega) _⟩
  · exact ((blkT_new X _ _).stay (Below.heap_alloc _ _ _ (by simp))).stay (Below.heap_alloc _ _ _ (by simp <;> omega))
  · have h := blkT_new (X.alloc (.cells A 35)) B 25
    rw [World.size_alloc] at h
    exact h.stay (Below.heap_alloc _ _ _ (by simp))
  · have h := blkT_new ((X.alloc (.cells A 35)).alloc (.cells B 25)) C 35
    rw [World.size_alloc, World.size_alloc] at h
    exact h
theorem cast_wt {s : St} (h : s.wt ≤ 5000) : (castS s).wt ≤ 6000 ∧ (retypeS s).wt ≤ 6000 := by
  have h3 : sIntL.size = 3 := rfl
  have h4 : sBoolL.size = 4 := rfl
  unfold castS retypeS
  simp only [St.wt] at h
  constructor
  · simp only [St.wt, Ex.wt, Ex.wts]; omega
  · by_cases hk : s.kind = 1
    · rw [if_pos hk]; simp only [St.wt]; omega
    · rw [if_neg hk]; simp only [St.wt]; omega

theorem retype_e (s : St) : (retypeS s).e = s.e := by unfold retypeS; split <;> rfl
theorem retype_t (s : St) : (retypeS s).t = s.t := by unfold retypeS; split <;> rfl

set_option linter.unusedVariables false in
set_option linter.unusedSimpArgs false in
set_option maxRecDepth 100000 in
set_option maxHeartbeats 16000000 in
theorem walk (A : Option Addr) (len cap : Nat) (w : World) (h1 : InCode w A len cap) (hL : LaidW w ∧ ∃ a, LaidN w a) :
    Calls Tryz.prog 7 #[.slice A len cap] w fun r w' => r = .returned (.bool true) ∧ Below w.heap.size w w' := by
  by_cases hl1 : 1048576 < len
  · have q1 : decide ((1048576 : Int) < (len : Int)) = true := by simp; omega
    clear h1
    go_enter Tryz.func7, Tryz.ntmps7
    go_wp2_with fail
    go_ret
    exact ⟨rfl, Below.refl _ _⟩
  have q1 : decide ((1048576 : Int) < (len : Int)) = false := by simp; omega
  have HD := Lib.hid (drawBareOf_any A len cap w h1)
  obtain ⟨hL, ad, hN⟩ := hL
  have HL := Lib.hid hL
  have HN := Lib.hid hN
  clear h1 hL hN
  go_enter Tryz.func7, Tryz.ntmps7
  go_wp2_with fail
  refine HD.out.mono ?_
  rintro r w1 ⟨s, A1, A2, c1, c2, rfl, hc1, hc2, hO1, hO2, hwt, hb1⟩
  have hxw := turnS_wt s
  have hcw := cast_wt hwt
  have HK1 := Lib.hid hO1.kids
  have HK2 := Lib.hid hO2.kids
  obtain ⟨W2, hW2⟩ : ∃ W2, W2 = w1.alloc (.cells #[.int .i64 s.kind, .string s.name, .string s.typ, .int .i64 s.e.kind, .int .i64 s.e.n, .string s.e.s, .slice A1 s.e.kids.length c1, .int .i64 s.t.kind, .int .i64 s.t.n, .string s.t.s, .slice A2 s.t.kids.length c2] 35) := ⟨_, rfl⟩
  have hb2' : Below w1.heap.size w1 W2 := by rw [hW2]; exact below_new _ _
  have hB2 : BlkT W2 w1.heap.size #[.int .i64 s.kind, .string s.name, .string s.typ, .int .i64 s.e.kind, .int .i64 s.e.n, .string s.e.s, .slice A1 s.e.kids.length c1, .int .i64 s.t.kind, .int .i64 s.t.n, .string s.t.s, .slice A2 s.t.kids.length c2] 35 := by rw [hW2]; exact blkT_new _ _ _
  have hz2 : W2.heap.size = w1.heap.size + 1 := by rw [hW2]; simp
  have hb2 := hb1.trans (hb2'.mono hb1.size)
  have HIB := Lib.hid (bareOf_any s A1 A2 c1 c2 w1.heap.size ad W2 (HK1.out.keep hb2') (HK2.out.keep hb2') hc1 hc2 (by omega) (by omega) (HL.out.below hb2) (HN.out.below hb2))
  have HSW2 := Lib.hid hB2
  unfold stV GivesBr brV at HIB
  unfold stV
  have a0 := BlkT.cell hB2 0
  have a1 := BlkT.cell hB2 1
  have a2 := BlkT.cell hB2 2
  have a3 := BlkT.cell hB2 3
  have a4 := BlkT.cell hB2 4
  have a5 := BlkT.cell hB2 5
  have a6 := BlkT.cell hB2 6
  have a7 := BlkT.cell hB2 7
  have a8 := BlkT.cell hB2 8
  have a9 := BlkT.cell hB2 9
  have a10 := BlkT.cell hB2 10
  simp only [List.getElem?_toArray, List.getElem?_cons_zero, List.getElem?_cons_succ] at a0 a1 a2 a3 a4 a5 a6 a7 a8 a9 a10
  have HB2' := Lib.hid hb2'
  clear hO1 hO2 hB2 HD hb2'
  rw [hW2] at a0 a1 a2 a3 a4 a5 a6 a7 a8 a9 a10
  go_wp2_with fail
  rw [← hW2] at a0 a1 a2 a3 a4 a5 a6 a7 a8 a9 a10 ⊢
  clear hW2 a0 a1 a2 a3 a4 a5 a6 a7 a8 a9 a10
  obtain ⟨x, hx⟩ : ∃ x, x = turnS s := ⟨_, rfl⟩
  rw [← hx] at HIB hxw
  refine HIB.out.mono ?_
  rintro r w3 ⟨B1, d1, B2, d2, mid, rfl, hd1, hd2, hOB1, hOB2, hmid, hb3'⟩
  have HXE := Lib.hid hx.symm
  have hbw := hb2.trans (hb3'.mono hb2.size)
  have HKB := Lib.hid (kids_two hOB1 hOB2)
  obtain ⟨X, hX⟩ : ∃ X, X = w3.alloc (.cells #[.int .i64 x.kind, .string x.name, .int .i64 x.e.kind, .int .i64 x.e.n, .string x.e.s, .slice B1 x.e.kids.length d1, .int .i64 x.t.kind, .int .i64 x.t.n, .string x.t.s, .slice B2 x.t.kids.length d2] 52) := ⟨_, rfl⟩
  have hbX' : Below w3.heap.size w3 X := by rw [hX]; exact below_new _ _
  have hzX : X.heap.size = w3.heap.size + 1 := by rw [hX]; simp
  have HB0 := Lib.hid (show BlkT X w3.heap.size #[.int .i64 x.kind, .string x.name, .int .i64 x.e.kind, .int .i64 x.e.n, .string x.e.s, .slice B1 x.e.kids.length d1, .int .i64 x.t.kind, .int .i64 x.t.n, .string x.t.s, .slice B2 x.t.kids.length d2] 52 by rw [hX]; exact blkT_new _ _ _)
  have hb13 := HB2'.out.trans (hb3'.mono HB2'.out.size)
  have hb1X := hb13.trans (hbX'.mono hb13.size)
  have HS0 := Lib.hid (HSW2.out.below (hb3'.trans (hbX'.mono hb3'.size)))
  have hz13 := hb13.size
  have HBW := Lib.hid (hbw.trans (hbX'.mono hbw.size))
  have HLL := Lib.hid (fun (W : World) (hW : Below X.heap.size X W) => show LaidW W from HL.out.below (HBW.out.trans (hW.mono HBW.out.size)))
  have HLN := Lib.hid (fun (W : World) (hW : Below X.heap.size X W) => show LaidN W ad from HN.out.below (HBW.out.trans (hW.mono HBW.out.size)))
  have HKS := Lib.hid (fun (W : World) (hW : Below X.heap.size X W) (B : Nat) (hB : w1.heap.size ≤ B) => show KidsU W B A1 s.e.kids ∧ KidsU W B A2 s.t.kids from ⟨((HK1.out.keep hb1X).keep (hW.mono (by omega))).wide hB, ((HK2.out.keep hb1X).keep (hW.mono (by omega))).wide hB⟩)
  have HKX := Lib.hid (fun (W : World) (hW : Below X.heap.size X W) => show KidsU W W.heap.size B1 x.e.kids ∧ KidsU W W.heap.size B2 x.t.kids from ⟨((HKB.out.1.keep hbX').keep (hW.mono (by omega))).wide (by have := hW.size; omega), ((HKB.out.2.keep hbX').keep (hW.mono (by omega))).wide (by have := hW.size; omega)⟩)
  have HMB := Lib.hid (fun (W : World) (hW : Below X.heap.size X W) => specBareOf_any s A1 A2 c1 c2 w1.heap.size W (HKS.out W hW _ (Nat.le_refl _)).1.kids (HKS.out W hW _ (Nat.le_refl _)).2.kids hc1 hc2 (by have := hW.size; omega) (by omega))
  have HOK := Lib.hid (fun (W : World) (hW : Below X.heap.size X W) => specStmtOk_any s A1 A2 c1 c2 w1.heap.size W (HKS.out W hW _ (Nat.le_refl _)).1.kids (HKS.out W hW _ (Nat.le_refl _)).2.kids hc1 hc2 (by have := hW.size; omega) (by omega))
  have HSM := Lib.hid (fun (W : World) (Y1 Y2 : Option Addr) (m1 m2 : Nat) (hW : Below X.heap.size X W) (h1 : KidsU W W.heap.size Y1 x.e.kids) (h2 : KidsU W W.heap.size Y2 x.t.kids) (h3 : x.e.kids.length ≤ m1) (h4 : x.t.kids.length ≤ m2) => And.intro (show Calls Tryz.prog 30 #[.agg #[.int .i64 x.kind, .string x.name, .int .i64 x.e.kind, .int .i64 x.e.n, .string x.e.s, .slice B1 x.e.kids.length d1, .int .i64 x.t.kind, .int .i64 x.t.n, .string x.t.s, .slice B2 x.t.kids.length d2], .agg #[.int .i64 x.kind, .string x.name, .int .i64 x.e.kind, .int .i64 x.e.n, .string x.e.s, .slice Y1 x.e.kids.length m1, .int .i64 x.t.kind, .int .i64 x.t.n, .string x.t.s, .slice Y2 x.t.kids.length m2]] W (fun r w' => r = .returned (.bool true) ∧ Below W.heap.size W w') from by
    have h := bareSame_any x x B1 B2 Y1 Y2 d1 d2 m1 m2 W.heap.size W (HKX.out W hW).1 (HKX.out W hW).2 h1 h2 hd1 hd2 h3 h4 (Nat.le_refl _) (by omega)
    rw [sameB_self] at h
    exact h) (show Calls Tryz.prog 30 #[.agg #[.int .i64 x.kind, .string x.name, .int .i64 x.e.kind, .int .i64 x.e.n, .string x.e.s, .slice Y1 x.e.kids.length m1, .int .i64 x.t.kind, .int .i64 x.t.n, .string x.t.s, .slice Y2 x.t.kids.length m2], .agg #[.int .i64 x.kind, .string x.name, .int .i64 x.e.kind, .int .i64 x.e.n, .string x.e.s, .slice B1 x.e.kids.length d1, .int .i64 x.t.kind, .int .i64 x.t.n, .string x.t.s, .slice B2 x.t.kids.length d2]] W (fun r w' => r = .returned (.bool true) ∧ Below W.heap.size W w') from by
    have h := bareSame_any x x Y1 Y2 B1 B2 m1 m2 d1 d2 W.heap.size W h1 h2 (HKX.out W hW).1 (HKX.out W hW).2 h3 h4 hd1 hd2 (Nat.le_refl _) (by omega)
    rw [sameB_self] at h
    exact h))
  have HKC := Lib.hid (fun (V V5 : World) (hV5 : Below X.heap.size X V5) (hK : BlkT V5 (V.heap.size + 1) #[.int .i64 s.e.kind, .int .i64 s.e.n, .string s.e.s, .slice A1 s.e.kids.length c1] 25) (hz : V5.heap.size = V.heap.size + 3) (W : World) (hW : Below V5.heap.size V5 W) => show KidsU W V5.heap.size (some ⟨V.heap.size + 1, 0, none⟩) [s.e] from
    KidsU.of (by omega) ⟨_, hK.below hW⟩ (fun j hj => by
      obtain rfl : j = 0 := by simpa using hj
      exact ⟨A1, c1, ⟨(hK.below hW).cell 0, (hK.below hW).cell 1, (hK.below hW).cell 2, (hK.below hW).cell 3, hc1⟩, (HKS.out W (hV5.trans (hW.mono hV5.size)) V5.heap.size (by have := hV5.size; omega)).1⟩))
  unfold stV GivesBare at HMB
  rw [← hx] at HMB
  unfold stV at HOK
  clear hx hb3' hbX' hb13 hb1X hbw hb2 hOB1 hOB2 HK1 HK2 HKB HIB HSW2 HB2' HL HN hb1 hmid HKX
  go_wp2_with fail
  rw [← hX]
  clear hX
  cases hd : doS s with
  | none =>
    rw [hd] at HOK
    simp only [Option.isSome_none] at HOK
    have HSM1 := HSM
    clear hd HKC HKS HLL HLN
    refine wp_region_noPanic ?_
    refine wp_region_held_drew (S := (fun W => BlkT W w1.heap.size #[.int .i64 s.kind, .string s.name, .string s.typ, .int .i64 s.e.kind, .int .i64 s.e.n, .string s.e.s, .slice A1 s.e.kids.length c1, .int .i64 s.t.kind, .int .i64 s.t.n, .string s.t.s, .slice A2 s.t.kids.length c2] 35 ∧ BlkT W w3.heap.size #[.int .i64 x.kind, .string x.name, .int .i64 x.e.kind, .int .i64 x.e.n, .string x.e.s, .slice B1 x.e.kids.length d1, .int .i64 x.t.kind, .int .i64 x.t.n, .string x.t.s, .slice B2 x.t.kids.length d2] 52 ∧ Below X.heap.size X W)) (by kernel_rfl) (by exact ⟨HS0.out, HB0.out, (Below.refl _ X).drew⟩) (fun hHeld => ?_)
    refine wpAnyH_take (i := 0) (v := ?valF0T1) rfl (by kernel_rfl) (by kernel_rfl) (by kernel_rfl) (fun _ _ _ h => h) (Or.inl ⟨by rfl, ?yieF0T1⟩) (by assumption) ?resF0T1
    case yieF0T1 =>
      intro w hSw
      try dsimp only at hSw
      obtain ⟨s0, s1, s2⟩ := hSw
      have e0 := BlkT.cell s1 0
      have e1 := BlkT.cell s1 1
      have e2 := BlkT.cell s1 2
      have e3 := BlkT.cell s1 3
      have e4 := BlkT.cell s1 4
      have e5 := BlkT.cell s1 5
      have e6 := BlkT.cell s1 6
      have e7 := BlkT.cell s1 7
      have e8 := BlkT.cell s1 8
      have e9 := BlkT.cell s1 9
      simp only [List.getElem?_toArray, List.getElem?_cons_zero, List.getElem?_cons_succ] at e0 e1 e2 e3 e4 e5 e6 e7 e8 e9
      go_simp
      try with_reducible rfl
    try simp only [Act.put, List.setIfInBounds_toArray, List.set_cons_zero, List.set_cons_succ, List.getElem_toArray, List.getElem_cons_zero, List.getElem_cons_succ]
    refine wpAnyH_take (i := 1) (v := ?valF1T2) rfl (by kernel_rfl) (by kernel_rfl) (by kernel_rfl) (fun _ _ _ h => h) (Or.inl ⟨by rfl, ?yieF1T2⟩) (by assumption) ?resF1T2
    case yieF1T2 =>
      intro w hSw
      try dsimp only at hSw
      obtain ⟨s0, s1, s2⟩ := hSw
      have e0 := BlkT.cell s0 0
      have e1 := BlkT.cell s0 1
      have e2 := BlkT.cell s0 2
      have e3 := BlkT.cell s0 3
      have e4 := BlkT.cell s0 4
      have e5 := BlkT.cell s0 5
      have e6 := BlkT.cell s0 6
      have e7 := BlkT.cell s0 7
      have e8 := BlkT.cell s0 8
      have e9 := BlkT.cell s0 9
      have e10 := BlkT.cell s0 10
      simp only [List.getElem?_toArray, List.getElem?_cons_zero, List.getElem?_cons_succ] at e0 e1 e2 e3 e4 e5 e6 e7 e8 e9 e10
      go_simp
      try with_reducible rfl
    try simp only [Act.put, List.setIfInBounds_toArray, List.set_cons_zero, List.set_cons_succ, List.getElem_toArray, List.getElem_cons_zero, List.getElem_cons_succ]
    refine wpAnyH_ready (rs := [2]) (by kernel_rfl) (by simp) ?_
    refine AllReadyH.cons rfl (fun K hK => ?_) AllReadyH.nil
    go_simp
    refine (HMB.out _ (Below.refl _ X).drew).mono ?_
    rintro r W1 ⟨Y1, Y2, m1, m2, rfl, hm1, hm2, hY1, hY2, hbY'⟩
    have hb1 : Below X.heap.size X W1 := (Below.refl _ X).drew.trans hbY'
    have HY := Lib.hid (And.intro (kidsS_u (B := W1.heap.size) hY1 (fun b h => h.2)) (kidsS_u (B := W1.heap.size) hY2 (fun b h => h.2)))
    go_wp2_with fail
    refine hK.out _ _ (by exact ⟨HS0.out.below hb1, HB0.out.below hb1, hb1⟩) (fun hHeld => ?_)
    clear hK K
    try simp only [Act.put, List.setIfInBounds_toArray, List.set_cons_zero, List.set_cons_succ, List.getElem_toArray, List.getElem_cons_zero, List.getElem_cons_succ]
    refine wpAnyH_ready (rs := [3]) (by kernel_rfl) (by simp) ?_
    refine AllReadyH.cons rfl (fun K hK => ?_) AllReadyH.nil
    go_simp
    refine ((HSM.out _ Y1 Y2 m1 m2 hb1 HY.out.1 HY.out.2 hm1 hm2).1).mono ?_
    rintro r W2 ⟨rfl, hbZ⟩
    have hb2 : Below X.heap.size X W2 := hb1.trans (hbZ.mono hb1.size)
    go_wp2_with fail
    refine hK.out _ _ (by exact ⟨HS0.out.below hb2, HB0.out.below hb2, hb2⟩) (fun hHeld => ?_)
    clear hK K
    try simp only [Act.put, List.setIfInBounds_toArray, List.set_cons_zero, List.set_cons_succ, List.getElem_toArray, List.getElem_cons_zero, List.getElem_cons_succ]
    refine wpAnyH_take (i := 4) (v := ?valF4T3) rfl (by kernel_rfl) (by kernel_rfl) (by kernel_rfl) (fun _ _ _ h => h) (Or.inl ⟨by rfl, ?yieF4T3⟩) (by assumption) ?resF4T3
    case yieF4T3 =>
      intro w hSw
      try dsimp only at hSw
      go_simp
      try with_reducible rfl
    try simp only [Act.put, List.setIfInBounds_toArray, List.set_cons_zero, List.set_cons_succ, List.getElem_toArray, List.getElem_cons_zero, List.getElem_cons_succ]
    refine wpAnyH_take (i := 5) (v := ?valF5T4) rfl (by kernel_rfl) (by kernel_rfl) (by kernel_rfl) (fun _ _ _ h => h) (Or.inl ⟨by rfl, ?yieF5T4⟩) (by assumption) ?resF5T4
    case yieF5T4 =>
      intro w hSw
      try dsimp only at hSw
      go_simp
      try with_reducible rfl
    try simp only [Act.put, List.setIfInBounds_toArray, List.set_cons_zero, List.set_cons_succ, List.getElem_toArray, List.getElem_cons_zero, List.getElem_cons_succ]
    refine wpAnyH_take (i := 6) (v := ?valF6T5) rfl (by kernel_rfl) (by kernel_rfl) (by kernel_rfl) (fun _ _ _ h => h) (Or.inl ⟨by rfl, ?yieF6T5⟩) (by assumption) ?resF6T5
    case yieF6T5 =>
      intro w hSw
      try dsimp only at hSw
      obtain ⟨s0, s1, s2⟩ := hSw
      have e0 := BlkT.cell s0 0
      have e1 := BlkT.cell s0 1
      have e2 := BlkT.cell s0 2
      have e3 := BlkT.cell s0 3
      have e4 := BlkT.cell s0 4
      have e5 := BlkT.cell s0 5
      have e6 := BlkT.cell s0 6
      have e7 := BlkT.cell s0 7
      have e8 := BlkT.cell s0 8
      have e9 := BlkT.cell s0 9
      have e10 := BlkT.cell s0 10
      simp only [List.getElem?_toArray, List.getElem?_cons_zero, List.getElem?_cons_succ] at e0 e1 e2 e3 e4 e5 e6 e7 e8 e9 e10
      go_simp
      try with_reducible rfl
    try simp only [Act.put, List.setIfInBounds_toArray, List.set_cons_zero, List.set_cons_succ, List.getElem_toArray, List.getElem_cons_zero, List.getElem_cons_succ]
    refine wpAnyH_ready (rs := [7]) (by kernel_rfl) (by simp) ?_
    refine AllReadyH.cons rfl (fun K hK => ?_) AllReadyH.nil
    go_simp
    refine (HOK.out _ hb2).mono ?_
    rintro r W3 ⟨rfl, hbZ3⟩
    have hb3 : Below X.heap.size X W3 := hb2.trans (hbZ3.mono hb2.size)
    go_wp2_with fail
    refine hK.out _ _ (by exact ⟨HS0.out.below hb3, HB0.out.below hb3, hb3⟩) (fun hHeld => ?_)
    clear hK K
    try simp only [Act.put, List.setIfInBounds_toArray, List.set_cons_zero, List.set_cons_succ, List.getElem_toArray, List.getElem_cons_zero, List.getElem_cons_succ]
    refine wpAnyH_take (i := 8) (v := ?valF8T6) rfl (by kernel_rfl) (by kernel_rfl) (by kernel_rfl) (fun _ _ _ h => h) (Or.inl ⟨by rfl, ?yieF8T6⟩) (by assumption) ?resF8T6
    case yieF8T6 =>
      intro w hSw
      try dsimp only at hSw
      go_simp
      try with_reducible rfl
    try simp only [Act.put, List.setIfInBounds_toArray, List.set_cons_zero, List.set_cons_succ, List.getElem_toArray, List.getElem_cons_zero, List.getElem_cons_succ]
    refine wpAnyH_take (i := 9) (v := ?valF9T7) rfl (by kernel_rfl) (by kernel_rfl) (by kernel_rfl) (fun _ _ _ h => h) (Or.inl ⟨by rfl, ?yieF9T7⟩) (by assumption) ?resF9T7
    case yieF9T7 =>
      intro w hSw
      try dsimp only at hSw
      go_simp
      try with_reducible rfl
    try simp only [Act.put, List.setIfInBounds_toArray, List.set_cons_zero, List.set_cons_succ, List.getElem_toArray, List.getElem_cons_zero, List.getElem_cons_succ]
    refine wpAnyH_take (i := 10) (v := ?valF10T8) rfl (by kernel_rfl) (by kernel_rfl) (by kernel_rfl) (fun _ _ _ h => h) (Or.inl ⟨by rfl, ?yieF10T8⟩) (by assumption) ?resF10T8
    case yieF10T8 =>
      intro w hSw
      try dsimp only at hSw
      go_simp
      try with_reducible rfl
    try simp only [Act.put, List.setIfInBounds_toArray, List.set_cons_zero, List.set_cons_succ, List.getElem_toArray, List.getElem_cons_zero, List.getElem_cons_succ]
    refine wpAnyH_take (i := 11) (v := undef) rfl (by kernel_rfl) (by kernel_rfl) (by kernel_rfl) (fun _ _ _ h => h) (Or.inr ⟨by rfl, rfl⟩) (by assumption) ?_
    try simp only [Act.put, List.setIfInBounds_toArray, List.set_cons_zero, List.set_cons_succ, List.getElem_toArray, List.getElem_cons_zero, List.getElem_cons_succ]
    refine wpAnyH_take (i := 12) (v := undef) rfl (by kernel_rfl) (by kernel_rfl) (by kernel_rfl) (fun _ _ _ h => h) (Or.inr ⟨by rfl, rfl⟩) (by assumption) ?_
    try simp only [Act.put, List.setIfInBounds_toArray, List.set_cons_zero, List.set_cons_succ, List.getElem_toArray, List.getElem_cons_zero, List.getElem_cons_succ]
    refine wpAnyH_take (i := 13) (v := undef) rfl (by kernel_rfl) (by kernel_rfl) (by kernel_rfl) (fun _ _ _ h => h) (Or.inr ⟨by rfl, rfl⟩) (by assumption) ?_
    try simp only [Act.put, List.setIfInBounds_toArray, List.set_cons_zero, List.set_cons_succ, List.getElem_toArray, List.getElem_cons_zero, List.getElem_cons_succ]
    refine wpAnyH_take (i := 14) (v := ?valF14T9) rfl (by kernel_rfl) (by kernel_rfl) (by kernel_rfl) (fun _ _ _ h => h) (Or.inl ⟨by rfl, ?yieF14T9⟩) (by assumption) ?resF14T9
    case yieF14T9 =>
      intro w hSw
      try dsimp only at hSw
      go_simp
      try with_reducible rfl
    try simp only [Act.put, List.setIfInBounds_toArray, List.set_cons_zero, List.set_cons_succ, List.getElem_toArray, List.getElem_cons_zero, List.getElem_cons_succ]
    refine wpAnyH_done (by kernel_rfl) ?_ _
    refine NoPanic.normal ?_
    obtain ⟨V, hV⟩ : ∃ V, V = W3 := ⟨_, rfl⟩
    rw [← hV] at hb3 ⊢
    clear hV
    have HXV := Lib.hid hb3
    have HS1 := Lib.hid (HS0.out.below hb3)
    have HB1 := Lib.hid (HB0.out.below hb3)
    clear hb3 hb2 hb1 hbZ3 hbZ hbY'
    go_wp2_with fail
    refine wp_region_noPanic ?_
    refine wp_region_held_drew (S := (fun W => BlkT W w1.heap.size #[.int .i64 s.kind, .string s.name, .string s.typ, .int .i64 s.e.kind, .int .i64 s.e.n, .string s.e.s, .slice A1 s.e.kids.length c1, .int .i64 s.t.kind, .int .i64 s.t.n, .string s.t.s, .slice A2 s.t.kids.length c2] 35 ∧ BlkT W w3.heap.size #[.int .i64 x.kind, .string x.name, .int .i64 x.e.kind, .int .i64 x.e.n, .string x.e.s, .slice B1 x.e.kids.length d1, .int .i64 x.t.kind, .int .i64 x.t.n, .string x.t.s, .slice B2 x.t.kids.length d2] 52 ∧ Below V.heap.size V W)) (by kernel_rfl) (by exact ⟨HS1.out, HB1.out, (Below.refl _ V).drew⟩) (fun hHeld => ?_)
    refine wpAnyH_take (i := 0) (v := ?valF0T10) rfl (by kernel_rfl) (by kernel_rfl) (by kernel_rfl) (fun _ _ _ h => h) (Or.inl ⟨by rfl, ?yieF0T10⟩) (by assumption) ?resF0T10
    case yieF0T10 =>
      intro w hSw
      try dsimp only at hSw
      obtain ⟨s0, s1, s2⟩ := hSw
      have e0 := BlkT.cell s1 0
      have e1 := BlkT.cell s1 1
      have e2 := BlkT.cell s1 2
      have e3 := BlkT.cell s1 3
      have e4 := BlkT.cell s1 4
      have e5 := BlkT.cell s1 5
      have e6 := BlkT.cell s1 6
      have e7 := BlkT.cell s1 7
      have e8 := BlkT.cell s1 8
      have e9 := BlkT.cell s1 9
      simp only [List.getElem?_toArray, List.getElem?_cons_zero, List.getElem?_cons_succ] at e0 e1 e2 e3 e4 e5 e6 e7 e8 e9
      go_simp
      try with_reducible rfl
    try simp only [Act.put, List.setIfInBounds_toArray, List.set_cons_zero, List.set_cons_succ, List.getElem_toArray, List.getElem_cons_zero, List.getElem_cons_succ]
    refine wpAnyH_take (i := 1) (v := ?valF1T11) rfl (by kernel_rfl) (by kernel_rfl) (by kernel_rfl) (fun _ _ _ h => h) (Or.inl ⟨by rfl, ?yieF1T11⟩) (by assumption) ?resF1T11
    case yieF1T11 =>
      intro w hSw
      try dsimp only at hSw
      obtain ⟨s0, s1, s2⟩ := hSw
      have e0 := BlkT.cell s0 0
      have e1 := BlkT.cell s0 1
      have e2 := BlkT.cell s0 2
      have e3 := BlkT.cell s0 3
      have e4 := BlkT.cell s0 4
      have e5 := BlkT.cell s0 5
      have e6 := BlkT.cell s0 6
      have e7 := BlkT.cell s0 7
      have e8 := BlkT.cell s0 8
      have e9 := BlkT.cell s0 9
      have e10 := BlkT.cell s0 10
      simp only [List.getElem?_toArray, List.getElem?_cons_zero, List.getElem?_cons_succ] at e0 e1 e2 e3 e4 e5 e6 e7 e8 e9 e10
      go_simp
      try with_reducible rfl
    try simp only [Act.put, List.setIfInBounds_toArray, List.set_cons_zero, List.set_cons_succ, List.getElem_toArray, List.getElem_cons_zero, List.getElem_cons_succ]
    refine wpAnyH_ready (rs := [2]) (by kernel_rfl) (by simp) ?_
    refine AllReadyH.cons rfl (fun K hK => ?_) AllReadyH.nil
    go_simp
    refine (HMB.out _ (HXV.out.trans ((Below.refl _ V).drew.mono HXV.out.size))).mono ?_
    rintro r W1 ⟨Y1, Y2, m1, m2, rfl, hm1, hm2, hY1, hY2, hbY'⟩
    have hb1 : Below V.heap.size V W1 := (Below.refl _ V).drew.trans hbY'
    have HY := Lib.hid (And.intro (kidsS_u (B := W1.heap.size) hY1 (fun b h => h.2)) (kidsS_u (B := W1.heap.size) hY2 (fun b h => h.2)))
    go_wp2_with fail
    refine hK.out _ _ (by exact ⟨HS1.out.below hb1, HB1.out.below hb1, hb1⟩) (fun hHeld => ?_)
    clear hK K
    try simp only [Act.put, List.setIfInBounds_toArray, List.set_cons_zero, List.set_cons_succ, List.getElem_toArray, List.getElem_cons_zero, List.getElem_cons_succ]
    refine wpAnyH_ready (rs := [3]) (by kernel_rfl) (by simp) ?_
    refine AllReadyH.cons rfl (fun K hK => ?_) AllReadyH.nil
    go_simp
    refine ((HSM.out _ Y1 Y2 m1 m2 (HXV.out.trans (hb1.mono HXV.out.size)) HY.out.1 HY.out.2 hm1 hm2).1).mono ?_
    rintro r W2 ⟨rfl, hbZ⟩
    have hb2 : Below V.heap.size V W2 := hb1.trans (hbZ.mono hb1.size)
    go_wp2_with fail
    refine hK.out _ _ (by exact ⟨HS1.out.below hb2, HB1.out.below hb2, hb2⟩) (fun hHeld => ?_)
    clear hK K
    try simp only [Act.put, List.setIfInBounds_toArray, List.set_cons_zero, List.set_cons_succ, List.getElem_toArray, List.getElem_cons_zero, List.getElem_cons_succ]
    refine wpAnyH_take (i := 4) (v := ?valF4T12) rfl (by kernel_rfl) (by kernel_rfl) (by kernel_rfl) (fun _ _ _ h => h) (Or.inl ⟨by rfl, ?yieF4T12⟩) (by assumption) ?resF4T12
    case yieF4T12 =>
      intro w hSw
      try dsimp only at hSw
      go_simp
      try with_reducible rfl
    try simp only [Act.put, List.setIfInBounds_toArray, List.set_cons_zero, List.set_cons_succ, List.getElem_toArray, List.getElem_cons_zero, List.getElem_cons_succ]
    refine wpAnyH_done (by kernel_rfl) ?_ _
    refine NoPanic.normal ?_
    go_wp2_with fail
    go_ret
    exact ⟨rfl, HBW.out.trans ((HXV.out.trans (hb2.mono HXV.out.size)).mono HBW.out.size)⟩
  | some d =>
    rw [hd] at HOK
    simp only [Option.isSome_some] at HOK
    by_cases hkz : s.kind = 0
    · have qk : (s.kind == 0) = true := by simpa using hkz
      clear hd HKC HKS HLL HLN hkz
      refine wp_region_noPanic ?_
      refine wp_region_held_drew (S := (fun W => BlkT W w1.heap.size #[.int .i64 s.kind, .string s.name, .string s.typ, .int .i64 s.e.kind, .int .i64 s.e.n, .string s.e.s, .slice A1 s.e.kids.length c1, .int .i64 s.t.kind, .int .i64 s.t.n, .string s.t.s, .slice A2 s.t.kids.length c2] 35 ∧ BlkT W w3.heap.size #[.int .i64 x.kind, .string x.name, .int .i64 x.e.kind, .int .i64 x.e.n, .string x.e.s, .slice B1 x.e.kids.length d1, .int .i64 x.t.kind, .int .i64 x.t.n, .string x.t.s, .slice B2 x.t.kids.length d2] 52 ∧ Below X.heap.size X W)) (by kernel_rfl) (by exact ⟨HS0.out, HB0.out, (Below.refl _ X).drew⟩) (fun hHeld => ?_)
      refine wpAnyH_take (i := 0) (v := ?valF0T13) rfl (by kernel_rfl) (by kernel_rfl) (by kernel_rfl) (fun _ _ _ h => h) (Or.inl ⟨by rfl, ?yieF0T13⟩) (by assumption) ?resF0T13
      case yieF0T13 =>
        intro w hSw
        try dsimp only at hSw
        obtain ⟨s0, s1, s2⟩ := hSw
        have e0 := BlkT.cell s1 0
        have e1 := BlkT.cell s1 1
        have e2 := BlkT.cell s1 2
        have e3 := BlkT.cell s1 3
        have e4 := BlkT.cell s1 4
        have e5 := BlkT.cell s1 5
        have e6 := BlkT.cell s1 6
        have e7 := BlkT.cell s1 7
        have e8 := BlkT.cell s1 8
        have e9 := BlkT.cell s1 9
        simp only [List.getElem?_toArray, List.getElem?_cons_zero, List.getElem?_cons_succ] at e0 e1 e2 e3 e4 e5 e6 e7 e8 e9
        go_simp
        try with_reducible rfl
      try simp only [Act.put, List.setIfInBounds_toArray, List.set_cons_zero, List.set_cons_succ, List.getElem_toArray, List.getElem_cons_zero, List.getElem_cons_succ]
      refine wpAnyH_take (i := 1) (v := ?valF1T14) rfl (by kernel_rfl) (by kernel_rfl) (by kernel_rfl) (fun _ _ _ h => h) (Or.inl ⟨by rfl, ?yieF1T14⟩) (by assumption) ?resF1T14
      case yieF1T14 =>
        intro w hSw
        try dsimp only at hSw
        obtain ⟨s0, s1, s2⟩ := hSw
        have e0 := BlkT.cell s0 0
        have e1 := BlkT.cell s0 1
        have e2 := BlkT.cell s0 2
        have e3 := BlkT.cell s0 3
        have e4 := BlkT.cell s0 4
        have e5 := BlkT.cell s0 5
        have e6 := BlkT.cell s0 6
        have e7 := BlkT.cell s0 7
        have e8 := BlkT.cell s0 8
        have e9 := BlkT.cell s0 9
        have e10 := BlkT.cell s0 10
        simp only [List.getElem?_toArray, List.getElem?_cons_zero, List.getElem?_cons_succ] at e0 e1 e2 e3 e4 e5 e6 e7 e8 e9 e10
        go_simp
        try with_reducible rfl
      try simp only [Act.put, List.setIfInBounds_toArray, List.set_cons_zero, List.set_cons_succ, List.getElem_toArray, List.getElem_cons_zero, List.getElem_cons_succ]
      refine wpAnyH_ready (rs := [2]) (by kernel_rfl) (by simp) ?_
      refine AllReadyH.cons rfl (fun K hK => ?_) AllReadyH.nil
      go_simp
      refine (HMB.out _ (Below.refl _ X).drew).mono ?_
      rintro r W1 ⟨Y1, Y2, m1, m2, rfl, hm1, hm2, hY1, hY2, hbY'⟩
      have hb1 : Below X.heap.size X W1 := (Below.refl _ X).drew.trans hbY'
      have HY := Lib.hid (And.intro (kidsS_u (B := W1.heap.size) hY1 (fun b h => h.2)) (kidsS_u (B := W1.heap.size) hY2 (fun b h => h.2)))
      go_wp2_with fail
      refine hK.out _ _ (by exact ⟨HS0.out.below hb1, HB0.out.below hb1, hb1⟩) (fun hHeld => ?_)
      clear hK K
      try simp only [Act.put, List.setIfInBounds_toArray, List.set_cons_zero, List.set_cons_succ, List.getElem_toArray, List.getElem_cons_zero, List.getElem_cons_succ]
      refine wpAnyH_ready (rs := [3]) (by kernel_rfl) (by simp) ?_
      refine AllReadyH.cons rfl (fun K hK => ?_) AllReadyH.nil
      go_simp
      refine ((HSM.out _ Y1 Y2 m1 m2 hb1 HY.out.1 HY.out.2 hm1 hm2).1).mono ?_
      rintro r W2 ⟨rfl, hbZ⟩
      have hb2 : Below X.heap.size X W2 := hb1.trans (hbZ.mono hb1.size)
      go_wp2_with fail
      refine hK.out _ _ (by exact ⟨HS0.out.below hb2, HB0.out.below hb2, hb2⟩) (fun hHeld => ?_)
      clear hK K
      try simp only [Act.put, List.setIfInBounds_toArray, List.set_cons_zero, List.set_cons_succ, List.getElem_toArray, List.getElem_cons_zero, List.getElem_cons_succ]
      refine wpAnyH_take (i := 4) (v := ?valF4T15) rfl (by kernel_rfl) (by kernel_rfl) (by kernel_rfl) (fun _ _ _ h => h) (Or.inl ⟨by rfl, ?yieF4T15⟩) (by assumption) ?resF4T15
      case yieF4T15 =>
        intro w hSw
        try dsimp only at hSw
        go_simp
        try with_reducible rfl
      try simp only [Act.put, List.setIfInBounds_toArray, List.set_cons_zero, List.set_cons_succ, List.getElem_toArray, List.getElem_cons_zero, List.getElem_cons_succ]
      refine wpAnyH_take (i := 5) (v := ?valF5T16) rfl (by kernel_rfl) (by kernel_rfl) (by kernel_rfl) (fun _ _ _ h => h) (Or.inl ⟨by rfl, ?yieF5T16⟩) (by assumption) ?resF5T16
      case yieF5T16 =>
        intro w hSw
        try dsimp only at hSw
        go_simp
        try with_reducible rfl
      try simp only [Act.put, List.setIfInBounds_toArray, List.set_cons_zero, List.set_cons_succ, List.getElem_toArray, List.getElem_cons_zero, List.getElem_cons_succ]
      refine wpAnyH_take (i := 6) (v := ?valF6T17) rfl (by kernel_rfl) (by kernel_rfl) (by kernel_rfl) (fun _ _ _ h => h) (Or.inl ⟨by rfl, ?yieF6T17⟩) (by assumption) ?resF6T17
      case yieF6T17 =>
        intro w hSw
        try dsimp only at hSw
        obtain ⟨s0, s1, s2⟩ := hSw
        have e0 := BlkT.cell s0 0
        have e1 := BlkT.cell s0 1
        have e2 := BlkT.cell s0 2
        have e3 := BlkT.cell s0 3
        have e4 := BlkT.cell s0 4
        have e5 := BlkT.cell s0 5
        have e6 := BlkT.cell s0 6
        have e7 := BlkT.cell s0 7
        have e8 := BlkT.cell s0 8
        have e9 := BlkT.cell s0 9
        have e10 := BlkT.cell s0 10
        simp only [List.getElem?_toArray, List.getElem?_cons_zero, List.getElem?_cons_succ] at e0 e1 e2 e3 e4 e5 e6 e7 e8 e9 e10
        go_simp
        try with_reducible rfl
      try simp only [Act.put, List.setIfInBounds_toArray, List.set_cons_zero, List.set_cons_succ, List.getElem_toArray, List.getElem_cons_zero, List.getElem_cons_succ]
      refine wpAnyH_ready (rs := [7]) (by kernel_rfl) (by simp) ?_
      refine AllReadyH.cons rfl (fun K hK => ?_) AllReadyH.nil
      go_simp
      refine (HOK.out _ hb2).mono ?_
      rintro r W3 ⟨rfl, hbZ3⟩
      have hb3 : Below X.heap.size X W3 := hb2.trans (hbZ3.mono hb2.size)
      go_wp2_with fail
      refine hK.out _ _ (by exact ⟨HS0.out.below hb3, HB0.out.below hb3, hb3⟩) (fun hHeld => ?_)
      clear hK K
      try simp only [Act.put, List.setIfInBounds_toArray, List.set_cons_zero, List.set_cons_succ, List.getElem_toArray, List.getElem_cons_zero, List.getElem_cons_succ]
      refine wpAnyH_take (i := 8) (v := ?valF8T18) rfl (by kernel_rfl) (by kernel_rfl) (by kernel_rfl) (fun _ _ _ h => h) (Or.inl ⟨by rfl, ?yieF8T18⟩) (by assumption) ?resF8T18
      case yieF8T18 =>
        intro w hSw
        try dsimp only at hSw
        go_simp
        try with_reducible rfl
      try simp only [Act.put, List.setIfInBounds_toArray, List.set_cons_zero, List.set_cons_succ, List.getElem_toArray, List.getElem_cons_zero, List.getElem_cons_succ]
      refine wpAnyH_take (i := 9) (v := ?valF9T19) rfl (by kernel_rfl) (by kernel_rfl) (by kernel_rfl) (fun _ _ _ h => h) (Or.inl ⟨by rfl, ?yieF9T19⟩) (by assumption) ?resF9T19
      case yieF9T19 =>
        intro w hSw
        try dsimp only at hSw
        go_simp
        try with_reducible rfl
      try simp only [Act.put, List.setIfInBounds_toArray, List.set_cons_zero, List.set_cons_succ, List.getElem_toArray, List.getElem_cons_zero, List.getElem_cons_succ]
      refine wpAnyH_take (i := 10) (v := ?valF10T20) rfl (by kernel_rfl) (by kernel_rfl) (by kernel_rfl) (fun _ _ _ h => h) (Or.inl ⟨by rfl, ?yieF10T20⟩) (by assumption) ?resF10T20
      case yieF10T20 =>
        intro w hSw
        try dsimp only at hSw
        go_simp
        try with_reducible rfl
      try simp only [Act.put, List.setIfInBounds_toArray, List.set_cons_zero, List.set_cons_succ, List.getElem_toArray, List.getElem_cons_zero, List.getElem_cons_succ]
      refine wpAnyH_take (i := 11) (v := ?valF11T21) rfl (by kernel_rfl) (by kernel_rfl) (by kernel_rfl) (fun _ _ _ h => h) (Or.inl ⟨by rfl, ?yieF11T21⟩) (by assumption) ?resF11T21
      case yieF11T21 =>
        intro w hSw
        try dsimp only at hSw
        go_simp
        try with_reducible rfl
      try simp only [Act.put, List.setIfInBounds_toArray, List.set_cons_zero, List.set_cons_succ, List.getElem_toArray, List.getElem_cons_zero, List.getElem_cons_succ]
      refine wpAnyH_take (i := 12) (v := ?valF12T22) rfl (by kernel_rfl) (by kernel_rfl) (by kernel_rfl) (fun _ _ _ h => h) (Or.inl ⟨by rfl, ?yieF12T22⟩) (by assumption) ?resF12T22
      case yieF12T22 =>
        intro w hSw
        try dsimp only at hSw
        obtain ⟨s0, s1, s2⟩ := hSw
        have e0 := BlkT.cell s0 0
        have e1 := BlkT.cell s0 1
        have e2 := BlkT.cell s0 2
        have e3 := BlkT.cell s0 3
        have e4 := BlkT.cell s0 4
        have e5 := BlkT.cell s0 5
        have e6 := BlkT.cell s0 6
        have e7 := BlkT.cell s0 7
        have e8 := BlkT.cell s0 8
        have e9 := BlkT.cell s0 9
        have e10 := BlkT.cell s0 10
        simp only [List.getElem?_toArray, List.getElem?_cons_zero, List.getElem?_cons_succ] at e0 e1 e2 e3 e4 e5 e6 e7 e8 e9 e10
        go_simp
        try with_reducible rfl
      try simp only [Act.put, List.setIfInBounds_toArray, List.set_cons_zero, List.set_cons_succ, List.getElem_toArray, List.getElem_cons_zero, List.getElem_cons_succ]
      refine wpAnyH_take (i := 13) (v := ?valF13T23) rfl (by kernel_rfl) (by kernel_rfl) (by kernel_rfl) (fun _ _ _ h => h) (Or.inl ⟨by rfl, ?yieF13T23⟩) (by assumption) ?resF13T23
      case yieF13T23 =>
        intro w hSw
        try dsimp only at hSw
        go_simp
        try with_reducible rfl
      try simp only [Act.put, List.setIfInBounds_toArray, List.set_cons_zero, List.set_cons_succ, List.getElem_toArray, List.getElem_cons_zero, List.getElem_cons_succ]
      refine wpAnyH_take (i := 14) (v := ?valF14T24) rfl (by kernel_rfl) (by kernel_rfl) (by kernel_rfl) (fun _ _ _ h => h) (Or.inl ⟨by rfl, ?yieF14T24⟩) (by assumption) ?resF14T24
      case yieF14T24 =>
        intro w hSw
        try dsimp only at hSw
        go_simp
        try with_reducible rfl
      try simp only [Act.put, List.setIfInBounds_toArray, List.set_cons_zero, List.set_cons_succ, List.getElem_toArray, List.getElem_cons_zero, List.getElem_cons_succ]
      refine wpAnyH_done (by kernel_rfl) ?_ _
      refine NoPanic.normal ?_
      obtain ⟨V, hV⟩ : ∃ V, V = W3 := ⟨_, rfl⟩
      rw [← hV] at hb3 ⊢
      clear hV
      have HXV := Lib.hid hb3
      have HS1 := Lib.hid (HS0.out.below hb3)
      have HB1 := Lib.hid (HB0.out.below hb3)
      clear hb3 hb2 hb1 hbZ3 hbZ hbY'
      go_wp2_with fail
      refine wp_region_noPanic ?_
      refine wp_region_held_drew (S := (fun W => BlkT W w1.heap.size #[.int .i64 s.kind, .string s.name, .string s.typ, .int .i64 s.e.kind, .int .i64 s.e.n, .string s.e.s, .slice A1 s.e.kids.length c1, .int .i64 s.t.kind, .int .i64 s.t.n, .string s.t.s, .slice A2 s.t.kids.length c2] 35 ∧ BlkT W w3.heap.size #[.int .i64 x.kind, .string x.name, .int .i64 x.e.kind, .int .i64 x.e.n, .string x.e.s, .slice B1 x.e.kids.length d1, .int .i64 x.t.kind, .int .i64 x.t.n, .string x.t.s, .slice B2 x.t.kids.length d2] 52 ∧ Below V.heap.size V W)) (by kernel_rfl) (by exact ⟨HS1.out, HB1.out, (Below.refl _ V).drew⟩) (fun hHeld => ?_)
      refine wpAnyH_take (i := 0) (v := ?valF0T25) rfl (by kernel_rfl) (by kernel_rfl) (by kernel_rfl) (fun _ _ _ h => h) (Or.inl ⟨by rfl, ?yieF0T25⟩) (by assumption) ?resF0T25
      case yieF0T25 =>
        intro w hSw
        try dsimp only at hSw
        obtain ⟨s0, s1, s2⟩ := hSw
        have e0 := BlkT.cell s1 0
        have e1 := BlkT.cell s1 1
        have e2 := BlkT.cell s1 2
        have e3 := BlkT.cell s1 3
        have e4 := BlkT.cell s1 4
        have e5 := BlkT.cell s1 5
        have e6 := BlkT.cell s1 6
        have e7 := BlkT.cell s1 7
        have e8 := BlkT.cell s1 8
        have e9 := BlkT.cell s1 9
        simp only [List.getElem?_toArray, List.getElem?_cons_zero, List.getElem?_cons_succ] at e0 e1 e2 e3 e4 e5 e6 e7 e8 e9
        go_simp
        try with_reducible rfl
      try simp only [Act.put, List.setIfInBounds_toArray, List.set_cons_zero, List.set_cons_succ, List.getElem_toArray, List.getElem_cons_zero, List.getElem_cons_succ]
      refine wpAnyH_take (i := 1) (v := ?valF1T26) rfl (by kernel_rfl) (by kernel_rfl) (by kernel_rfl) (fun _ _ _ h => h) (Or.inl ⟨by rfl, ?yieF1T26⟩) (by assumption) ?resF1T26
      case yieF1T26 =>
        intro w hSw
        try dsimp only at hSw
        obtain ⟨s0, s1, s2⟩ := hSw
        have e0 := BlkT.cell s0 0
        have e1 := BlkT.cell s0 1
        have e2 := BlkT.cell s0 2
        have e3 := BlkT.cell s0 3
        have e4 := BlkT.cell s0 4
        have e5 := BlkT.cell s0 5
        have e6 := BlkT.cell s0 6
        have e7 := BlkT.cell s0 7
        have e8 := BlkT.cell s0 8
        have e9 := BlkT.cell s0 9
        have e10 := BlkT.cell s0 10
        simp only [List.getElem?_toArray, List.getElem?_cons_zero, List.getElem?_cons_succ] at e0 e1 e2 e3 e4 e5 e6 e7 e8 e9 e10
        go_simp
        try with_reducible rfl
      try simp only [Act.put, List.setIfInBounds_toArray, List.set_cons_zero, List.set_cons_succ, List.getElem_toArray, List.getElem_cons_zero, List.getElem_cons_succ]
      refine wpAnyH_ready (rs := [2]) (by kernel_rfl) (by simp) ?_
      refine AllReadyH.cons rfl (fun K hK => ?_) AllReadyH.nil
      go_simp
      refine (HMB.out _ (HXV.out.trans ((Below.refl _ V).drew.mono HXV.out.size))).mono ?_
      rintro r W1 ⟨Y1, Y2, m1, m2, rfl, hm1, hm2, hY1, hY2, hbY'⟩
      have hb1 : Below V.heap.size V W1 := (Below.refl _ V).drew.trans hbY'
      have HY := Lib.hid (And.intro (kidsS_u (B := W1.heap.size) hY1 (fun b h => h.2)) (kidsS_u (B := W1.heap.size) hY2 (fun b h => h.2)))
      go_wp2_with fail
      refine hK.out _ _ (by exact ⟨HS1.out.below hb1, HB1.out.below hb1, hb1⟩) (fun hHeld => ?_)
      clear hK K
      try simp only [Act.put, List.setIfInBounds_toArray, List.set_cons_zero, List.set_cons_succ, List.getElem_toArray, List.getElem_cons_zero, List.getElem_cons_succ]
      refine wpAnyH_ready (rs := [3]) (by kernel_rfl) (by simp) ?_
      refine AllReadyH.cons rfl (fun K hK => ?_) AllReadyH.nil
      go_simp
      refine ((HSM.out _ Y1 Y2 m1 m2 (HXV.out.trans (hb1.mono HXV.out.size)) HY.out.1 HY.out.2 hm1 hm2).1).mono ?_
      rintro r W2 ⟨rfl, hbZ⟩
      have hb2 : Below V.heap.size V W2 := hb1.trans (hbZ.mono hb1.size)
      go_wp2_with fail
      refine hK.out _ _ (by exact ⟨HS1.out.below hb2, HB1.out.below hb2, hb2⟩) (fun hHeld => ?_)
      clear hK K
      try simp only [Act.put, List.setIfInBounds_toArray, List.set_cons_zero, List.set_cons_succ, List.getElem_toArray, List.getElem_cons_zero, List.getElem_cons_succ]
      refine wpAnyH_take (i := 4) (v := ?valF4T27) rfl (by kernel_rfl) (by kernel_rfl) (by kernel_rfl) (fun _ _ _ h => h) (Or.inl ⟨by rfl, ?yieF4T27⟩) (by assumption) ?resF4T27
      case yieF4T27 =>
        intro w hSw
        try dsimp only at hSw
        go_simp
        try with_reducible rfl
      try simp only [Act.put, List.setIfInBounds_toArray, List.set_cons_zero, List.set_cons_succ, List.getElem_toArray, List.getElem_cons_zero, List.getElem_cons_succ]
      refine wpAnyH_done (by kernel_rfl) ?_ _
      refine NoPanic.normal ?_
      go_wp2_with fail
      go_ret
      exact ⟨rfl, HBW.out.trans ((HXV.out.trans (hb2.mono HXV.out.size)).mono HBW.out.size)⟩
    · have qk : (s.kind == 0) = false := by simpa using hkz
      refine wp_region_noPanic ?_
      refine wp_region_held_drew (S := (fun W => BlkT W w1.heap.size #[.int .i64 s.kind, .string s.name, .string s.typ, .int .i64 s.e.kind, .int .i64 s.e.n, .string s.e.s, .slice A1 s.e.kids.length c1, .int .i64 s.t.kind, .int .i64 s.t.n, .string s.t.s, .slice A2 s.t.kids.length c2] 35 ∧ BlkT W w3.heap.size #[.int .i64 x.kind, .string x.name, .int .i64 x.e.kind, .int .i64 x.e.n, .string x.e.s, .slice B1 x.e.kids.length d1, .int .i64 x.t.kind, .int .i64 x.t.n, .string x.t.s, .slice B2 x.t.kids.length d2] 52 ∧ Below X.heap.size X W)) (by kernel_rfl) (by exact ⟨HS0.out, HB0.out, (Below.refl _ X).drew⟩) (fun hHeld => ?_)
      refine wpAnyH_take (i := 0) (v := ?valF0T28) rfl (by kernel_rfl) (by kernel_rfl) (by kernel_rfl) (fun _ _ _ h => h) (Or.inl ⟨by rfl, ?yieF0T28⟩) (by assumption) ?resF0T28
      case yieF0T28 =>
        intro w hSw
        try dsimp only at hSw
        obtain ⟨s0, s1, s2⟩ := hSw
        have e0 := BlkT.cell s1 0
        have e1 := BlkT.cell s1 1
        have e2 := BlkT.cell s1 2
        have e3 := BlkT.cell s1 3
        have e4 := BlkT.cell s1 4
        have e5 := BlkT.cell s1 5
        have e6 := BlkT.cell s1 6
        have e7 := BlkT.cell s1 7
        have e8 := BlkT.cell s1 8
        have e9 := BlkT.cell s1 9
        simp only [List.getElem?_toArray, List.getElem?_cons_zero, List.getElem?_cons_succ] at e0 e1 e2 e3 e4 e5 e6 e7 e8 e9
        go_simp
        try with_reducible rfl
      try simp only [Act.put, List.setIfInBounds_toArray, List.set_cons_zero, List.set_cons_succ, List.getElem_toArray, List.getElem_cons_zero, List.getElem_cons_succ]
      refine wpAnyH_take (i := 1) (v := ?valF1T29) rfl (by kernel_rfl) (by kernel_rfl) (by kernel_rfl) (fun _ _ _ h => h) (Or.inl ⟨by rfl, ?yieF1T29⟩) (by assumption) ?resF1T29
      case yieF1T29 =>
        intro w hSw
        try dsimp only at hSw
        obtain ⟨s0, s1, s2⟩ := hSw
        have e0 := BlkT.cell s0 0
        have e1 := BlkT.cell s0 1
        have e2 := BlkT.cell s0 2
        have e3 := BlkT.cell s0 3
        have e4 := BlkT.cell s0 4
        have e5 := BlkT.cell s0 5
        have e6 := BlkT.cell s0 6
        have e7 := BlkT.cell s0 7
        have e8 := BlkT.cell s0 8
        have e9 := BlkT.cell s0 9
        have e10 := BlkT.cell s0 10
        simp only [List.getElem?_toArray, List.getElem?_cons_zero, List.getElem?_cons_succ] at e0 e1 e2 e3 e4 e5 e6 e7 e8 e9 e10
        go_simp
        try with_reducible rfl
      try simp only [Act.put, List.setIfInBounds_toArray, List.set_cons_zero, List.set_cons_succ, List.getElem_toArray, List.getElem_cons_zero, List.getElem_cons_succ]
      refine wpAnyH_ready (rs := [2]) (by kernel_rfl) (by simp) ?_
      refine AllReadyH.cons rfl (fun K hK => ?_) AllReadyH.nil
      go_simp
      refine (HMB.out _ (Below.refl _ X).drew).mono ?_
      rintro r W1 ⟨Y1, Y2, m1, m2, rfl, hm1, hm2, hY1, hY2, hbY'⟩
      have hb1 : Below X.heap.size X W1 := (Below.refl _ X).drew.trans hbY'
      have HY := Lib.hid (And.intro (kidsS_u (B := W1.heap.size) hY1 (fun b h => h.2)) (kidsS_u (B := W1.heap.size) hY2 (fun b h => h.2)))
      go_wp2_with fail
      refine hK.out _ _ (by exact ⟨HS0.out.below hb1, HB0.out.below hb1, hb1⟩) (fun hHeld => ?_)
      clear hK K
      try simp only [Act.put, List.setIfInBounds_toArray, List.set_cons_zero, List.set_cons_succ, List.getElem_toArray, List.getElem_cons_zero, List.getElem_cons_succ]
      refine wpAnyH_ready (rs := [3]) (by kernel_rfl) (by simp) ?_
      refine AllReadyH.cons rfl (fun K hK => ?_) AllReadyH.nil
      go_simp
      refine ((HSM.out _ Y1 Y2 m1 m2 hb1 HY.out.1 HY.out.2 hm1 hm2).1).mono ?_
      rintro r W2 ⟨rfl, hbZ⟩
      have hb2 : Below X.heap.size X W2 := hb1.trans (hbZ.mono hb1.size)
      go_wp2_with fail
      refine hK.out _ _ (by exact ⟨HS0.out.below hb2, HB0.out.below hb2, hb2⟩) (fun hHeld => ?_)
      clear hK K
      try simp only [Act.put, List.setIfInBounds_toArray, List.set_cons_zero, List.set_cons_succ, List.getElem_toArray, List.getElem_cons_zero, List.getElem_cons_succ]
      refine wpAnyH_take (i := 4) (v := ?valF4T30) rfl (by kernel_rfl) (by kernel_rfl) (by kernel_rfl) (fun _ _ _ h => h) (Or.inl ⟨by rfl, ?yieF4T30⟩) (by assumption) ?resF4T30
      case yieF4T30 =>
        intro w hSw
        try dsimp only at hSw
        go_simp
        try with_reducible rfl
      try simp only [Act.put, List.setIfInBounds_toArray, List.set_cons_zero, List.set_cons_succ, List.getElem_toArray, List.getElem_cons_zero, List.getElem_cons_succ]
      refine wpAnyH_take (i := 5) (v := ?valF5T31) rfl (by kernel_rfl) (by kernel_rfl) (by kernel_rfl) (fun _ _ _ h => h) (Or.inl ⟨by rfl, ?yieF5T31⟩) (by assumption) ?resF5T31
      case yieF5T31 =>
        intro w hSw
        try dsimp only at hSw
        go_simp
        try with_reducible rfl
      try simp only [Act.put, List.setIfInBounds_toArray, List.set_cons_zero, List.set_cons_succ, List.getElem_toArray, List.getElem_cons_zero, List.getElem_cons_succ]
      refine wpAnyH_take (i := 6) (v := ?valF6T32) rfl (by kernel_rfl) (by kernel_rfl) (by kernel_rfl) (fun _ _ _ h => h) (Or.inl ⟨by rfl, ?yieF6T32⟩) (by assumption) ?resF6T32
      case yieF6T32 =>
        intro w hSw
        try dsimp only at hSw
        obtain ⟨s0, s1, s2⟩ := hSw
        have e0 := BlkT.cell s0 0
        have e1 := BlkT.cell s0 1
        have e2 := BlkT.cell s0 2
        have e3 := BlkT.cell s0 3
        have e4 := BlkT.cell s0 4
        have e5 := BlkT.cell s0 5
        have e6 := BlkT.cell s0 6
        have e7 := BlkT.cell s0 7
        have e8 := BlkT.cell s0 8
        have e9 := BlkT.cell s0 9
        have e10 := BlkT.cell s0 10
        simp only [List.getElem?_toArray, List.getElem?_cons_zero, List.getElem?_cons_succ] at e0 e1 e2 e3 e4 e5 e6 e7 e8 e9 e10
        go_simp
        try with_reducible rfl
      try simp only [Act.put, List.setIfInBounds_toArray, List.set_cons_zero, List.set_cons_succ, List.getElem_toArray, List.getElem_cons_zero, List.getElem_cons_succ]
      refine wpAnyH_ready (rs := [7]) (by kernel_rfl) (by simp) ?_
      refine AllReadyH.cons rfl (fun K hK => ?_) AllReadyH.nil
      go_simp
      refine (HOK.out _ hb2).mono ?_
      rintro r W3 ⟨rfl, hbZ3⟩
      have hb3 : Below X.heap.size X W3 := hb2.trans (hbZ3.mono hb2.size)
      go_wp2_with fail
      refine hK.out _ _ (by exact ⟨HS0.out.below hb3, HB0.out.below hb3, hb3⟩) (fun hHeld => ?_)
      clear hK K
      try simp only [Act.put, List.setIfInBounds_toArray, List.set_cons_zero, List.set_cons_succ, List.getElem_toArray, List.getElem_cons_zero, List.getElem_cons_succ]
      refine wpAnyH_take (i := 8) (v := ?valF8T33) rfl (by kernel_rfl) (by kernel_rfl) (by kernel_rfl) (fun _ _ _ h => h) (Or.inl ⟨by rfl, ?yieF8T33⟩) (by assumption) ?resF8T33
      case yieF8T33 =>
        intro w hSw
        try dsimp only at hSw
        go_simp
        try with_reducible rfl
      try simp only [Act.put, List.setIfInBounds_toArray, List.set_cons_zero, List.set_cons_succ, List.getElem_toArray, List.getElem_cons_zero, List.getElem_cons_succ]
      refine wpAnyH_take (i := 9) (v := ?valF9T34) rfl (by kernel_rfl) (by kernel_rfl) (by kernel_rfl) (fun _ _ _ h => h) (Or.inl ⟨by rfl, ?yieF9T34⟩) (by assumption) ?resF9T34
      case yieF9T34 =>
        intro w hSw
        try dsimp only at hSw
        go_simp
        try with_reducible rfl
      try simp only [Act.put, List.setIfInBounds_toArray, List.set_cons_zero, List.set_cons_succ, List.getElem_toArray, List.getElem_cons_zero, List.getElem_cons_succ]
      refine wpAnyH_take (i := 10) (v := ?valF10T35) rfl (by kernel_rfl) (by kernel_rfl) (by kernel_rfl) (fun _ _ _ h => h) (Or.inl ⟨by rfl, ?yieF10T35⟩) (by assumption) ?resF10T35
      case yieF10T35 =>
        intro w hSw
        try dsimp only at hSw
        go_simp
        try with_reducible rfl
      try simp only [Act.put, List.setIfInBounds_toArray, List.set_cons_zero, List.set_cons_succ, List.getElem_toArray, List.getElem_cons_zero, List.getElem_cons_succ]
      refine wpAnyH_take (i := 11) (v := ?valF11T36) rfl (by kernel_rfl) (by kernel_rfl) (by kernel_rfl) (fun _ _ _ h => h) (Or.inl ⟨by rfl, ?yieF11T36⟩) (by assumption) ?resF11T36
      case yieF11T36 =>
        intro w hSw
        try dsimp only at hSw
        go_simp
        try with_reducible rfl
      try simp only [Act.put, List.setIfInBounds_toArray, List.set_cons_zero, List.set_cons_succ, List.getElem_toArray, List.getElem_cons_zero, List.getElem_cons_succ]
      refine wpAnyH_take (i := 12) (v := ?valF12T37) rfl (by kernel_rfl) (by kernel_rfl) (by kernel_rfl) (fun _ _ _ h => h) (Or.inl ⟨by rfl, ?yieF12T37⟩) (by assumption) ?resF12T37
      case yieF12T37 =>
        intro w hSw
        try dsimp only at hSw
        obtain ⟨s0, s1, s2⟩ := hSw
        have e0 := BlkT.cell s0 0
        have e1 := BlkT.cell s0 1
        have e2 := BlkT.cell s0 2
        have e3 := BlkT.cell s0 3
        have e4 := BlkT.cell s0 4
        have e5 := BlkT.cell s0 5
        have e6 := BlkT.cell s0 6
        have e7 := BlkT.cell s0 7
        have e8 := BlkT.cell s0 8
        have e9 := BlkT.cell s0 9
        have e10 := BlkT.cell s0 10
        simp only [List.getElem?_toArray, List.getElem?_cons_zero, List.getElem?_cons_succ] at e0 e1 e2 e3 e4 e5 e6 e7 e8 e9 e10
        go_simp
        try with_reducible rfl
      try simp only [Act.put, List.setIfInBounds_toArray, List.set_cons_zero, List.set_cons_succ, List.getElem_toArray, List.getElem_cons_zero, List.getElem_cons_succ]
      refine wpAnyH_take (i := 13) (v := ?valF13T38) rfl (by kernel_rfl) (by kernel_rfl) (by kernel_rfl) (fun _ _ _ h => h) (Or.inl ⟨by rfl, ?yieF13T38⟩) (by assumption) ?resF13T38
      case yieF13T38 =>
        intro w hSw
        try dsimp only at hSw
        go_simp
        try with_reducible rfl
      try simp only [Act.put, List.setIfInBounds_toArray, List.set_cons_zero, List.set_cons_succ, List.getElem_toArray, List.getElem_cons_zero, List.getElem_cons_succ]
      refine wpAnyH_take (i := 14) (v := ?valF14T39) rfl (by kernel_rfl) (by kernel_rfl) (by kernel_rfl) (fun _ _ _ h => h) (Or.inl ⟨by rfl, ?yieF14T39⟩) (by assumption) ?resF14T39
      case yieF14T39 =>
        intro w hSw
        try dsimp only at hSw
        go_simp
        try with_reducible rfl
      try simp only [Act.put, List.setIfInBounds_toArray, List.set_cons_zero, List.set_cons_succ, List.getElem_toArray, List.getElem_cons_zero, List.getElem_cons_succ]
      refine wpAnyH_done (by kernel_rfl) ?_ _
      refine NoPanic.normal ?_
      obtain ⟨V, hV⟩ : ∃ V, V = W3 := ⟨_, rfl⟩
      rw [← hV] at hb3 ⊢
      clear hV
      have HXV := Lib.hid hb3
      have HS1 := Lib.hid (HS0.out.below hb3)
      have HB1 := Lib.hid (HB0.out.below hb3)
      clear hb3 hb2 hb1 hbZ3 hbZ hbY'
      have b0 := BlkT.cell HS1.out 0
      have b1 := BlkT.cell HS1.out 1
      have b2 := BlkT.cell HS1.out 2
      have b3 := BlkT.cell HS1.out 3
      have b4 := BlkT.cell HS1.out 4
      have b5 := BlkT.cell HS1.out 5
      have b6 := BlkT.cell HS1.out 6
      have b7 := BlkT.cell HS1.out 7
      have b8 := BlkT.cell HS1.out 8
      have b9 := BlkT.cell HS1.out 9
      have b10 := BlkT.cell HS1.out 10
      simp only [List.getElem?_toArray, List.getElem?_cons_zero, List.getElem?_cons_succ] at b0 b1 b2 b3 b4 b5 b6 b7 b8 b9 b10
      have hlb : w1.heap.size < V.heap.size := HS1.out.lt
      have m0 := fun o => (cell_alloc (j := 0) (o := o) hlb).trans b0
      have n0 := fun o o' => (cell_alloc (w := V.alloc o) (j := 0) (o := o') (by rw [World.size_alloc]; omega)).trans (m0 o)
      have m1 := fun o => (cell_alloc (j := 1) (o := o) hlb).trans b1
      have n1 := fun o o' => (cell_alloc (w := V.alloc o) (j := 1) (o := o') (by rw [World.size_alloc]; omega)).trans (m1 o)
      have m2 := fun o => (cell_alloc (j := 2) (o := o) hlb).trans b2
      have n2 := fun o o' => (cell_alloc (w := V.alloc o) (j := 2) (o := o') (by rw [World.size_alloc]; omega)).trans (m2 o)
      have m3 := fun o => (cell_alloc (j := 3) (o := o) hlb).trans b3
      have n3 := fun o o' => (cell_alloc (w := V.alloc o) (j := 3) (o := o') (by rw [World.size_alloc]; omega)).trans (m3 o)
      have m4 := fun o => (cell_alloc (j := 4) (o := o) hlb).trans b4
      have n4 := fun o o' => (cell_alloc (w := V.alloc o) (j := 4) (o := o') (by rw [World.size_alloc]; omega)).trans (m4 o)
      have m5 := fun o => (cell_alloc (j := 5) (o := o) hlb).trans b5
      have n5 := fun o o' => (cell_alloc (w := V.alloc o) (j := 5) (o := o') (by rw [World.size_alloc]; omega)).trans (m5 o)
      have m6 := fun o => (cell_alloc (j := 6) (o := o) hlb).trans b6
      have n6 := fun o o' => (cell_alloc (w := V.alloc o) (j := 6) (o := o') (by rw [World.size_alloc]; omega)).trans (m6 o)
      have m7 := fun o => (cell_alloc (j := 7) (o := o) hlb).trans b7
      have n7 := fun o o' => (cell_alloc (w := V.alloc o) (j := 7) (o := o') (by rw [World.size_alloc]; omega)).trans (m7 o)
      have m8 := fun o => (cell_alloc (j := 8) (o := o) hlb).trans b8
      have n8 := fun o o' => (cell_alloc (w := V.alloc o) (j := 8) (o := o') (by rw [World.size_alloc]; omega)).trans (m8 o)
      have m9 := fun o => (cell_alloc (j := 9) (o := o) hlb).trans b9
      have n9 := fun o o' => (cell_alloc (w := V.alloc o) (j := 9) (o := o') (by rw [World.size_alloc]; omega)).trans (m9 o)
      have m10 := fun o => (cell_alloc (j := 10) (o := o) hlb).trans b10
      have n10 := fun o o' => (cell_alloc (w := V.alloc o) (j := 10) (o := o') (by rw [World.size_alloc]; omega)).trans (m10 o)
      have u0 := fun o o' o2 => (cell_alloc (w := (V.alloc o).alloc o') (j := 0) (o := o2) (by rw [World.size_alloc, World.size_alloc]; omega)).trans (n0 o o')
      by_cases hkl : s.kind = 1
      · have ql : (s.kind == 1) = true := by simpa using hkl
        have HRT := Lib.hid (show retypeS s = ⟨s.kind, s.name, sBoolL, s.e, s.t⟩ by unfold retypeS; rw [if_pos hkl])
        have HRW := Lib.hid (show (⟨s.kind, s.name, sBoolL, s.e, s.t⟩ : St).wt ≤ 6000 by have := hcw.2; rwa [HRT.out] at this)
        clear hkl
        obtain ⟨V5, hV5⟩ : ∃ V5, V5 = ((V.alloc (.cells #[.int .i64 s.kind, .string s.name, .string s.typ, .int .i64 4, .int .i64 0, .string ⟨#[105, 110, 116]⟩, .slice (some ⟨V.heap.size + 1, 0, none⟩) 1 1, .int .i64 s.t.kind, .int .i64 s.t.n, .string s.t.s, .slice A2 s.t.kids.length c2] 35)).alloc (.cells #[.int .i64 s.e.kind, .int .i64 s.e.n, .string s.e.s, .slice A1 s.e.kids.length c1] 25)).alloc (.cells #[.int .i64 s.kind, .string s.name, .string ⟨#[98, 111, 111, 108]⟩, .int .i64 s.e.kind, .int .i64 s.e.n, .string s.e.s, .slice A1 s.e.kids.length c1, .int .i64 s.t.kind, .int .i64 s.t.n, .string s.t.s, .slice A2 s.t.kids.length c2] 35) := ⟨_, rfl⟩
        obtain ⟨hz5, hT5, hK5, hU5, hVV⟩ := three_new V V5 _ _ _ hV5
        have hX5 := HXV.out.trans (hVV.mono HXV.out.size)
        have HX5 := Lib.hid hX5
        have HB5 := Lib.hid (HB1.out.below hVV)
        have HT5 := Lib.hid hT5
        have HU5 := Lib.hid hU5
        have HTK := Lib.hid (fun (W : World) (hW : Below V5.heap.size V5 W) => show Calls Tryz.prog 20 #[.agg #[.int .i64 s.kind, .string s.name, .string s.typ, .int .i64 4, .int .i64 0, .string ⟨#[105, 110, 116]⟩, .slice (some ⟨V.heap.size + 1, 0, none⟩) 1 1, .int .i64 s.t.kind, .int .i64 s.t.n, .string s.t.s, .slice A2 s.t.kids.length c2]] W (fun r w' => r = .returned (.bool (doS (castS s)).isSome) ∧ Below W.heap.size W w') from stmtOk_any (castS s) (some ⟨V.heap.size + 1, 0, none⟩) A2 1 c2 V5.heap.size ad W (HKC.out V V5 hX5 hK5 hz5 W hW) (HKS.out W (hX5.trans (hW.mono hX5.size)) V5.heap.size (by have := hX5.size; omega)).2 (Nat.le_refl _) hc2 hW.size (by omega) (HLL.out W (hX5.trans (hW.mono hX5.size))) (HLN.out W (hX5.trans (hW.mono hX5.size))))
        have HTB := Lib.hid (fun (W : World) (hW : Below V5.heap.size V5 W) => show Calls Tryz.prog 29 #[.agg #[.int .i64 s.kind, .string s.name, .string s.typ, .int .i64 4, .int .i64 0, .string ⟨#[105, 110, 116]⟩, .slice (some ⟨V.heap.size + 1, 0, none⟩) 1 1, .int .i64 s.t.kind, .int .i64 s.t.n, .string s.t.s, .slice A2 s.t.kids.length c2]] W (GivesBr (turnS (castS s)) W) from bareOf_any (castS s) (some ⟨V.heap.size + 1, 0, none⟩) A2 1 c2 V5.heap.size ad W (HKC.out V V5 hX5 hK5 hz5 W hW) (HKS.out W (hX5.trans (hW.mono hX5.size)) V5.heap.size (by have := hX5.size; omega)).2 (Nat.le_refl _) hc2 hW.size (by omega) (HLL.out W (hX5.trans (hW.mono hX5.size))) (HLN.out W (hX5.trans (hW.mono hX5.size))))
        have HUK := Lib.hid (fun (W : World) (hW : Below V5.heap.size V5 W) => show Calls Tryz.prog 20 #[.agg #[.int .i64 s.kind, .string s.name, .string ⟨#[98, 111, 111, 108]⟩, .int .i64 s.e.kind, .int .i64 s.e.n, .string s.e.s, .slice A1 s.e.kids.length c1, .int .i64 s.t.kind, .int .i64 s.t.n, .string s.t.s, .slice A2 s.t.kids.length c2]] W (fun r w' => r = .returned (.bool (doS (⟨s.kind, s.name, sBoolL, s.e, s.t⟩ : St)).isSome) ∧ Below W.heap.size W w') from stmtOk_any (⟨s.kind, s.name, sBoolL, s.e, s.t⟩ : St) A1 A2 c1 c2 w1.heap.size ad W (HKS.out W (hX5.trans (hW.mono hX5.size)) _ (Nat.le_refl _)).1 (HKS.out W (hX5.trans (hW.mono hX5.size)) _ (Nat.le_refl _)).2 hc1 hc2 (by have := hW.size; have := hX5.size; omega) (by have := HRW.out; omega) (HLL.out W (hX5.trans (hW.mono hX5.size))) (HLN.out W (hX5.trans (hW.mono hX5.size))))
        have HUB := Lib.hid (fun (W : World) (hW : Below V5.heap.size V5 W) => show Calls Tryz.prog 29 #[.agg #[.int .i64 s.kind, .string s.name, .string ⟨#[98, 111, 111, 108]⟩, .int .i64 s.e.kind, .int .i64 s.e.n, .string s.e.s, .slice A1 s.e.kids.length c1, .int .i64 s.t.kind, .int .i64 s.t.n, .string s.t.s, .slice A2 s.t.kids.length c2]] W (GivesBr (turnS (⟨s.kind, s.name, sBoolL, s.e, s.t⟩ : St)) W) from bareOf_any (⟨s.kind, s.name, sBoolL, s.e, s.t⟩ : St) A1 A2 c1 c2 w1.heap.size ad W (HKS.out W (hX5.trans (hW.mono hX5.size)) _ (Nat.le_refl _)).1 (HKS.out W (hX5.trans (hW.mono hX5.size)) _ (Nat.le_refl _)).2 hc1 hc2 (by have := hW.size; have := hX5.size; omega) (by have := HRW.out; omega) (HLL.out W (hX5.trans (hW.mono hX5.size))) (HLN.out W (hX5.trans (hW.mono hX5.size))))
        have HSM5 := Lib.hid (fun (W : World) (Y1 Y2 : Option Addr) (m1 m2 : Nat) (hW : Below V5.heap.size V5 W) h1 h2 h3 h4 => HSM.out W Y1 Y2 m1 m2 (hX5.trans (hW.mono hX5.size)) h1 h2 h3 h4)
        unfold GivesBr brV at HTB HUB
        have HCT := Lib.hid (fun h : (doS (castS s)).isSome = true => cast_turn hkz hd (show doS (castS s) = some ((doS (castS s)).get h) by simp))
        have HCU := Lib.hid (show (doS (⟨s.kind, s.name, sBoolL, s.e, s.t⟩ : St)).isSome = true → turnS (⟨s.kind, s.name, sBoolL, s.e, s.t⟩ : St) = turnS s from by
          have h1 := HRT.out
          intro h
          rw [← h1] at h ⊢
          exact retype_turn hd (show doS (retypeS s) = some ((doS (retypeS s)).get h) by simp))
        clear hX5 hVV hT5 hU5 hK5 HKC HKS HLL HLN HSM HS1 HB1 HMB HOK HS0 HB0 hd hkz
        generalize turnS (castS s) = xt at *
        generalize turnS (⟨s.kind, s.name, sBoolL, s.e, s.t⟩ : St) = xu at *
        generalize (doS (castS s)).isSome = okt at *
        generalize (doS (⟨s.kind, s.name, sBoolL, s.e, s.t⟩ : St)).isSome = oku at *
        cases okt
        · cases oku
          · go_wp2_with fail
            rw [← hV5]
            clear hV5
            refine wp_region_noPanic ?_
            refine wp_region_held_drew (S := (fun W => BlkT W (V.heap.size) #[.int .i64 s.kind, .string s.name, .string s.typ, .int .i64 4, .int .i64 0, .string ⟨#[105, 110, 116]⟩, .slice (some ⟨V.heap.size + 1, 0, none⟩) 1 1, .int .i64 s.t.kind, .int .i64 s.t.n, .string s.t.s, .slice A2 s.t.kids.length c2] 35 ∧ BlkT W w3.heap.size #[.int .i64 x.kind, .string x.name, .int .i64 x.e.kind, .int .i64 x.e.n, .string x.e.s, .slice B1 x.e.kids.length d1, .int .i64 x.t.kind, .int .i64 x.t.n, .string x.t.s, .slice B2 x.t.kids.length d2] 52 ∧ BlkT W (V.heap.size + 2) #[.int .i64 s.kind, .string s.name, .string ⟨#[98, 111, 111, 108]⟩, .int .i64 s.e.kind, .int .i64 s.e.n, .string s.e.s, .slice A1 s.e.kids.length c1, .int .i64 s.t.kind, .int .i64 s.t.n, .string s.t.s, .slice A2 s.t.kids.length c2] 35 ∧ Below V5.heap.size V5 W)) (by kernel_rfl) (by exact ⟨HT5.out, HB5.out, HU5.out, (Below.refl _ V5).drew⟩) (fun hHeld => ?_)
            refine wpAnyH_take (i := 0) (v := ?valF0T40) rfl (by kernel_rfl) (by kernel_rfl) (by kernel_rfl) (fun _ _ _ h => h) (Or.inl ⟨by rfl, ?yieF0T40⟩) (by assumption) ?resF0T40
            case yieF0T40 =>
              intro w hSw
              try dsimp only at hSw
              obtain ⟨s0, s1, s2, s3⟩ := hSw
              have e0 := BlkT.cell s0 0
              have e1 := BlkT.cell s0 1
              have e2 := BlkT.cell s0 2
              have e3 := BlkT.cell s0 3
              have e4 := BlkT.cell s0 4
              have e5 := BlkT.cell s0 5
              have e6 := BlkT.cell s0 6
              have e7 := BlkT.cell s0 7
              have e8 := BlkT.cell s0 8
              have e9 := BlkT.cell s0 9
              have e10 := BlkT.cell s0 10
              simp only [List.getElem?_toArray, List.getElem?_cons_zero, List.getElem?_cons_succ] at e0 e1 e2 e3 e4 e5 e6 e7 e8 e9 e10
              go_simp
              try with_reducible rfl
            try simp only [Act.put, List.setIfInBounds_toArray, List.set_cons_zero, List.set_cons_succ, List.getElem_toArray, List.getElem_cons_zero, List.getElem_cons_succ]
            refine wpAnyH_ready (rs := [1]) (by kernel_rfl) (by simp) ?_
            refine AllReadyH.cons rfl (fun K hK => ?_) AllReadyH.nil
            go_simp
            refine (HTK.out _ (Below.refl _ V5).drew).mono ?_
            rintro r W1 ⟨rfl, hbY⟩
            have hb1 : Below V5.heap.size V5 W1 := (Below.refl _ V5).drew.trans hbY
            go_wp2_with fail
            refine hK.out _ _ (by exact ⟨HT5.out.below hb1, HB5.out.below hb1, HU5.out.below hb1, hb1⟩) (fun hHeld => ?_)
            clear hK K
            try simp only [Act.put, List.setIfInBounds_toArray, List.set_cons_zero, List.set_cons_succ, List.getElem_toArray, List.getElem_cons_zero, List.getElem_cons_succ]
            refine wpAnyH_take (i := 2) (v := ?valF2T41) rfl (by kernel_rfl) (by kernel_rfl) (by kernel_rfl) (fun _ _ _ h => h) (Or.inl ⟨by rfl, ?yieF2T41⟩) (by assumption) ?resF2T41
            case yieF2T41 =>
              intro w hSw
              try dsimp only at hSw
              go_simp
              try with_reducible rfl
            try simp only [Act.put, List.setIfInBounds_toArray, List.set_cons_zero, List.set_cons_succ, List.getElem_toArray, List.getElem_cons_zero, List.getElem_cons_succ]
            refine wpAnyH_take (i := 3) (v := ?valF3T42) rfl (by kernel_rfl) (by kernel_rfl) (by kernel_rfl) (fun _ _ _ h => h) (Or.inl ⟨by rfl, ?yieF3T42⟩) (by assumption) ?resF3T42
            case yieF3T42 =>
              intro w hSw
              try dsimp only at hSw
              go_simp
              try with_reducible rfl
            try simp only [Act.put, List.setIfInBounds_toArray, List.set_cons_zero, List.set_cons_succ, List.getElem_toArray, List.getElem_cons_zero, List.getElem_cons_succ]
            refine wpAnyH_take (i := 4) (v := undef) rfl (by kernel_rfl) (by kernel_rfl) (by kernel_rfl) (fun _ _ _ h => h) (Or.inr ⟨by rfl, rfl⟩) (by assumption) ?_
            try simp only [Act.put, List.setIfInBounds_toArray, List.set_cons_zero, List.set_cons_succ, List.getElem_toArray, List.getElem_cons_zero, List.getElem_cons_succ]
            refine wpAnyH_take (i := 5) (v := undef) rfl (by kernel_rfl) (by kernel_rfl) (by kernel_rfl) (fun _ _ _ h => h) (Or.inr ⟨by rfl, rfl⟩) (by assumption) ?_
            try simp only [Act.put, List.setIfInBounds_toArray, List.set_cons_zero, List.set_cons_succ, List.getElem_toArray, List.getElem_cons_zero, List.getElem_cons_succ]
            refine wpAnyH_take (i := 6) (v := undef) rfl (by kernel_rfl) (by kernel_rfl) (by kernel_rfl) (fun _ _ _ h => h) (Or.inr ⟨by rfl, rfl⟩) (by assumption) ?_
            try simp only [Act.put, List.setIfInBounds_toArray, List.set_cons_zero, List.set_cons_succ, List.getElem_toArray, List.getElem_cons_zero, List.getElem_cons_succ]
            refine wpAnyH_take (i := 7) (v := undef) rfl (by kernel_rfl) (by kernel_rfl) (by kernel_rfl) (fun _ _ _ h => h) (Or.inr ⟨by rfl, rfl⟩) (by assumption) ?_
            try simp only [Act.put, List.setIfInBounds_toArray, List.set_cons_zero, List.set_cons_succ, List.getElem_toArray, List.getElem_cons_zero, List.getElem_cons_succ]
            refine wpAnyH_take (i := 8) (v := ?valF8T43) rfl (by kernel_rfl) (by kernel_rfl) (by kernel_rfl) (fun _ _ _ h => h) (Or.inl ⟨by rfl, ?yieF8T43⟩) (by assumption) ?resF8T43
            case yieF8T43 =>
              intro w hSw
              try dsimp only at hSw
              go_simp
              try with_reducible rfl
            try simp only [Act.put, List.setIfInBounds_toArray, List.set_cons_zero, List.set_cons_succ, List.getElem_toArray, List.getElem_cons_zero, List.getElem_cons_succ]
            refine wpAnyH_take (i := 9) (v := ?valF9T44) rfl (by kernel_rfl) (by kernel_rfl) (by kernel_rfl) (fun _ _ _ h => h) (Or.inl ⟨by rfl, ?yieF9T44⟩) (by assumption) ?resF9T44
            case yieF9T44 =>
              intro w hSw
              try dsimp only at hSw
              go_simp
              try with_reducible rfl
            try simp only [Act.put, List.setIfInBounds_toArray, List.set_cons_zero, List.set_cons_succ, List.getElem_toArray, List.getElem_cons_zero, List.getElem_cons_succ]
            refine wpAnyH_take (i := 10) (v := ?valF10T45) rfl (by kernel_rfl) (by kernel_rfl) (by kernel_rfl) (fun _ _ _ h => h) (Or.inl ⟨by rfl, ?yieF10T45⟩) (by assumption) ?resF10T45
            case yieF10T45 =>
              intro w hSw
              try dsimp only at hSw
              obtain ⟨s0, s1, s2, s3⟩ := hSw
              have e0 := BlkT.cell s2 0
              have e1 := BlkT.cell s2 1
              have e2 := BlkT.cell s2 2
              have e3 := BlkT.cell s2 3
              have e4 := BlkT.cell s2 4
              have e5 := BlkT.cell s2 5
              have e6 := BlkT.cell s2 6
              have e7 := BlkT.cell s2 7
              have e8 := BlkT.cell s2 8
              have e9 := BlkT.cell s2 9
              have e10 := BlkT.cell s2 10
              simp only [List.getElem?_toArray, List.getElem?_cons_zero, List.getElem?_cons_succ] at e0 e1 e2 e3 e4 e5 e6 e7 e8 e9 e10
              go_simp
              try with_reducible rfl
            try simp only [Act.put, List.setIfInBounds_toArray, List.set_cons_zero, List.set_cons_succ, List.getElem_toArray, List.getElem_cons_zero, List.getElem_cons_succ]
            refine wpAnyH_ready (rs := [11]) (by kernel_rfl) (by simp) ?_
            refine AllReadyH.cons rfl (fun K hK => ?_) AllReadyH.nil
            go_simp
            refine (HUK.out _ hb1).mono ?_
            rintro r W4 ⟨rfl, hbY4⟩
            have hb4 : Below V5.heap.size V5 W4 := hb1.trans (hbY4.mono hb1.size)
            go_wp2_with fail
            refine hK.out _ _ (by exact ⟨HT5.out.below hb4, HB5.out.below hb4, HU5.out.below hb4, hb4⟩) (fun hHeld => ?_)
            clear hK K
            try simp only [Act.put, List.setIfInBounds_toArray, List.set_cons_zero, List.set_cons_succ, List.getElem_toArray, List.getElem_cons_zero, List.getElem_cons_succ]
            refine wpAnyH_take (i := 12) (v := ?valF12T46) rfl (by kernel_rfl) (by kernel_rfl) (by kernel_rfl) (fun _ _ _ h => h) (Or.inl ⟨by rfl, ?yieF12T46⟩) (by assumption) ?resF12T46
            case yieF12T46 =>
              intro w hSw
              try dsimp only at hSw
              go_simp
              try with_reducible rfl
            try simp only [Act.put, List.setIfInBounds_toArray, List.set_cons_zero, List.set_cons_succ, List.getElem_toArray, List.getElem_cons_zero, List.getElem_cons_succ]
            refine wpAnyH_take (i := 13) (v := ?valF13T47) rfl (by kernel_rfl) (by kernel_rfl) (by kernel_rfl) (fun _ _ _ h => h) (Or.inl ⟨by rfl, ?yieF13T47⟩) (by assumption) ?resF13T47
            case yieF13T47 =>
              intro w hSw
              try dsimp only at hSw
              go_simp
              try with_reducible rfl
            try simp only [Act.put, List.setIfInBounds_toArray, List.set_cons_zero, List.set_cons_succ, List.getElem_toArray, List.getElem_cons_zero, List.getElem_cons_succ]
            refine wpAnyH_take (i := 14) (v := undef) rfl (by kernel_rfl) (by kernel_rfl) (by kernel_rfl) (fun _ _ _ h => h) (Or.inr ⟨by rfl, rfl⟩) (by assumption) ?_
            try simp only [Act.put, List.setIfInBounds_toArray, List.set_cons_zero, List.set_cons_succ, List.getElem_toArray, List.getElem_cons_zero, List.getElem_cons_succ]
            refine wpAnyH_take (i := 15) (v := undef) rfl (by kernel_rfl) (by kernel_rfl) (by kernel_rfl) (fun _ _ _ h => h) (Or.inr ⟨by rfl, rfl⟩) (by assumption) ?_
            try simp only [Act.put, List.setIfInBounds_toArray, List.set_cons_zero, List.set_cons_succ, List.getElem_toArray, List.getElem_cons_zero, List.getElem_cons_succ]
            refine wpAnyH_take (i := 16) (v := undef) rfl (by kernel_rfl) (by kernel_rfl) (by kernel_rfl) (fun _ _ _ h => h) (Or.inr ⟨by rfl, rfl⟩) (by assumption) ?_
            try simp only [Act.put, List.setIfInBounds_toArray, List.set_cons_zero, List.set_cons_succ, List.getElem_toArray, List.getElem_cons_zero, List.getElem_cons_succ]
            refine wpAnyH_take (i := 17) (v := undef) rfl (by kernel_rfl) (by kernel_rfl) (by kernel_rfl) (fun _ _ _ h => h) (Or.inr ⟨by rfl, rfl⟩) (by assumption) ?_
            try simp only [Act.put, List.setIfInBounds_toArray, List.set_cons_zero, List.set_cons_succ, List.getElem_toArray, List.getElem_cons_zero, List.getElem_cons_succ]
            refine wpAnyH_take (i := 18) (v := ?valF18T48) rfl (by kernel_rfl) (by kernel_rfl) (by kernel_rfl) (fun _ _ _ h => h) (Or.inl ⟨by rfl, ?yieF18T48⟩) (by assumption) ?resF18T48
            case yieF18T48 =>
              intro w hSw
              try dsimp only at hSw
              go_simp
              try with_reducible rfl
            try simp only [Act.put, List.setIfInBounds_toArray, List.set_cons_zero, List.set_cons_succ, List.getElem_toArray, List.getElem_cons_zero, List.getElem_cons_succ]
            refine wpAnyH_take (i := 19) (v := ?valF19T49) rfl (by kernel_rfl) (by kernel_rfl) (by kernel_rfl) (fun _ _ _ h => h) (Or.inl ⟨by rfl, ?yieF19T49⟩) (by assumption) ?resF19T49
            case yieF19T49 =>
              intro w hSw
              try dsimp only at hSw
              go_simp
              try with_reducible rfl
            try simp only [Act.put, List.setIfInBounds_toArray, List.set_cons_zero, List.set_cons_succ, List.getElem_toArray, List.getElem_cons_zero, List.getElem_cons_succ]
            refine wpAnyH_take (i := 20) (v := ?valF20T50) rfl (by kernel_rfl) (by kernel_rfl) (by kernel_rfl) (fun _ _ _ h => h) (Or.inl ⟨by rfl, ?yieF20T50⟩) (by assumption) ?resF20T50
            case yieF20T50 =>
              intro w hSw
              try dsimp only at hSw
              go_simp
              try with_reducible rfl
            try simp only [Act.put, List.setIfInBounds_toArray, List.set_cons_zero, List.set_cons_succ, List.getElem_toArray, List.getElem_cons_zero, List.getElem_cons_succ]
            refine wpAnyH_done (by kernel_rfl) ?_ _
            refine NoPanic.normal ?_
            go_wp2_with fail
            go_ret
            exact ⟨rfl, HBW.out.trans ((HX5.out.trans (hb4.mono HX5.out.size)).mono HBW.out.size)⟩
          · obtain rfl : x = xu := ((HCU.out rfl).trans HXE.out).symm
            go_wp2_with fail
            rw [← hV5]
            clear hV5
            refine wp_region_noPanic ?_
            refine wp_region_held_drew (S := (fun W => BlkT W (V.heap.size) #[.int .i64 s.kind, .string s.name, .string s.typ, .int .i64 4, .int .i64 0, .string ⟨#[105, 110, 116]⟩, .slice (some ⟨V.heap.size + 1, 0, none⟩) 1 1, .int .i64 s.t.kind, .int .i64 s.t.n, .string s.t.s, .slice A2 s.t.kids.length c2] 35 ∧ BlkT W w3.heap.size #[.int .i64 x.kind, .string x.name, .int .i64 x.e.kind, .int .i64 x.e.n, .string x.e.s, .slice B1 x.e.kids.length d1, .int .i64 x.t.kind, .int .i64 x.t.n, .string x.t.s, .slice B2 x.t.kids.length d2] 52 ∧ BlkT W (V.heap.size + 2) #[.int .i64 s.kind, .string s.name, .string ⟨#[98, 111, 111, 108]⟩, .int .i64 s.e.kind, .int .i64 s.e.n, .string s.e.s, .slice A1 s.e.kids.length c1, .int .i64 s.t.kind, .int .i64 s.t.n, .string s.t.s, .slice A2 s.t.kids.length c2] 35 ∧ Below V5.heap.size V5 W)) (by kernel_rfl) (by exact ⟨HT5.out, HB5.out, HU5.out, (Below.refl _ V5).drew⟩) (fun hHeld => ?_)
            refine wpAnyH_take (i := 0) (v := ?valF0T51) rfl (by kernel_rfl) (by kernel_rfl) (by kernel_rfl) (fun _ _ _ h => h) (Or.inl ⟨by rfl, ?yieF0T51⟩) (by assumption) ?resF0T51
            case yieF0T51 =>
              intro w hSw
              try dsimp only at hSw
              obtain ⟨s0, s1, s2, s3⟩ := hSw
              have e0 := BlkT.cell s0 0
              have e1 := BlkT.cell s0 1
              have e2 := BlkT.cell s0 2
              have e3 := BlkT.cell s0 3
              have e4 := BlkT.cell s0 4
              have e5 := BlkT.cell s0 5
              have e6 := BlkT.cell s0 6
              have e7 := BlkT.cell s0 7
              have e8 := BlkT.cell s0 8
              have e9 := BlkT.cell s0 9
              have e10 := BlkT.cell s0 10
              simp only [List.getElem?_toArray, List.getElem?_cons_zero, List.getElem?_cons_succ] at e0 e1 e2 e3 e4 e5 e6 e7 e8 e9 e10
              go_simp
              try with_reducible rfl
            try simp only [Act.put, List.setIfInBounds_toArray, List.set_cons_zero, List.set_cons_succ, List.getElem_toArray, List.getElem_cons_zero, List.getElem_cons_succ]
            refine wpAnyH_ready (rs := [1]) (by kernel_rfl) (by simp) ?_
            refine AllReadyH.cons rfl (fun K hK => ?_) AllReadyH.nil
            go_simp
            refine (HTK.out _ (Below.refl _ V5).drew).mono ?_
            rintro r W1 ⟨rfl, hbY⟩
            have hb1 : Below V5.heap.size V5 W1 := (Below.refl _ V5).drew.trans hbY
            go_wp2_with fail
            refine hK.out _ _ (by exact ⟨HT5.out.below hb1, HB5.out.below hb1, HU5.out.below hb1, hb1⟩) (fun hHeld => ?_)
            clear hK K
            try simp only [Act.put, List.setIfInBounds_toArray, List.set_cons_zero, List.set_cons_succ, List.getElem_toArray, List.getElem_cons_zero, List.getElem_cons_succ]
            refine wpAnyH_take (i := 2) (v := ?valF2T52) rfl (by kernel_rfl) (by kernel_rfl) (by kernel_rfl) (fun _ _ _ h => h) (Or.inl ⟨by rfl, ?yieF2T52⟩) (by assumption) ?resF2T52
            case yieF2T52 =>
              intro w hSw
              try dsimp only at hSw
              go_simp
              try with_reducible rfl
            try simp only [Act.put, List.setIfInBounds_toArray, List.set_cons_zero, List.set_cons_succ, List.getElem_toArray, List.getElem_cons_zero, List.getElem_cons_succ]
            refine wpAnyH_take (i := 3) (v := ?valF3T53) rfl (by kernel_rfl) (by kernel_rfl) (by kernel_rfl) (fun _ _ _ h => h) (Or.inl ⟨by rfl, ?yieF3T53⟩) (by assumption) ?resF3T53
            case yieF3T53 =>
              intro w hSw
              try dsimp only at hSw
              go_simp
              try with_reducible rfl
            try simp only [Act.put, List.setIfInBounds_toArray, List.set_cons_zero, List.set_cons_succ, List.getElem_toArray, List.getElem_cons_zero, List.getElem_cons_succ]
            refine wpAnyH_take (i := 4) (v := undef) rfl (by kernel_rfl) (by kernel_rfl) (by kernel_rfl) (fun _ _ _ h => h) (Or.inr ⟨by rfl, rfl⟩) (by assumption) ?_
            try simp only [Act.put, List.setIfInBounds_toArray, List.set_cons_zero, List.set_cons_succ, List.getElem_toArray, List.getElem_cons_zero, List.getElem_cons_succ]
            refine wpAnyH_take (i := 5) (v := undef) rfl (by kernel_rfl) (by kernel_rfl) (by kernel_rfl) (fun _ _ _ h => h) (Or.inr ⟨by rfl, rfl⟩) (by assumption) ?_
            try simp only [Act.put, List.setIfInBounds_toArray, List.set_cons_zero, List.set_cons_succ, List.getElem_toArray, List.getElem_cons_zero, List.getElem_cons_succ]
            refine wpAnyH_take (i := 6) (v := undef) rfl (by kernel_rfl) (by kernel_rfl) (by kernel_rfl) (fun _ _ _ h => h) (Or.inr ⟨by rfl, rfl⟩) (by assumption) ?_
            try simp only [Act.put, List.setIfInBounds_toArray, List.set_cons_zero, List.set_cons_succ, List.getElem_toArray, List.getElem_cons_zero, List.getElem_cons_succ]
            refine wpAnyH_take (i := 7) (v := undef) rfl (by kernel_rfl) (by kernel_rfl) (by kernel_rfl) (fun _ _ _ h => h) (Or.inr ⟨by rfl, rfl⟩) (by assumption) ?_
            try simp only [Act.put, List.setIfInBounds_toArray, List.set_cons_zero, List.set_cons_succ, List.getElem_toArray, List.getElem_cons_zero, List.getElem_cons_succ]
            refine wpAnyH_take (i := 8) (v := ?valF8T54) rfl (by kernel_rfl) (by kernel_rfl) (by kernel_rfl) (fun _ _ _ h => h) (Or.inl ⟨by rfl, ?yieF8T54⟩) (by assumption) ?resF8T54
            case yieF8T54 =>
              intro w hSw
              try dsimp only at hSw
              go_simp
              try with_reducible rfl
            try simp only [Act.put, List.setIfInBounds_toArray, List.set_cons_zero, List.set_cons_succ, List.getElem_toArray, List.getElem_cons_zero, List.getElem_cons_succ]
            refine wpAnyH_take (i := 9) (v := ?valF9T55) rfl (by kernel_rfl) (by kernel_rfl) (by kernel_rfl) (fun _ _ _ h => h) (Or.inl ⟨by rfl, ?yieF9T55⟩) (by assumption) ?resF9T55
            case yieF9T55 =>
              intro w hSw
              try dsimp only at hSw
              go_simp
              try with_reducible rfl
            try simp only [Act.put, List.setIfInBounds_toArray, List.set_cons_zero, List.set_cons_succ, List.getElem_toArray, List.getElem_cons_zero, List.getElem_cons_succ]
            refine wpAnyH_take (i := 10) (v := ?valF10T56) rfl (by kernel_rfl) (by kernel_rfl) (by kernel_rfl) (fun _ _ _ h => h) (Or.inl ⟨by rfl, ?yieF10T56⟩) (by assumption) ?resF10T56
            case yieF10T56 =>
              intro w hSw
              try dsimp only at hSw
              obtain ⟨s0, s1, s2, s3⟩ := hSw
              have e0 := BlkT.cell s2 0
              have e1 := BlkT.cell s2 1
              have e2 := BlkT.cell s2 2
              have e3 := BlkT.cell s2 3
              have e4 := BlkT.cell s2 4
              have e5 := BlkT.cell s2 5
              have e6 := BlkT.cell s2 6
              have e7 := BlkT.cell s2 7
              have e8 := BlkT.cell s2 8
              have e9 := BlkT.cell s2 9
              have e10 := BlkT.cell s2 10
              simp only [List.getElem?_toArray, List.getElem?_cons_zero, List.getElem?_cons_succ] at e0 e1 e2 e3 e4 e5 e6 e7 e8 e9 e10
              go_simp
              try with_reducible rfl
            try simp only [Act.put, List.setIfInBounds_toArray, List.set_cons_zero, List.set_cons_succ, List.getElem_toArray, List.getElem_cons_zero, List.getElem_cons_succ]
            refine wpAnyH_ready (rs := [11]) (by kernel_rfl) (by simp) ?_
            refine AllReadyH.cons rfl (fun K hK => ?_) AllReadyH.nil
            go_simp
            refine (HUK.out _ hb1).mono ?_
            rintro r W4 ⟨rfl, hbY4⟩
            have hb4 : Below V5.heap.size V5 W4 := hb1.trans (hbY4.mono hb1.size)
            go_wp2_with fail
            refine hK.out _ _ (by exact ⟨HT5.out.below hb4, HB5.out.below hb4, HU5.out.below hb4, hb4⟩) (fun hHeld => ?_)
            clear hK K
            try simp only [Act.put, List.setIfInBounds_toArray, List.set_cons_zero, List.set_cons_succ, List.getElem_toArray, List.getElem_cons_zero, List.getElem_cons_succ]
            refine wpAnyH_take (i := 12) (v := ?valF12T57) rfl (by kernel_rfl) (by kernel_rfl) (by kernel_rfl) (fun _ _ _ h => h) (Or.inl ⟨by rfl, ?yieF12T57⟩) (by assumption) ?resF12T57
            case yieF12T57 =>
              intro w hSw
              try dsimp only at hSw
              go_simp
              try with_reducible rfl
            try simp only [Act.put, List.setIfInBounds_toArray, List.set_cons_zero, List.set_cons_succ, List.getElem_toArray, List.getElem_cons_zero, List.getElem_cons_succ]
            refine wpAnyH_take (i := 13) (v := ?valF13T58) rfl (by kernel_rfl) (by kernel_rfl) (by kernel_rfl) (fun _ _ _ h => h) (Or.inl ⟨by rfl, ?yieF13T58⟩) (by assumption) ?resF13T58
            case yieF13T58 =>
              intro w hSw
              try dsimp only at hSw
              go_simp
              try with_reducible rfl
            try simp only [Act.put, List.setIfInBounds_toArray, List.set_cons_zero, List.set_cons_succ, List.getElem_toArray, List.getElem_cons_zero, List.getElem_cons_succ]
            refine wpAnyH_take (i := 14) (v := ?valF14T59) rfl (by kernel_rfl) (by kernel_rfl) (by kernel_rfl) (fun _ _ _ h => h) (Or.inl ⟨by rfl, ?yieF14T59⟩) (by assumption) ?resF14T59
            case yieF14T59 =>
              intro w hSw
              try dsimp only at hSw
              obtain ⟨s0, s1, s2, s3⟩ := hSw
              have e0 := BlkT.cell s2 0
              have e1 := BlkT.cell s2 1
              have e2 := BlkT.cell s2 2
              have e3 := BlkT.cell s2 3
              have e4 := BlkT.cell s2 4
              have e5 := BlkT.cell s2 5
              have e6 := BlkT.cell s2 6
              have e7 := BlkT.cell s2 7
              have e8 := BlkT.cell s2 8
              have e9 := BlkT.cell s2 9
              have e10 := BlkT.cell s2 10
              simp only [List.getElem?_toArray, List.getElem?_cons_zero, List.getElem?_cons_succ] at e0 e1 e2 e3 e4 e5 e6 e7 e8 e9 e10
              go_simp
              try with_reducible rfl
            try simp only [Act.put, List.setIfInBounds_toArray, List.set_cons_zero, List.set_cons_succ, List.getElem_toArray, List.getElem_cons_zero, List.getElem_cons_succ]
            refine wpAnyH_take (i := 16) (v := ?valF16T60) rfl (by kernel_rfl) (by kernel_rfl) (by kernel_rfl) (fun _ _ _ h => h) (Or.inl ⟨by rfl, ?yieF16T60⟩) (by assumption) ?resF16T60
            case yieF16T60 =>
              intro w hSw
              try dsimp only at hSw
              obtain ⟨s0, s1, s2, s3⟩ := hSw
              have e0 := BlkT.cell s1 0
              have e1 := BlkT.cell s1 1
              have e2 := BlkT.cell s1 2
              have e3 := BlkT.cell s1 3
              have e4 := BlkT.cell s1 4
              have e5 := BlkT.cell s1 5
              have e6 := BlkT.cell s1 6
              have e7 := BlkT.cell s1 7
              have e8 := BlkT.cell s1 8
              have e9 := BlkT.cell s1 9
              simp only [List.getElem?_toArray, List.getElem?_cons_zero, List.getElem?_cons_succ] at e0 e1 e2 e3 e4 e5 e6 e7 e8 e9
              go_simp
              try with_reducible rfl
            try simp only [Act.put, List.setIfInBounds_toArray, List.set_cons_zero, List.set_cons_succ, List.getElem_toArray, List.getElem_cons_zero, List.getElem_cons_succ]
            refine wpAnyH_ready (rs := [15]) (by kernel_rfl) (by simp) ?_
            refine AllReadyH.cons rfl (fun K hK => ?_) AllReadyH.nil
            go_simp
            refine (HUB.out _ hb4).mono ?_
            rintro r W5 ⟨Z1, n1, Z2, n2, nn, rfl, hn1, hn2, hZ1, hZ2, hnn, hbZ5⟩
            have hb5 : Below V5.heap.size V5 W5 := hb4.trans (hbZ5.mono hb4.size)
            have HZ := Lib.hid (kids_two hZ1 hZ2)
            go_wp2_with fail
            refine hK.out _ _ (by exact ⟨HT5.out.below hb5, HB5.out.below hb5, HU5.out.below hb5, hb5⟩) (fun hHeld => ?_)
            clear hK K
            try simp only [Act.put, List.setIfInBounds_toArray, List.set_cons_zero, List.set_cons_succ, List.getElem_toArray, List.getElem_cons_zero, List.getElem_cons_succ]
            refine wpAnyH_ready (rs := [17]) (by kernel_rfl) (by simp) ?_
            refine AllReadyH.cons rfl (fun K hK => ?_) AllReadyH.nil
            go_simp
            refine ((HSM5.out _ Z1 Z2 n1 n2 hb5 HZ.out.1 HZ.out.2 hn1 hn2).2).mono ?_
            rintro r W6 ⟨rfl, hbZ6⟩
            have hb6 : Below V5.heap.size V5 W6 := hb5.trans (hbZ6.mono hb5.size)
            go_wp2_with fail
            refine hK.out _ _ (by exact ⟨HT5.out.below hb6, HB5.out.below hb6, HU5.out.below hb6, hb6⟩) (fun hHeld => ?_)
            clear hK K
            try simp only [Act.put, List.setIfInBounds_toArray, List.set_cons_zero, List.set_cons_succ, List.getElem_toArray, List.getElem_cons_zero, List.getElem_cons_succ]
            refine wpAnyH_take (i := 18) (v := ?valF18T61) rfl (by kernel_rfl) (by kernel_rfl) (by kernel_rfl) (fun _ _ _ h => h) (Or.inl ⟨by rfl, ?yieF18T61⟩) (by assumption) ?resF18T61
            case yieF18T61 =>
              intro w hSw
              try dsimp only at hSw
              go_simp
              try with_reducible rfl
            try simp only [Act.put, List.setIfInBounds_toArray, List.set_cons_zero, List.set_cons_succ, List.getElem_toArray, List.getElem_cons_zero, List.getElem_cons_succ]
            refine wpAnyH_take (i := 19) (v := ?valF19T62) rfl (by kernel_rfl) (by kernel_rfl) (by kernel_rfl) (fun _ _ _ h => h) (Or.inl ⟨by rfl, ?yieF19T62⟩) (by assumption) ?resF19T62
            case yieF19T62 =>
              intro w hSw
              try dsimp only at hSw
              go_simp
              try with_reducible rfl
            try simp only [Act.put, List.setIfInBounds_toArray, List.set_cons_zero, List.set_cons_succ, List.getElem_toArray, List.getElem_cons_zero, List.getElem_cons_succ]
            refine wpAnyH_take (i := 20) (v := ?valF20T63) rfl (by kernel_rfl) (by kernel_rfl) (by kernel_rfl) (fun _ _ _ h => h) (Or.inl ⟨by rfl, ?yieF20T63⟩) (by assumption) ?resF20T63
            case yieF20T63 =>
              intro w hSw
              try dsimp only at hSw
              go_simp
              try with_reducible rfl
            try simp only [Act.put, List.setIfInBounds_toArray, List.set_cons_zero, List.set_cons_succ, List.getElem_toArray, List.getElem_cons_zero, List.getElem_cons_succ]
            refine wpAnyH_done (by kernel_rfl) ?_ _
            refine NoPanic.normal ?_
            go_wp2_with fail
            go_ret
            exact ⟨rfl, HBW.out.trans ((HX5.out.trans (hb6.mono HX5.out.size)).mono HBW.out.size)⟩
        · cases oku
          · obtain rfl : x = xt := ((HCT.out rfl).trans HXE.out).symm
            go_wp2_with fail
            rw [← hV5]
            clear hV5
            refine wp_region_noPanic ?_
            refine wp_region_held_drew (S := (fun W => BlkT W (V.heap.size) #[.int .i64 s.kind, .string s.name, .string s.typ, .int .i64 4, .int .i64 0, .string ⟨#[105, 110, 116]⟩, .slice (some ⟨V.heap.size + 1, 0, none⟩) 1 1, .int .i64 s.t.kind, .int .i64 s.t.n, .string s.t.s, .slice A2 s.t.kids.length c2] 35 ∧ BlkT W w3.heap.size #[.int .i64 x.kind, .string x.name, .int .i64 x.e.kind, .int .i64 x.e.n, .string x.e.s, .slice B1 x.e.kids.length d1, .int .i64 x.t.kind, .int .i64 x.t.n, .string x.t.s, .slice B2 x.t.kids.length d2] 52 ∧ BlkT W (V.heap.size + 2) #[.int .i64 s.kind, .string s.name, .string ⟨#[98, 111, 111, 108]⟩, .int .i64 s.e.kind, .int .i64 s.e.n, .string s.e.s, .slice A1 s.e.kids.length c1, .int .i64 s.t.kind, .int .i64 s.t.n, .string s.t.s, .slice A2 s.t.kids.length c2] 35 ∧ Below V5.heap.size V5 W)) (by kernel_rfl) (by exact ⟨HT5.out, HB5.out, HU5.out, (Below.refl _ V5).drew⟩) (fun hHeld => ?_)
            refine wpAnyH_take (i := 0) (v := ?valF0T64) rfl (by kernel_rfl) (by kernel_rfl) (by kernel_rfl) (fun _ _ _ h => h) (Or.inl ⟨by rfl, ?yieF0T64⟩) (by assumption) ?resF0T64
            case yieF0T64 =>
              intro w hSw
              try dsimp only at hSw
              obtain ⟨s0, s1, s2, s3⟩ := hSw
              have e0 := BlkT.cell s0 0
              have e1 := BlkT.cell s0 1
              have e2 := BlkT.cell s0 2
              have e3 := BlkT.cell s0 3
              have e4 := BlkT.cell s0 4
              have e5 := BlkT.cell s0 5
              have e6 := BlkT.cell s0 6
              have e7 := BlkT.cell s0 7
              have e8 := BlkT.cell s0 8
              have e9 := BlkT.cell s0 9
              have e10 := BlkT.cell s0 10
              simp only [List.getElem?_toArray, List.getElem?_cons_zero, List.getElem?_cons_succ] at e0 e1 e2 e3 e4 e5 e6 e7 e8 e9 e10
              go_simp
              try with_reducible rfl
            try simp only [Act.put, List.setIfInBounds_toArray, List.set_cons_zero, List.set_cons_succ, List.getElem_toArray, List.getElem_cons_zero, List.getElem_cons_succ]
            refine wpAnyH_ready (rs := [1]) (by kernel_rfl) (by simp) ?_
            refine AllReadyH.cons rfl (fun K hK => ?_) AllReadyH.nil
            go_simp
            refine (HTK.out _ (Below.refl _ V5).drew).mono ?_
            rintro r W1 ⟨rfl, hbY⟩
            have hb1 : Below V5.heap.size V5 W1 := (Below.refl _ V5).drew.trans hbY
            go_wp2_with fail
            refine hK.out _ _ (by exact ⟨HT5.out.below hb1, HB5.out.below hb1, HU5.out.below hb1, hb1⟩) (fun hHeld => ?_)
            clear hK K
            try simp only [Act.put, List.setIfInBounds_toArray, List.set_cons_zero, List.set_cons_succ, List.getElem_toArray, List.getElem_cons_zero, List.getElem_cons_succ]
            refine wpAnyH_take (i := 2) (v := ?valF2T65) rfl (by kernel_rfl) (by kernel_rfl) (by kernel_rfl) (fun _ _ _ h => h) (Or.inl ⟨by rfl, ?yieF2T65⟩) (by assumption) ?resF2T65
            case yieF2T65 =>
              intro w hSw
              try dsimp only at hSw
              go_simp
              try with_reducible rfl
            try simp only [Act.put, List.setIfInBounds_toArray, List.set_cons_zero, List.set_cons_succ, List.getElem_toArray, List.getElem_cons_zero, List.getElem_cons_succ]
            refine wpAnyH_take (i := 3) (v := ?valF3T66) rfl (by kernel_rfl) (by kernel_rfl) (by kernel_rfl) (fun _ _ _ h => h) (Or.inl ⟨by rfl, ?yieF3T66⟩) (by assumption) ?resF3T66
            case yieF3T66 =>
              intro w hSw
              try dsimp only at hSw
              go_simp
              try with_reducible rfl
            try simp only [Act.put, List.setIfInBounds_toArray, List.set_cons_zero, List.set_cons_succ, List.getElem_toArray, List.getElem_cons_zero, List.getElem_cons_succ]
            refine wpAnyH_take (i := 4) (v := ?valF4T67) rfl (by kernel_rfl) (by kernel_rfl) (by kernel_rfl) (fun _ _ _ h => h) (Or.inl ⟨by rfl, ?yieF4T67⟩) (by assumption) ?resF4T67
            case yieF4T67 =>
              intro w hSw
              try dsimp only at hSw
              obtain ⟨s0, s1, s2, s3⟩ := hSw
              have e0 := BlkT.cell s0 0
              have e1 := BlkT.cell s0 1
              have e2 := BlkT.cell s0 2
              have e3 := BlkT.cell s0 3
              have e4 := BlkT.cell s0 4
              have e5 := BlkT.cell s0 5
              have e6 := BlkT.cell s0 6
              have e7 := BlkT.cell s0 7
              have e8 := BlkT.cell s0 8
              have e9 := BlkT.cell s0 9
              have e10 := BlkT.cell s0 10
              simp only [List.getElem?_toArray, List.getElem?_cons_zero, List.getElem?_cons_succ] at e0 e1 e2 e3 e4 e5 e6 e7 e8 e9 e10
              go_simp
              try with_reducible rfl
            try simp only [Act.put, List.setIfInBounds_toArray, List.set_cons_zero, List.set_cons_succ, List.getElem_toArray, List.getElem_cons_zero, List.getElem_cons_succ]
            refine wpAnyH_take (i := 6) (v := ?valF6T68) rfl (by kernel_rfl) (by kernel_rfl) (by kernel_rfl) (fun _ _ _ h => h) (Or.inl ⟨by rfl, ?yieF6T68⟩) (by assumption) ?resF6T68
            case yieF6T68 =>
              intro w hSw
              try dsimp only at hSw
              obtain ⟨s0, s1, s2, s3⟩ := hSw
              have e0 := BlkT.cell s1 0
              have e1 := BlkT.cell s1 1
              have e2 := BlkT.cell s1 2
              have e3 := BlkT.cell s1 3
              have e4 := BlkT.cell s1 4
              have e5 := BlkT.cell s1 5
              have e6 := BlkT.cell s1 6
              have e7 := BlkT.cell s1 7
              have e8 := BlkT.cell s1 8
              have e9 := BlkT.cell s1 9
              simp only [List.getElem?_toArray, List.getElem?_cons_zero, List.getElem?_cons_succ] at e0 e1 e2 e3 e4 e5 e6 e7 e8 e9
              go_simp
              try with_reducible rfl
            try simp only [Act.put, List.setIfInBounds_toArray, List.set_cons_zero, List.set_cons_succ, List.getElem_toArray, List.getElem_cons_zero, List.getElem_cons_succ]
            refine wpAnyH_ready (rs := [5]) (by kernel_rfl) (by simp) ?_
            refine AllReadyH.cons rfl (fun K hK => ?_) AllReadyH.nil
            go_simp
            refine (HTB.out _ hb1).mono ?_
            rintro r W2 ⟨Y1, m1, Y2, m2, mm, rfl, hm1, hm2, hY1, hY2, hmm, hbZ⟩
            have hb2 : Below V5.heap.size V5 W2 := hb1.trans (hbZ.mono hb1.size)
            have HY := Lib.hid (kids_two hY1 hY2)
            go_wp2_with fail
            refine hK.out _ _ (by exact ⟨HT5.out.below hb2, HB5.out.below hb2, HU5.out.below hb2, hb2⟩) (fun hHeld => ?_)
            clear hK K
            try simp only [Act.put, List.setIfInBounds_toArray, List.set_cons_zero, List.set_cons_succ, List.getElem_toArray, List.getElem_cons_zero, List.getElem_cons_succ]
            refine wpAnyH_ready (rs := [7]) (by kernel_rfl) (by simp) ?_
            refine AllReadyH.cons rfl (fun K hK => ?_) AllReadyH.nil
            go_simp
            refine ((HSM5.out _ Y1 Y2 m1 m2 hb2 HY.out.1 HY.out.2 hm1 hm2).2).mono ?_
            rintro r W3 ⟨rfl, hbZ3⟩
            have hb3 : Below V5.heap.size V5 W3 := hb2.trans (hbZ3.mono hb2.size)
            go_wp2_with fail
            refine hK.out _ _ (by exact ⟨HT5.out.below hb3, HB5.out.below hb3, HU5.out.below hb3, hb3⟩) (fun hHeld => ?_)
            clear hK K
            try simp only [Act.put, List.setIfInBounds_toArray, List.set_cons_zero, List.set_cons_succ, List.getElem_toArray, List.getElem_cons_zero, List.getElem_cons_succ]
            refine wpAnyH_take (i := 8) (v := ?valF8T69) rfl (by kernel_rfl) (by kernel_rfl) (by kernel_rfl) (fun _ _ _ h => h) (Or.inl ⟨by rfl, ?yieF8T69⟩) (by assumption) ?resF8T69
            case yieF8T69 =>
              intro w hSw
              try dsimp only at hSw
              go_simp
              try with_reducible rfl
            try simp only [Act.put, List.setIfInBounds_toArray, List.set_cons_zero, List.set_cons_succ, List.getElem_toArray, List.getElem_cons_zero, List.getElem_cons_succ]
            refine wpAnyH_take (i := 9) (v := ?valF9T70) rfl (by kernel_rfl) (by kernel_rfl) (by kernel_rfl) (fun _ _ _ h => h) (Or.inl ⟨by rfl, ?yieF9T70⟩) (by assumption) ?resF9T70
            case yieF9T70 =>
              intro w hSw
              try dsimp only at hSw
              go_simp
              try with_reducible rfl
            try simp only [Act.put, List.setIfInBounds_toArray, List.set_cons_zero, List.set_cons_succ, List.getElem_toArray, List.getElem_cons_zero, List.getElem_cons_succ]
            refine wpAnyH_take (i := 10) (v := ?valF10T71) rfl (by kernel_rfl) (by kernel_rfl) (by kernel_rfl) (fun _ _ _ h => h) (Or.inl ⟨by rfl, ?yieF10T71⟩) (by assumption) ?resF10T71
            case yieF10T71 =>
              intro w hSw
              try dsimp only at hSw
              obtain ⟨s0, s1, s2, s3⟩ := hSw
              have e0 := BlkT.cell s2 0
              have e1 := BlkT.cell s2 1
              have e2 := BlkT.cell s2 2
              have e3 := BlkT.cell s2 3
              have e4 := BlkT.cell s2 4
              have e5 := BlkT.cell s2 5
              have e6 := BlkT.cell s2 6
              have e7 := BlkT.cell s2 7
              have e8 := BlkT.cell s2 8
              have e9 := BlkT.cell s2 9
              have e10 := BlkT.cell s2 10
              simp only [List.getElem?_toArray, List.getElem?_cons_zero, List.getElem?_cons_succ] at e0 e1 e2 e3 e4 e5 e6 e7 e8 e9 e10
              go_simp
              try with_reducible rfl
            try simp only [Act.put, List.setIfInBounds_toArray, List.set_cons_zero, List.set_cons_succ, List.getElem_toArray, List.getElem_cons_zero, List.getElem_cons_succ]
            refine wpAnyH_ready (rs := [11]) (by kernel_rfl) (by simp) ?_
            refine AllReadyH.cons rfl (fun K hK => ?_) AllReadyH.nil
            go_simp
            refine (HUK.out _ hb3).mono ?_
            rintro r W4 ⟨rfl, hbY4⟩
            have hb4 : Below V5.heap.size V5 W4 := hb3.trans (hbY4.mono hb3.size)
            go_wp2_with fail
            refine hK.out _ _ (by exact ⟨HT5.out.below hb4, HB5.out.below hb4, HU5.out.below hb4, hb4⟩) (fun hHeld => ?_)
            clear hK K
            try simp only [Act.put, List.setIfInBounds_toArray, List.set_cons_zero, List.set_cons_succ, List.getElem_toArray, List.getElem_cons_zero, List.getElem_cons_succ]
            refine wpAnyH_take (i := 12) (v := ?valF12T72) rfl (by kernel_rfl) (by kernel_rfl) (by kernel_rfl) (fun _ _ _ h => h) (Or.inl ⟨by rfl, ?yieF12T72⟩) (by assumption) ?resF12T72
            case yieF12T72 =>
              intro w hSw
              try dsimp only at hSw
              go_simp
              try with_reducible rfl
            try simp only [Act.put, List.setIfInBounds_toArray, List.set_cons_zero, List.set_cons_succ, List.getElem_toArray, List.getElem_cons_zero, List.getElem_cons_succ]
            refine wpAnyH_take (i := 13) (v := ?valF13T73) rfl (by kernel_rfl) (by kernel_rfl) (by kernel_rfl) (fun _ _ _ h => h) (Or.inl ⟨by rfl, ?yieF13T73⟩) (by assumption) ?resF13T73
            case yieF13T73 =>
              intro w hSw
              try dsimp only at hSw
              go_simp
              try with_reducible rfl
            try simp only [Act.put, List.setIfInBounds_toArray, List.set_cons_zero, List.set_cons_succ, List.getElem_toArray, List.getElem_cons_zero, List.getElem_cons_succ]
            refine wpAnyH_take (i := 14) (v := undef) rfl (by kernel_rfl) (by kernel_rfl) (by kernel_rfl) (fun _ _ _ h => h) (Or.inr ⟨by rfl, rfl⟩) (by assumption) ?_
            try simp only [Act.put, List.setIfInBounds_toArray, List.set_cons_zero, List.set_cons_succ, List.getElem_toArray, List.getElem_cons_zero, List.getElem_cons_succ]
            refine wpAnyH_take (i := 15) (v := undef) rfl (by kernel_rfl) (by kernel_rfl) (by kernel_rfl) (fun _ _ _ h => h) (Or.inr ⟨by rfl, rfl⟩) (by assumption) ?_
            try simp only [Act.put, List.setIfInBounds_toArray, List.set_cons_zero, List.set_cons_succ, List.getElem_toArray, List.getElem_cons_zero, List.getElem_cons_succ]
            refine wpAnyH_take (i := 16) (v := undef) rfl (by kernel_rfl) (by kernel_rfl) (by kernel_rfl) (fun _ _ _ h => h) (Or.inr ⟨by rfl, rfl⟩) (by assumption) ?_
            try simp only [Act.put, List.setIfInBounds_toArray, List.set_cons_zero, List.set_cons_succ, List.getElem_toArray, List.getElem_cons_zero, List.getElem_cons_succ]
            refine wpAnyH_take (i := 17) (v := undef) rfl (by kernel_rfl) (by kernel_rfl) (by kernel_rfl) (fun _ _ _ h => h) (Or.inr ⟨by rfl, rfl⟩) (by assumption) ?_
            try simp only [Act.put, List.setIfInBounds_toArray, List.set_cons_zero, List.set_cons_succ, List.getElem_toArray, List.getElem_cons_zero, List.getElem_cons_succ]
            refine wpAnyH_take (i := 18) (v := ?valF18T74) rfl (by kernel_rfl) (by kernel_rfl) (by kernel_rfl) (fun _ _ _ h => h) (Or.inl ⟨by rfl, ?yieF18T74⟩) (by assumption) ?resF18T74
            case yieF18T74 =>
              intro w hSw
              try dsimp only at hSw
              go_simp
              try with_reducible rfl
            try simp only [Act.put, List.setIfInBounds_toArray, List.set_cons_zero, List.set_cons_succ, List.getElem_toArray, List.getElem_cons_zero, List.getElem_cons_succ]
            refine wpAnyH_take (i := 19) (v := ?valF19T75) rfl (by kernel_rfl) (by kernel_rfl) (by kernel_rfl) (fun _ _ _ h => h) (Or.inl ⟨by rfl, ?yieF19T75⟩) (by assumption) ?resF19T75
            case yieF19T75 =>
              intro w hSw
              try dsimp only at hSw
              go_simp
              try with_reducible rfl
            try simp only [Act.put, List.setIfInBounds_toArray, List.set_cons_zero, List.set_cons_succ, List.getElem_toArray, List.getElem_cons_zero, List.getElem_cons_succ]
            refine wpAnyH_take (i := 20) (v := ?valF20T76) rfl (by kernel_rfl) (by kernel_rfl) (by kernel_rfl) (fun _ _ _ h => h) (Or.inl ⟨by rfl, ?yieF20T76⟩) (by assumption) ?resF20T76
            case yieF20T76 =>
              intro w hSw
              try dsimp only at hSw
              go_simp
              try with_reducible rfl
            try simp only [Act.put, List.setIfInBounds_toArray, List.set_cons_zero, List.set_cons_succ, List.getElem_toArray, List.getElem_cons_zero, List.getElem_cons_succ]
            refine wpAnyH_done (by kernel_rfl) ?_ _
            refine NoPanic.normal ?_
            go_wp2_with fail
            go_ret
            exact ⟨rfl, HBW.out.trans ((HX5.out.trans (hb4.mono HX5.out.size)).mono HBW.out.size)⟩
          · obtain rfl : x = xt := ((HCT.out rfl).trans HXE.out).symm
            obtain rfl : x = xu := ((HCU.out rfl).trans HXE.out).symm
            go_wp2_with fail
            rw [← hV5]
            clear hV5
            refine wp_region_noPanic ?_
            refine wp_region_held_drew (S := (fun W => BlkT W (V.heap.size) #[.int .i64 s.kind, .string s.name, .string s.typ, .int .i64 4, .int .i64 0, .string ⟨#[105, 110, 116]⟩, .slice (some ⟨V.heap.size + 1, 0, none⟩) 1 1, .int .i64 s.t.kind, .int .i64 s.t.n, .string s.t.s, .slice A2 s.t.kids.length c2] 35 ∧ BlkT W w3.heap.size #[.int .i64 x.kind, .string x.name, .int .i64 x.e.kind, .int .i64 x.e.n, .string x.e.s, .slice B1 x.e.kids.length d1, .int .i64 x.t.kind, .int .i64 x.t.n, .string x.t.s, .slice B2 x.t.kids.length d2] 52 ∧ BlkT W (V.heap.size + 2) #[.int .i64 s.kind, .string s.name, .string ⟨#[98, 111, 111, 108]⟩, .int .i64 s.e.kind, .int .i64 s.e.n, .string s.e.s, .slice A1 s.e.kids.length c1, .int .i64 s.t.kind, .int .i64 s.t.n, .string s.t.s, .slice A2 s.t.kids.length c2] 35 ∧ Below V5.heap.size V5 W)) (by kernel_rfl) (by exact ⟨HT5.out, HB5.out, HU5.out, (Below.refl _ V5).drew⟩) (fun hHeld => ?_)
            refine wpAnyH_take (i := 0) (v := ?valF0T77) rfl (by kernel_rfl) (by kernel_rfl) (by kernel_rfl) (fun _ _ _ h => h) (Or.inl ⟨by rfl, ?yieF0T77⟩) (by assumption) ?resF0T77
            case yieF0T77 =>
              intro w hSw
              try dsimp only at hSw
              obtain ⟨s0, s1, s2, s3⟩ := hSw
              have e0 := BlkT.cell s0 0
              have e1 := BlkT.cell s0 1
              have e2 := BlkT.cell s0 2
              have e3 := BlkT.cell s0 3
              have e4 := BlkT.cell s0 4
              have e5 := BlkT.cell s0 5
              have e6 := BlkT.cell s0 6
              have e7 := BlkT.cell s0 7
              have e8 := BlkT.cell s0 8
              have e9 := BlkT.cell s0 9
              have e10 := BlkT.cell s0 10
              simp only [List.getElem?_toArray, List.getElem?_cons_zero, List.getElem?_cons_succ] at e0 e1 e2 e3 e4 e5 e6 e7 e8 e9 e10
              go_simp
              try with_reducible rfl
            try simp only [Act.put, List.setIfInBounds_toArray, List.set_cons_zero, List.set_cons_succ, List.getElem_toArray, List.getElem_cons_zero, List.getElem_cons_succ]
            refine wpAnyH_ready (rs := [1]) (by kernel_rfl) (by simp) ?_
            refine AllReadyH.cons rfl (fun K hK => ?_) AllReadyH.nil
            go_simp
            refine (HTK.out _ (Below.refl _ V5).drew).mono ?_
            rintro r W1 ⟨rfl, hbY⟩
            have hb1 : Below V5.heap.size V5 W1 := (Below.refl _ V5).drew.trans hbY
            go_wp2_with fail
            refine hK.out _ _ (by exact ⟨HT5.out.below hb1, HB5.out.below hb1, HU5.out.below hb1, hb1⟩) (fun hHeld => ?_)
            clear hK K
            try simp only [Act.put, List.setIfInBounds_toArray, List.set_cons_zero, List.set_cons_succ, List.getElem_toArray, List.getElem_cons_zero, List.getElem_cons_succ]
            refine wpAnyH_take (i := 2) (v := ?valF2T78) rfl (by kernel_rfl) (by kernel_rfl) (by kernel_rfl) (fun _ _ _ h => h) (Or.inl ⟨by rfl, ?yieF2T78⟩) (by assumption) ?resF2T78
            case yieF2T78 =>
              intro w hSw
              try dsimp only at hSw
              go_simp
              try with_reducible rfl
            try simp only [Act.put, List.setIfInBounds_toArray, List.set_cons_zero, List.set_cons_succ, List.getElem_toArray, List.getElem_cons_zero, List.getElem_cons_succ]
            refine wpAnyH_take (i := 3) (v := ?valF3T79) rfl (by kernel_rfl) (by kernel_rfl) (by kernel_rfl) (fun _ _ _ h => h) (Or.inl ⟨by rfl, ?yieF3T79⟩) (by assumption) ?resF3T79
            case yieF3T79 =>
              intro w hSw
              try dsimp only at hSw
              go_simp
              try with_reducible rfl
            try simp only [Act.put, List.setIfInBounds_toArray, List.set_cons_zero, List.set_cons_succ, List.getElem_toArray, List.getElem_cons_zero, List.getElem_cons_succ]
            refine wpAnyH_take (i := 4) (v := ?valF4T80) rfl (by kernel_rfl) (by kernel_rfl) (by kernel_rfl) (fun _ _ _ h => h) (Or.inl ⟨by rfl, ?yieF4T80⟩) (by assumption) ?resF4T80
            case yieF4T80 =>
              intro w hSw
              try dsimp only at hSw
              obtain ⟨s0, s1, s2, s3⟩ := hSw
              have e0 := BlkT.cell s0 0
              have e1 := BlkT.cell s0 1
              have e2 := BlkT.cell s0 2
              have e3 := BlkT.cell s0 3
              have e4 := BlkT.cell s0 4
              have e5 := BlkT.cell s0 5
              have e6 := BlkT.cell s0 6
              have e7 := BlkT.cell s0 7
              have e8 := BlkT.cell s0 8
              have e9 := BlkT.cell s0 9
              have e10 := BlkT.cell s0 10
              simp only [List.getElem?_toArray, List.getElem?_cons_zero, List.getElem?_cons_succ] at e0 e1 e2 e3 e4 e5 e6 e7 e8 e9 e10
              go_simp
              try with_reducible rfl
            try simp only [Act.put, List.setIfInBounds_toArray, List.set_cons_zero, List.set_cons_succ, List.getElem_toArray, List.getElem_cons_zero, List.getElem_cons_succ]
            refine wpAnyH_take (i := 6) (v := ?valF6T81) rfl (by kernel_rfl) (by kernel_rfl) (by kernel_rfl) (fun _ _ _ h => h) (Or.inl ⟨by rfl, ?yieF6T81⟩) (by assumption) ?resF6T81
            case yieF6T81 =>
              intro w hSw
              try dsimp only at hSw
              obtain ⟨s0, s1, s2, s3⟩ := hSw
              have e0 := BlkT.cell s1 0
              have e1 := BlkT.cell s1 1
              have e2 := BlkT.cell s1 2
              have e3 := BlkT.cell s1 3
              have e4 := BlkT.cell s1 4
              have e5 := BlkT.cell s1 5
              have e6 := BlkT.cell s1 6
              have e7 := BlkT.cell s1 7
              have e8 := BlkT.cell s1 8
              have e9 := BlkT.cell s1 9
              simp only [List.getElem?_toArray, List.getElem?_cons_zero, List.getElem?_cons_succ] at e0 e1 e2 e3 e4 e5 e6 e7 e8 e9
              go_simp
              try with_reducible rfl
            try simp only [Act.put, List.setIfInBounds_toArray, List.set_cons_zero, List.set_cons_succ, List.getElem_toArray, List.getElem_cons_zero, List.getElem_cons_succ]
            refine wpAnyH_ready (rs := [5]) (by kernel_rfl) (by simp) ?_
            refine AllReadyH.cons rfl (fun K hK => ?_) AllReadyH.nil
            go_simp
            refine (HTB.out _ hb1).mono ?_
            rintro r W2 ⟨Y1, m1, Y2, m2, mm, rfl, hm1, hm2, hY1, hY2, hmm, hbZ⟩
            have hb2 : Below V5.heap.size V5 W2 := hb1.trans (hbZ.mono hb1.size)
            have HY := Lib.hid (kids_two hY1 hY2)
            go_wp2_with fail
            refine hK.out _ _ (by exact ⟨HT5.out.below hb2, HB5.out.below hb2, HU5.out.below hb2, hb2⟩) (fun hHeld => ?_)
            clear hK K
            try simp only [Act.put, List.setIfInBounds_toArray, List.set_cons_zero, List.set_cons_succ, List.getElem_toArray, List.getElem_cons_zero, List.getElem_cons_succ]
            refine wpAnyH_ready (rs := [7]) (by kernel_rfl) (by simp) ?_
            refine AllReadyH.cons rfl (fun K hK => ?_) AllReadyH.nil
            go_simp
            refine ((HSM5.out _ Y1 Y2 m1 m2 hb2 HY.out.1 HY.out.2 hm1 hm2).2).mono ?_
            rintro r W3 ⟨rfl, hbZ3⟩
            have hb3 : Below V5.heap.size V5 W3 := hb2.trans (hbZ3.mono hb2.size)
            go_wp2_with fail
            refine hK.out _ _ (by exact ⟨HT5.out.below hb3, HB5.out.below hb3, HU5.out.below hb3, hb3⟩) (fun hHeld => ?_)
            clear hK K
            try simp only [Act.put, List.setIfInBounds_toArray, List.set_cons_zero, List.set_cons_succ, List.getElem_toArray, List.getElem_cons_zero, List.getElem_cons_succ]
            refine wpAnyH_take (i := 8) (v := ?valF8T82) rfl (by kernel_rfl) (by kernel_rfl) (by kernel_rfl) (fun _ _ _ h => h) (Or.inl ⟨by rfl, ?yieF8T82⟩) (by assumption) ?resF8T82
            case yieF8T82 =>
              intro w hSw
              try dsimp only at hSw
              go_simp
              try with_reducible rfl
            try simp only [Act.put, List.setIfInBounds_toArray, List.set_cons_zero, List.set_cons_succ, List.getElem_toArray, List.getElem_cons_zero, List.getElem_cons_succ]
            refine wpAnyH_take (i := 9) (v := ?valF9T83) rfl (by kernel_rfl) (by kernel_rfl) (by kernel_rfl) (fun _ _ _ h => h) (Or.inl ⟨by rfl, ?yieF9T83⟩) (by assumption) ?resF9T83
            case yieF9T83 =>
              intro w hSw
              try dsimp only at hSw
              go_simp
              try with_reducible rfl
            try simp only [Act.put, List.setIfInBounds_toArray, List.set_cons_zero, List.set_cons_succ, List.getElem_toArray, List.getElem_cons_zero, List.getElem_cons_succ]
            refine wpAnyH_take (i := 10) (v := ?valF10T84) rfl (by kernel_rfl) (by kernel_rfl) (by kernel_rfl) (fun _ _ _ h => h) (Or.inl ⟨by rfl, ?yieF10T84⟩) (by assumption) ?resF10T84
            case yieF10T84 =>
              intro w hSw
              try dsimp only at hSw
              obtain ⟨s0, s1, s2, s3⟩ := hSw
              have e0 := BlkT.cell s2 0
              have e1 := BlkT.cell s2 1
              have e2 := BlkT.cell s2 2
              have e3 := BlkT.cell s2 3
              have e4 := BlkT.cell s2 4
              have e5 := BlkT.cell s2 5
              have e6 := BlkT.cell s2 6
              have e7 := BlkT.cell s2 7
              have e8 := BlkT.cell s2 8
              have e9 := BlkT.cell s2 9
              have e10 := BlkT.cell s2 10
              simp only [List.getElem?_toArray, List.getElem?_cons_zero, List.getElem?_cons_succ] at e0 e1 e2 e3 e4 e5 e6 e7 e8 e9 e10
              go_simp
              try with_reducible rfl
            try simp only [Act.put, List.setIfInBounds_toArray, List.set_cons_zero, List.set_cons_succ, List.getElem_toArray, List.getElem_cons_zero, List.getElem_cons_succ]
            refine wpAnyH_ready (rs := [11]) (by kernel_rfl) (by simp) ?_
            refine AllReadyH.cons rfl (fun K hK => ?_) AllReadyH.nil
            go_simp
            refine (HUK.out _ hb3).mono ?_
            rintro r W4 ⟨rfl, hbY4⟩
            have hb4 : Below V5.heap.size V5 W4 := hb3.trans (hbY4.mono hb3.size)
            go_wp2_with fail
            refine hK.out _ _ (by exact ⟨HT5.out.below hb4, HB5.out.below hb4, HU5.out.below hb4, hb4⟩) (fun hHeld => ?_)
            clear hK K
            try simp only [Act.put, List.setIfInBounds_toArray, List.set_cons_zero, List.set_cons_succ, List.getElem_toArray, List.getElem_cons_zero, List.getElem_cons_succ]
            refine wpAnyH_take (i := 12) (v := ?valF12T85) rfl (by kernel_rfl) (by kernel_rfl) (by kernel_rfl) (fun _ _ _ h => h) (Or.inl ⟨by rfl, ?yieF12T85⟩) (by assumption) ?resF12T85
            case yieF12T85 =>
              intro w hSw
              try dsimp only at hSw
              go_simp
              try with_reducible rfl
            try simp only [Act.put, List.setIfInBounds_toArray, List.set_cons_zero, List.set_cons_succ, List.getElem_toArray, List.getElem_cons_zero, List.getElem_cons_succ]
            refine wpAnyH_take (i := 13) (v := ?valF13T86) rfl (by kernel_rfl) (by kernel_rfl) (by kernel_rfl) (fun _ _ _ h => h) (Or.inl ⟨by rfl, ?yieF13T86⟩) (by assumption) ?resF13T86
            case yieF13T86 =>
              intro w hSw
              try dsimp only at hSw
              go_simp
              try with_reducible rfl
            try simp only [Act.put, List.setIfInBounds_toArray, List.set_cons_zero, List.set_cons_succ, List.getElem_toArray, List.getElem_cons_zero, List.getElem_cons_succ]
            refine wpAnyH_take (i := 14) (v := ?valF14T87) rfl (by kernel_rfl) (by kernel_rfl) (by kernel_rfl) (fun _ _ _ h => h) (Or.inl ⟨by rfl, ?yieF14T87⟩) (by assumption) ?resF14T87
            case yieF14T87 =>
              intro w hSw
              try dsimp only at hSw
              obtain ⟨s0, s1, s2, s3⟩ := hSw
              have e0 := BlkT.cell s2 0
              have e1 := BlkT.cell s2 1
              have e2 := BlkT.cell s2 2
              have e3 := BlkT.cell s2 3
              have e4 := BlkT.cell s2 4
              have e5 := BlkT.cell s2 5
              have e6 := BlkT.cell s2 6
              have e7 := BlkT.cell s2 7
              have e8 := BlkT.cell s2 8
              have e9 := BlkT.cell s2 9
              have e10 := BlkT.cell s2 10
              simp only [List.getElem?_toArray, List.getElem?_cons_zero, List.getElem?_cons_succ] at e0 e1 e2 e3 e4 e5 e6 e7 e8 e9 e10
              go_simp
              try with_reducible rfl
            try simp only [Act.put, List.setIfInBounds_toArray, List.set_cons_zero, List.set_cons_succ, List.getElem_toArray, List.getElem_cons_zero, List.getElem_cons_succ]
            refine wpAnyH_take (i := 16) (v := ?valF16T88) rfl (by kernel_rfl) (by kernel_rfl) (by kernel_rfl) (fun _ _ _ h => h) (Or.inl ⟨by rfl, ?yieF16T88⟩) (by assumption) ?resF16T88
            case yieF16T88 =>
              intro w hSw
              try dsimp only at hSw
              obtain ⟨s0, s1, s2, s3⟩ := hSw
              have e0 := BlkT.cell s1 0
              have e1 := BlkT.cell s1 1
              have e2 := BlkT.cell s1 2
              have e3 := BlkT.cell s1 3
              have e4 := BlkT.cell s1 4
              have e5 := BlkT.cell s1 5
              have e6 := BlkT.cell s1 6
              have e7 := BlkT.cell s1 7
              have e8 := BlkT.cell s1 8
              have e9 := BlkT.cell s1 9
              simp only [List.getElem?_toArray, List.getElem?_cons_zero, List.getElem?_cons_succ] at e0 e1 e2 e3 e4 e5 e6 e7 e8 e9
              go_simp
              try with_reducible rfl
            try simp only [Act.put, List.setIfInBounds_toArray, List.set_cons_zero, List.set_cons_succ, List.getElem_toArray, List.getElem_cons_zero, List.getElem_cons_succ]
            refine wpAnyH_ready (rs := [15]) (by kernel_rfl) (by simp) ?_
            refine AllReadyH.cons rfl (fun K hK => ?_) AllReadyH.nil
            go_simp
            refine (HUB.out _ hb4).mono ?_
            rintro r W5 ⟨Z1, n1, Z2, n2, nn, rfl, hn1, hn2, hZ1, hZ2, hnn, hbZ5⟩
            have hb5 : Below V5.heap.size V5 W5 := hb4.trans (hbZ5.mono hb4.size)
            have HZ := Lib.hid (kids_two hZ1 hZ2)
            go_wp2_with fail
            refine hK.out _ _ (by exact ⟨HT5.out.below hb5, HB5.out.below hb5, HU5.out.below hb5, hb5⟩) (fun hHeld => ?_)
            clear hK K
            try simp only [Act.put, List.setIfInBounds_toArray, List.set_cons_zero, List.set_cons_succ, List.getElem_toArray, List.getElem_cons_zero, List.getElem_cons_succ]
            refine wpAnyH_ready (rs := [17]) (by kernel_rfl) (by simp) ?_
            refine AllReadyH.cons rfl (fun K hK => ?_) AllReadyH.nil
            go_simp
            refine ((HSM5.out _ Z1 Z2 n1 n2 hb5 HZ.out.1 HZ.out.2 hn1 hn2).2).mono ?_
            rintro r W6 ⟨rfl, hbZ6⟩
            have hb6 : Below V5.heap.size V5 W6 := hb5.trans (hbZ6.mono hb5.size)
            go_wp2_with fail
            refine hK.out _ _ (by exact ⟨HT5.out.below hb6, HB5.out.below hb6, HU5.out.below hb6, hb6⟩) (fun hHeld => ?_)
            clear hK K
            try simp only [Act.put, List.setIfInBounds_toArray, List.set_cons_zero, List.set_cons_succ, List.getElem_toArray, List.getElem_cons_zero, List.getElem_cons_succ]
            refine wpAnyH_take (i := 18) (v := ?valF18T89) rfl (by kernel_rfl) (by kernel_rfl) (by kernel_rfl) (fun _ _ _ h => h) (Or.inl ⟨by rfl, ?yieF18T89⟩) (by assumption) ?resF18T89
            case yieF18T89 =>
              intro w hSw
              try dsimp only at hSw
              go_simp
              try with_reducible rfl
            try simp only [Act.put, List.setIfInBounds_toArray, List.set_cons_zero, List.set_cons_succ, List.getElem_toArray, List.getElem_cons_zero, List.getElem_cons_succ]
            refine wpAnyH_take (i := 19) (v := ?valF19T90) rfl (by kernel_rfl) (by kernel_rfl) (by kernel_rfl) (fun _ _ _ h => h) (Or.inl ⟨by rfl, ?yieF19T90⟩) (by assumption) ?resF19T90
            case yieF19T90 =>
              intro w hSw
              try dsimp only at hSw
              go_simp
              try with_reducible rfl
            try simp only [Act.put, List.setIfInBounds_toArray, List.set_cons_zero, List.set_cons_succ, List.getElem_toArray, List.getElem_cons_zero, List.getElem_cons_succ]
            refine wpAnyH_take (i := 20) (v := ?valF20T91) rfl (by kernel_rfl) (by kernel_rfl) (by kernel_rfl) (fun _ _ _ h => h) (Or.inl ⟨by rfl, ?yieF20T91⟩) (by assumption) ?resF20T91
            case yieF20T91 =>
              intro w hSw
              try dsimp only at hSw
              go_simp
              try with_reducible rfl
            try simp only [Act.put, List.setIfInBounds_toArray, List.set_cons_zero, List.set_cons_succ, List.getElem_toArray, List.getElem_cons_zero, List.getElem_cons_succ]
            refine wpAnyH_done (by kernel_rfl) ?_ _
            refine NoPanic.normal ?_
            go_wp2_with fail
            go_ret
            exact ⟨rfl, HBW.out.trans ((HX5.out.trans (hb6.mono HX5.out.size)).mono HBW.out.size)⟩
      · have ql : (s.kind == 1) = false := by simpa using hkl
        have HRT := Lib.hid (show retypeS s = s by unfold retypeS; rw [if_neg hkl])
        have HRW := Lib.hid (show s.wt ≤ 6000 by omega)
        clear hkl
        obtain ⟨V5, hV5⟩ : ∃ V5, V5 = ((V.alloc (.cells #[.int .i64 s.kind, .string s.name, .string s.typ, .int .i64 4, .int .i64 0, .string ⟨#[105, 110, 116]⟩, .slice (some ⟨V.heap.size + 1, 0, none⟩) 1 1, .int .i64 s.t.kind, .int .i64 s.t.n, .string s.t.s, .slice A2 s.t.kids.length c2] 35)).alloc (.cells #[.int .i64 s.e.kind, .int .i64 s.e.n, .string s.e.s, .slice A1 s.e.kids.length c1] 25)).alloc (.cells #[.int .i64 s.kind, .string s.name, .string s.typ, .int .i64 s.e.kind, .int .i64 s.e.n, .string s.e.s, .slice A1 s.e.kids.length c1, .int .i64 s.t.kind, .int .i64 s.t.n, .string s.t.s, .slice A2 s.t.kids.length c2] 35) := ⟨_, rfl⟩
        obtain ⟨hz5, hT5, hK5, hU5, hVV⟩ := three_new V V5 _ _ _ hV5
        have hX5 := HXV.out.trans (hVV.mono HXV.out.size)
        have HX5 := Lib.hid hX5
        have HB5 := Lib.hid (HB1.out.below hVV)
        have HT5 := Lib.hid hT5
        have HU5 := Lib.hid hU5
        have HTK := Lib.hid (fun (W : World) (hW : Below V5.heap.size V5 W) => show Calls Tryz.prog 20 #[.agg #[.int .i64 s.kind, .string s.name, .string s.typ, .int .i64 4, .int .i64 0, .string ⟨#[105, 110, 116]⟩, .slice (some ⟨V.heap.size + 1, 0, none⟩) 1 1, .int .i64 s.t.kind, .int .i64 s.t.n, .string s.t.s, .slice A2 s.t.kids.length c2]] W (fun r w' => r = .returned (.bool (doS (castS s)).isSome) ∧ Below W.heap.size W w') from stmtOk_any (castS s) (some ⟨V.heap.size + 1, 0, none⟩) A2 1 c2 V5.heap.size ad W (HKC.out V V5 hX5 hK5 hz5 W hW) (HKS.out W (hX5.trans (hW.mono hX5.size)) V5.heap.size (by have := hX5.size; omega)).2 (Nat.le_refl _) hc2 hW.size (by omega) (HLL.out W (hX5.trans (hW.mono hX5.size))) (HLN.out W (hX5.trans (hW.mono hX5.size))))
        have HTB := Lib.hid (fun (W : World) (hW : Below V5.heap.size V5 W) => show Calls Tryz.prog 29 #[.agg #[.int .i64 s.kind, .string s.name, .string s.typ, .int .i64 4, .int .i64 0, .string ⟨#[105, 110, 116]⟩, .slice (some ⟨V.heap.size + 1, 0, none⟩) 1 1, .int .i64 s.t.kind, .int .i64 s.t.n, .string s.t.s, .slice A2 s.t.kids.length c2]] W (GivesBr (turnS (castS s)) W) from bareOf_any (castS s) (some ⟨V.heap.size + 1, 0, none⟩) A2 1 c2 V5.heap.size ad W (HKC.out V V5 hX5 hK5 hz5 W hW) (HKS.out W (hX5.trans (hW.mono hX5.size)) V5.heap.size (by have := hX5.size; omega)).2 (Nat.le_refl _) hc2 hW.size (by omega) (HLL.out W (hX5.trans (hW.mono hX5.size))) (HLN.out W (hX5.trans (hW.mono hX5.size))))
        have HUK := Lib.hid (fun (W : World) (hW : Below V5.heap.size V5 W) => show Calls Tryz.prog 20 #[.agg #[.int .i64 s.kind, .string s.name, .string s.typ, .int .i64 s.e.kind, .int .i64 s.e.n, .string s.e.s, .slice A1 s.e.kids.length c1, .int .i64 s.t.kind, .int .i64 s.t.n, .string s.t.s, .slice A2 s.t.kids.length c2]] W (fun r w' => r = .returned (.bool (doS s).isSome) ∧ Below W.heap.size W w') from stmtOk_any s A1 A2 c1 c2 w1.heap.size ad W (HKS.out W (hX5.trans (hW.mono hX5.size)) _ (Nat.le_refl _)).1 (HKS.out W (hX5.trans (hW.mono hX5.size)) _ (Nat.le_refl _)).2 hc1 hc2 (by have := hW.size; have := hX5.size; omega) (by have := HRW.out; omega) (HLL.out W (hX5.trans (hW.mono hX5.size))) (HLN.out W (hX5.trans (hW.mono hX5.size))))
        have HUB := Lib.hid (fun (W : World) (hW : Below V5.heap.size V5 W) => show Calls Tryz.prog 29 #[.agg #[.int .i64 s.kind, .string s.name, .string s.typ, .int .i64 s.e.kind, .int .i64 s.e.n, .string s.e.s, .slice A1 s.e.kids.length c1, .int .i64 s.t.kind, .int .i64 s.t.n, .string s.t.s, .slice A2 s.t.kids.length c2]] W (GivesBr (turnS s) W) from bareOf_any s A1 A2 c1 c2 w1.heap.size ad W (HKS.out W (hX5.trans (hW.mono hX5.size)) _ (Nat.le_refl _)).1 (HKS.out W (hX5.trans (hW.mono hX5.size)) _ (Nat.le_refl _)).2 hc1 hc2 (by have := hW.size; have := hX5.size; omega) (by have := HRW.out; omega) (HLL.out W (hX5.trans (hW.mono hX5.size))) (HLN.out W (hX5.trans (hW.mono hX5.size))))
        have HSM5 := Lib.hid (fun (W : World) (Y1 Y2 : Option Addr) (m1 m2 : Nat) (hW : Below V5.heap.size V5 W) h1 h2 h3 h4 => HSM.out W Y1 Y2 m1 m2 (hX5.trans (hW.mono hX5.size)) h1 h2 h3 h4)
        unfold GivesBr brV at HTB HUB
        have HCT := Lib.hid (fun h : (doS (castS s)).isSome = true => cast_turn hkz hd (show doS (castS s) = some ((doS (castS s)).get h) by simp))
        have HCU := Lib.hid (show (doS s).isSome = true → turnS s = turnS s from fun _ => rfl)
        clear hX5 hVV hT5 hU5 hK5 HKC HKS HLL HLN HSM HS1 HB1 HMB HOK HS0 HB0 hd hkz
        generalize turnS (castS s) = xt at *
        generalize turnS s = xu at *
        generalize (doS (castS s)).isSome = okt at *
        generalize (doS s).isSome = oku at *
        cases okt
        · cases oku
          · go_wp2_with fail
            rw [← hV5]
            clear hV5
            refine wp_region_noPanic ?_
            refine wp_region_held_drew (S := (fun W => BlkT W (V.heap.size) #[.int .i64 s.kind, .string s.name, .string s.typ, .int .i64 4, .int .i64 0, .string ⟨#[105, 110, 116]⟩, .slice (some ⟨V.heap.size + 1, 0, none⟩) 1 1, .int .i64 s.t.kind, .int .i64 s.t.n, .string s.t.s, .slice A2 s.t.kids.length c2] 35 ∧ BlkT W w3.heap.size #[.int .i64 x.kind, .string x.name, .int .i64 x.e.kind, .int .i64 x.e.n, .string x.e.s, .slice B1 x.e.kids.length d1, .int .i64 x.t.kind, .int .i64 x.t.n, .string x.t.s, .slice B2 x.t.kids.length d2] 52 ∧ BlkT W (V.heap.size + 2) #[.int .i64 s.kind, .string s.name, .string s.typ, .int .i64 s.e.kind, .int .i64 s.e.n, .string s.e.s, .slice A1 s.e.kids.length c1, .int .i64 s.t.kind, .int .i64 s.t.n, .string s.t.s, .slice A2 s.t.kids.length c2] 35 ∧ Below V5.heap.size V5 W)) (by kernel_rfl) (by exact ⟨HT5.out, HB5.out, HU5.out, (Below.refl _ V5).drew⟩) (fun hHeld => ?_)
            refine wpAnyH_take (i := 0) (v := ?valF0T92) rfl (by kernel_rfl) (by kernel_rfl) (by kernel_rfl) (fun _ _ _ h => h) (Or.inl ⟨by rfl, ?yieF0T92⟩) (by assumption) ?resF0T92
            case yieF0T92 =>
              intro w hSw
              try dsimp only at hSw
              obtain ⟨s0, s1, s2, s3⟩ := hSw
              have e0 := BlkT.cell s0 0
              have e1 := BlkT.cell s0 1
              have e2 := BlkT.cell s0 2
              have e3 := BlkT.cell s0 3
              have e4 := BlkT.cell s0 4
              have e5 := BlkT.cell s0 5
              have e6 := BlkT.cell s0 6
              have e7 := BlkT.cell s0 7
              have e8 := BlkT.cell s0 8
              have e9 := BlkT.cell s0 9
              have e10 := BlkT.cell s0 10
              simp only [List.getElem?_toArray, List.getElem?_cons_zero, List.getElem?_cons_succ] at e0 e1 e2 e3 e4 e5 e6 e7 e8 e9 e10
              go_simp
              try with_reducible rfl
            try simp only [Act.put, List.setIfInBounds_toArray, List.set_cons_zero, List.set_cons_succ, List.getElem_toArray, List.getElem_cons_zero, List.getElem_cons_succ]
            refine wpAnyH_ready (rs := [1]) (by kernel_rfl) (by simp) ?_
            refine AllReadyH.cons rfl (fun K hK => ?_) AllReadyH.nil
            go_simp
            refine (HTK.out _ (Below.refl _ V5).drew).mono ?_
            rintro r W1 ⟨rfl, hbY⟩
            have hb1 : Below V5.heap.size V5 W1 := (Below.refl _ V5).drew.trans hbY
            go_wp2_with fail
            refine hK.out _ _ (by exact ⟨HT5.out.below hb1, HB5.out.below hb1, HU5.out.below hb1, hb1⟩) (fun hHeld => ?_)
            clear hK K
            try simp only [Act.put, List.setIfInBounds_toArray, List.set_cons_zero, List.set_cons_succ, List.getElem_toArray, List.getElem_cons_zero, List.getElem_cons_succ]
            refine wpAnyH_take (i := 2) (v := ?valF2T93) rfl (by kernel_rfl) (by kernel_rfl) (by kernel_rfl) (fun _ _ _ h => h) (Or.inl ⟨by rfl, ?yieF2T93⟩) (by assumption) ?resF2T93
            case yieF2T93 =>
              intro w hSw
              try dsimp only at hSw
              go_simp
              try with_reducible rfl
            try simp only [Act.put, List.setIfInBounds_toArray, List.set_cons_zero, List.set_cons_succ, List.getElem_toArray, List.getElem_cons_zero, List.getElem_cons_succ]
            refine wpAnyH_take (i := 3) (v := ?valF3T94) rfl (by kernel_rfl) (by kernel_rfl) (by kernel_rfl) (fun _ _ _ h => h) (Or.inl ⟨by rfl, ?yieF3T94⟩) (by assumption) ?resF3T94
            case yieF3T94 =>
              intro w hSw
              try dsimp only at hSw
              go_simp
              try with_reducible rfl
            try simp only [Act.put, List.setIfInBounds_toArray, List.set_cons_zero, List.set_cons_succ, List.getElem_toArray, List.getElem_cons_zero, List.getElem_cons_succ]
            refine wpAnyH_take (i := 4) (v := undef) rfl (by kernel_rfl) (by kernel_rfl) (by kernel_rfl) (fun _ _ _ h => h) (Or.inr ⟨by rfl, rfl⟩) (by assumption) ?_
            try simp only [Act.put, List.setIfInBounds_toArray, List.set_cons_zero, List.set_cons_succ, List.getElem_toArray, List.getElem_cons_zero, List.getElem_cons_succ]
            refine wpAnyH_take (i := 5) (v := undef) rfl (by kernel_rfl) (by kernel_rfl) (by kernel_rfl) (fun _ _ _ h => h) (Or.inr ⟨by rfl, rfl⟩) (by assumption) ?_
            try simp only [Act.put, List.setIfInBounds_toArray, List.set_cons_zero, List.set_cons_succ, List.getElem_toArray, List.getElem_cons_zero, List.getElem_cons_succ]
            refine wpAnyH_take (i := 6) (v := undef) rfl (by kernel_rfl) (by kernel_rfl) (by kernel_rfl) (fun _ _ _ h => h) (Or.inr ⟨by rfl, rfl⟩) (by assumption) ?_
            try simp only [Act.put, List.setIfInBounds_toArray, List.set_cons_zero, List.set_cons_succ, List.getElem_toArray, List.getElem_cons_zero, List.getElem_cons_succ]
            refine wpAnyH_take (i := 7) (v := undef) rfl (by kernel_rfl) (by kernel_rfl) (by kernel_rfl) (fun _ _ _ h => h) (Or.inr ⟨by rfl, rfl⟩) (by assumption) ?_
            try simp only [Act.put, List.setIfInBounds_toArray, List.set_cons_zero, List.set_cons_succ, List.getElem_toArray, List.getElem_cons_zero, List.getElem_cons_succ]
            refine wpAnyH_take (i := 8) (v := ?valF8T95) rfl (by kernel_rfl) (by kernel_rfl) (by kernel_rfl) (fun _ _ _ h => h) (Or.inl ⟨by rfl, ?yieF8T95⟩) (by assumption) ?resF8T95
            case yieF8T95 =>
              intro w hSw
              try dsimp only at hSw
              go_simp
              try with_reducible rfl
            try simp only [Act.put, List.setIfInBounds_toArray, List.set_cons_zero, List.set_cons_succ, List.getElem_toArray, List.getElem_cons_zero, List.getElem_cons_succ]
            refine wpAnyH_take (i := 9) (v := ?valF9T96) rfl (by kernel_rfl) (by kernel_rfl) (by kernel_rfl) (fun _ _ _ h => h) (Or.inl ⟨by rfl, ?yieF9T96⟩) (by assumption) ?resF9T96
            case yieF9T96 =>
              intro w hSw
              try dsimp only at hSw
              go_simp
              try with_reducible rfl
            try simp only [Act.put, List.setIfInBounds_toArray, List.set_cons_zero, List.set_cons_succ, List.getElem_toArray, List.getElem_cons_zero, List.getElem_cons_succ]
            refine wpAnyH_take (i := 10) (v := ?valF10T97) rfl (by kernel_rfl) (by kernel_rfl) (by kernel_rfl) (fun _ _ _ h => h) (Or.inl ⟨by rfl, ?yieF10T97⟩) (by assumption) ?resF10T97
            case yieF10T97 =>
              intro w hSw
              try dsimp only at hSw
              obtain ⟨s0, s1, s2, s3⟩ := hSw
              have e0 := BlkT.cell s2 0
              have e1 := BlkT.cell s2 1
              have e2 := BlkT.cell s2 2
              have e3 := BlkT.cell s2 3
              have e4 := BlkT.cell s2 4
              have e5 := BlkT.cell s2 5
              have e6 := BlkT.cell s2 6
              have e7 := BlkT.cell s2 7
              have e8 := BlkT.cell s2 8
              have e9 := BlkT.cell s2 9
              have e10 := BlkT.cell s2 10
              simp only [List.getElem?_toArray, List.getElem?_cons_zero, List.getElem?_cons_succ] at e0 e1 e2 e3 e4 e5 e6 e7 e8 e9 e10
              go_simp
              try with_reducible rfl
            try simp only [Act.put, List.setIfInBounds_toArray, List.set_cons_zero, List.set_cons_succ, List.getElem_toArray, List.getElem_cons_zero, List.getElem_cons_succ]
            refine wpAnyH_ready (rs := [11]) (by kernel_rfl) (by simp) ?_
            refine AllReadyH.cons rfl (fun K hK => ?_) AllReadyH.nil
            go_simp
            refine (HUK.out _ hb1).mono ?_
            rintro r W4 ⟨rfl, hbY4⟩
            have hb4 : Below V5.heap.size V5 W4 := hb1.trans (hbY4.mono hb1.size)
            go_wp2_with fail
            refine hK.out _ _ (by exact ⟨HT5.out.below hb4, HB5.out.below hb4, HU5.out.below hb4, hb4⟩) (fun hHeld => ?_)
            clear hK K
            try simp only [Act.put, List.setIfInBounds_toArray, List.set_cons_zero, List.set_cons_succ, List.getElem_toArray, List.getElem_cons_zero, List.getElem_cons_succ]
            refine wpAnyH_take (i := 12) (v := ?valF12T98) rfl (by kernel_rfl) (by kernel_rfl) (by kernel_rfl) (fun _ _ _ h => h) (Or.inl ⟨by rfl, ?yieF12T98⟩) (by assumption) ?resF12T98
            case yieF12T98 =>
              intro w hSw
              try dsimp only at hSw
              go_simp
              try with_reducible rfl
            try simp only [Act.put, List.setIfInBounds_toArray, List.set_cons_zero, List.set_cons_succ, List.getElem_toArray, List.getElem_cons_zero, List.getElem_cons_succ]
            refine wpAnyH_take (i := 13) (v := ?valF13T99) rfl (by kernel_rfl) (by kernel_rfl) (by kernel_rfl) (fun _ _ _ h => h) (Or.inl ⟨by rfl, ?yieF13T99⟩) (by assumption) ?resF13T99
            case yieF13T99 =>
              intro w hSw
              try dsimp only at hSw
              go_simp
              try with_reducible rfl
            try simp only [Act.put, List.setIfInBounds_toArray, List.set_cons_zero, List.set_cons_succ, List.getElem_toArray, List.getElem_cons_zero, List.getElem_cons_succ]
            refine wpAnyH_take (i := 14) (v := undef) rfl (by kernel_rfl) (by kernel_rfl) (by kernel_rfl) (fun _ _ _ h => h) (Or.inr ⟨by rfl, rfl⟩) (by assumption) ?_
            try simp only [Act.put, List.setIfInBounds_toArray, List.set_cons_zero, List.set_cons_succ, List.getElem_toArray, List.getElem_cons_zero, List.getElem_cons_succ]
            refine wpAnyH_take (i := 15) (v := undef) rfl (by kernel_rfl) (by kernel_rfl) (by kernel_rfl) (fun _ _ _ h => h) (Or.inr ⟨by rfl, rfl⟩) (by assumption) ?_
            try simp only [Act.put, List.setIfInBounds_toArray, List.set_cons_zero, List.set_cons_succ, List.getElem_toArray, List.getElem_cons_zero, List.getElem_cons_succ]
            refine wpAnyH_take (i := 16) (v := undef) rfl (by kernel_rfl) (by kernel_rfl) (by kernel_rfl) (fun _ _ _ h => h) (Or.inr ⟨by rfl, rfl⟩) (by assumption) ?_
            try simp only [Act.put, List.setIfInBounds_toArray, List.set_cons_zero, List.set_cons_succ, List.getElem_toArray, List.getElem_cons_zero, List.getElem_cons_succ]
            refine wpAnyH_take (i := 17) (v := undef) rfl (by kernel_rfl) (by kernel_rfl) (by kernel_rfl) (fun _ _ _ h => h) (Or.inr ⟨by rfl, rfl⟩) (by assumption) ?_
            try simp only [Act.put, List.setIfInBounds_toArray, List.set_cons_zero, List.set_cons_succ, List.getElem_toArray, List.getElem_cons_zero, List.getElem_cons_succ]
            refine wpAnyH_take (i := 18) (v := ?valF18T100) rfl (by kernel_rfl) (by kernel_rfl) (by kernel_rfl) (fun _ _ _ h => h) (Or.inl ⟨by rfl, ?yieF18T100⟩) (by assumption) ?resF18T100
            case yieF18T100 =>
              intro w hSw
              try dsimp only at hSw
              go_simp
              try with_reducible rfl
            try simp only [Act.put, List.setIfInBounds_toArray, List.set_cons_zero, List.set_cons_succ, List.getElem_toArray, List.getElem_cons_zero, List.getElem_cons_succ]
            refine wpAnyH_take (i := 19) (v := ?valF19T101) rfl (by kernel_rfl) (by kernel_rfl) (by kernel_rfl) (fun _ _ _ h => h) (Or.inl ⟨by rfl, ?yieF19T101⟩) (by assumption) ?resF19T101
            case yieF19T101 =>
              intro w hSw
              try dsimp only at hSw
              go_simp
              try with_reducible rfl
            try simp only [Act.put, List.setIfInBounds_toArray, List.set_cons_zero, List.set_cons_succ, List.getElem_toArray, List.getElem_cons_zero, List.getElem_cons_succ]
            refine wpAnyH_take (i := 20) (v := ?valF20T102) rfl (by kernel_rfl) (by kernel_rfl) (by kernel_rfl) (fun _ _ _ h => h) (Or.inl ⟨by rfl, ?yieF20T102⟩) (by assumption) ?resF20T102
            case yieF20T102 =>
              intro w hSw
              try dsimp only at hSw
              go_simp
              try with_reducible rfl
            try simp only [Act.put, List.setIfInBounds_toArray, List.set_cons_zero, List.set_cons_succ, List.getElem_toArray, List.getElem_cons_zero, List.getElem_cons_succ]
            refine wpAnyH_done (by kernel_rfl) ?_ _
            refine NoPanic.normal ?_
            go_wp2_with fail
            go_ret
            exact ⟨rfl, HBW.out.trans ((HX5.out.trans (hb4.mono HX5.out.size)).mono HBW.out.size)⟩
          · obtain rfl : x = xu := ((HCU.out rfl).trans HXE.out).symm
            go_wp2_with fail
            rw [← hV5]
            clear hV5
            refine wp_region_noPanic ?_
            refine wp_region_held_drew (S := (fun W => BlkT W (V.heap.size) #[.int .i64 s.kind, .string s.name, .string s.typ, .int .i64 4, .int .i64 0, .string ⟨#[105, 110, 116]⟩, .slice (some ⟨V.heap.size + 1, 0, none⟩) 1 1, .int .i64 s.t.kind, .int .i64 s.t.n, .string s.t.s, .slice A2 s.t.kids.length c2] 35 ∧ BlkT W w3.heap.size #[.int .i64 x.kind, .string x.name, .int .i64 x.e.kind, .int .i64 x.e.n, .string x.e.s, .slice B1 x.e.kids.length d1, .int .i64 x.t.kind, .int .i64 x.t.n, .string x.t.s, .slice B2 x.t.kids.length d2] 52 ∧ BlkT W (V.heap.size + 2) #[.int .i64 s.kind, .string s.name, .string s.typ, .int .i64 s.e.kind, .int .i64 s.e.n, .string s.e.s, .slice A1 s.e.kids.length c1, .int .i64 s.t.kind, .int .i64 s.t.n, .string s.t.s, .slice A2 s.t.kids.length c2] 35 ∧ Below V5.heap.size V5 W)) (by kernel_rfl) (by exact ⟨HT5.out, HB5.out, HU5.out, (Below.refl _ V5).drew⟩) (fun hHeld => ?_)
            refine wpAnyH_take (i := 0) (v := ?valF0T103) rfl (by kernel_rfl) (by kernel_rfl) (by kernel_rfl) (fun _ _ _ h => h) (Or.inl ⟨by rfl, ?yieF0T103⟩) (by assumption) ?resF0T103
            case yieF0T103 =>
              intro w hSw
              try dsimp only at hSw
              obtain ⟨s0, s1, s2, s3⟩ := hSw
              have e0 := BlkT.cell s0 0
              have e1 := BlkT.cell s0 1
              have e2 := BlkT.cell s0 2
              have e3 := BlkT.cell s0 3
              have e4 := BlkT.cell s0 4
              have e5 := BlkT.cell s0 5
              have e6 := BlkT.cell s0 6
              have e7 := BlkT.cell s0 7
              have e8 := BlkT.cell s0 8
              have e9 := BlkT.cell s0 9
              have e10 := BlkT.cell s0 10
              simp only [List.getElem?_toArray, List.getElem?_cons_zero, List.getElem?_cons_succ] at e0 e1 e2 e3 e4 e5 e6 e7 e8 e9 e10
              go_simp
              try with_reducible rfl
            try simp only [Act.put, List.setIfInBounds_toArray, List.set_cons_zero, List.set_cons_succ, List.getElem_toArray, List.getElem_cons_zero, List.getElem_cons_succ]
            refine wpAnyH_ready (rs := [1]) (by kernel_rfl) (by simp) ?_
            refine AllReadyH.cons rfl (fun K hK => ?_) AllReadyH.nil
            go_simp
            refine (HTK.out _ (Below.refl _ V5).drew).mono ?_
            rintro r W1 ⟨rfl, hbY⟩
            have hb1 : Below V5.heap.size V5 W1 := (Below.refl _ V5).drew.trans hbY
            go_wp2_with fail
            refine hK.out _ _ (by exact ⟨HT5.out.below hb1, HB5.out.below hb1, HU5.out.below hb1, hb1⟩) (fun hHeld => ?_)
            clear hK K
            try simp only [Act.put, List.setIfInBounds_toArray, List.set_cons_zero, List.set_cons_succ, List.getElem_toArray, List.getElem_cons_zero, List.getElem_cons_succ]
            refine wpAnyH_take (i := 2) (v := ?valF2T104) rfl (by kernel_rfl) (by kernel_rfl) (by kernel_rfl) (fun _ _ _ h => h) (Or.inl ⟨by rfl, ?yieF2T104⟩) (by assumption) ?resF2T104
            case yieF2T104 =>
              intro w hSw
              try dsimp only at hSw
              go_simp
              try with_reducible rfl
            try simp only [Act.put, List.setIfInBounds_toArray, List.set_cons_zero, List.set_cons_succ, List.getElem_toArray, List.getElem_cons_zero, List.getElem_cons_succ]
            refine wpAnyH_take (i := 3) (v := ?valF3T105) rfl (by kernel_rfl) (by kernel_rfl) (by kernel_rfl) (fun _ _ _ h => h) (Or.inl ⟨by rfl, ?yieF3T105⟩) (by assumption) ?resF3T105
            case yieF3T105 =>
              intro w hSw
              try dsimp only at hSw
              go_simp
              try with_reducible rfl
            try simp only [Act.put, List.setIfInBounds_toArray, List.set_cons_zero, List.set_cons_succ, List.getElem_toArray, List.getElem_cons_zero, List.getElem_cons_succ]
            refine wpAnyH_take (i := 4) (v := undef) rfl (by kernel_rfl) (by kernel_rfl) (by kernel_rfl) (fun _ _ _ h => h) (Or.inr ⟨by rfl, rfl⟩) (by assumption) ?_
            try simp only [Act.put, List.setIfInBounds_toArray, List.set_cons_zero, List.set_cons_succ, List.getElem_toArray, List.getElem_cons_zero, List.getElem_cons_succ]
            refine wpAnyH_take (i := 5) (v := undef) rfl (by kernel_rfl) (by kernel_rfl) (by kernel_rfl) (fun _ _ _ h => h) (Or.inr ⟨by rfl, rfl⟩) (by assumption) ?_
            try simp only [Act.put, List.setIfInBounds_toArray, List.set_cons_zero, List.set_cons_succ, List.getElem_toArray, List.getElem_cons_zero, List.getElem_cons_succ]
            refine wpAnyH_take (i := 6) (v := undef) rfl (by kernel_rfl) (by kernel_rfl) (by kernel_rfl) (fun _ _ _ h => h) (Or.inr ⟨by rfl, rfl⟩) (by assumption) ?_
            try simp only [Act.put, List.setIfInBounds_toArray, List.set_cons_zero, List.set_cons_succ, List.getElem_toArray, List.getElem_cons_zero, List.getElem_cons_succ]
            refine wpAnyH_take (i := 7) (v := undef) rfl (by kernel_rfl) (by kernel_rfl) (by kernel_rfl) (fun _ _ _ h => h) (Or.inr ⟨by rfl, rfl⟩) (by assumption) ?_
            try simp only [Act.put, List.setIfInBounds_toArray, List.set_cons_zero, List.set_cons_succ, List.getElem_toArray, List.getElem_cons_zero, List.getElem_cons_succ]
            refine wpAnyH_take (i := 8) (v := ?valF8T106) rfl (by kernel_rfl) (by kernel_rfl) (by kernel_rfl) (fun _ _ _ h => h) (Or.inl ⟨by rfl, ?yieF8T106⟩) (by assumption) ?resF8T106
            case yieF8T106 =>
              intro w hSw
              try dsimp only at hSw
              go_simp
              try with_reducible rfl
            try simp only [Act.put, List.setIfInBounds_toArray, List.set_cons_zero, List.set_cons_succ, List.getElem_toArray, List.getElem_cons_zero, List.getElem_cons_succ]
            refine wpAnyH_take (i := 9) (v := ?valF9T107) rfl (by kernel_rfl) (by kernel_rfl) (by kernel_rfl) (fun _ _ _ h => h) (Or.inl ⟨by rfl, ?yieF9T107⟩) (by assumption) ?resF9T107
            case yieF9T107 =>
              intro w hSw
              try dsimp only at hSw
              go_simp
              try with_reducible rfl
            try simp only [Act.put, List.setIfInBounds_toArray, List.set_cons_zero, List.set_cons_succ, List.getElem_toArray, List.getElem_cons_zero, List.getElem_cons_succ]
            refine wpAnyH_take (i := 10) (v := ?valF10T108) rfl (by kernel_rfl) (by kernel_rfl) (by kernel_rfl) (fun _ _ _ h => h) (Or.inl ⟨by rfl, ?yieF10T108⟩) (by assumption) ?resF10T108
            case yieF10T108 =>
              intro w hSw
              try dsimp only at hSw
              obtain ⟨s0, s1, s2, s3⟩ := hSw
              have e0 := BlkT.cell s2 0
              have e1 := BlkT.cell s2 1
              have e2 := BlkT.cell s2 2
              have e3 := BlkT.cell s2 3
              have e4 := BlkT.cell s2 4
              have e5 := BlkT.cell s2 5
              have e6 := BlkT.cell s2 6
              have e7 := BlkT.cell s2 7
              have e8 := BlkT.cell s2 8
              have e9 := BlkT.cell s2 9
              have e10 := BlkT.cell s2 10
              simp only [List.getElem?_toArray, List.getElem?_cons_zero, List.getElem?_cons_succ] at e0 e1 e2 e3 e4 e5 e6 e7 e8 e9 e10
              go_simp
              try with_reducible rfl
            try simp only [Act.put, List.setIfInBounds_toArray, List.set_cons_zero, List.set_cons_succ, List.getElem_toArray, List.getElem_cons_zero, List.getElem_cons_succ]
            refine wpAnyH_ready (rs := [11]) (by kernel_rfl) (by simp) ?_
            refine AllReadyH.cons rfl (fun K hK => ?_) AllReadyH.nil
            go_simp
            refine (HUK.out _ hb1).mono ?_
            rintro r W4 ⟨rfl, hbY4⟩
            have hb4 : Below V5.heap.size V5 W4 := hb1.trans (hbY4.mono hb1.size)
            go_wp2_with fail
            refine hK.out _ _ (by exact ⟨HT5.out.below hb4, HB5.out.below hb4, HU5.out.below hb4, hb4⟩) (fun hHeld => ?_)
            clear hK K
            try simp only [Act.put, List.setIfInBounds_toArray, List.set_cons_zero, List.set_cons_succ, List.getElem_toArray, List.getElem_cons_zero, List.getElem_cons_succ]
            refine wpAnyH_take (i := 12) (v := ?valF12T109) rfl (by kernel_rfl) (by kernel_rfl) (by kernel_rfl) (fun _ _ _ h => h) (Or.inl ⟨by rfl, ?yieF12T109⟩) (by assumption) ?resF12T109
            case yieF12T109 =>
              intro w hSw
              try dsimp only at hSw
              go_simp
              try with_reducible rfl
            try simp only [Act.put, List.setIfInBounds_toArray, List.set_cons_zero, List.set_cons_succ, List.getElem_toArray, List.getElem_cons_zero, List.getElem_cons_succ]
            refine wpAnyH_take (i := 13) (v := ?valF13T110) rfl (by kernel_rfl) (by kernel_rfl) (by kernel_rfl) (fun _ _ _ h => h) (Or.inl ⟨by rfl, ?yieF13T110⟩) (by assumption) ?resF13T110
            case yieF13T110 =>
              intro w hSw
              try dsimp only at hSw
              go_simp
              try with_reducible rfl
            try simp only [Act.put, List.setIfInBounds_toArray, List.set_cons_zero, List.set_cons_succ, List.getElem_toArray, List.getElem_cons_zero, List.getElem_cons_succ]
            refine wpAnyH_take (i := 14) (v := ?valF14T111) rfl (by kernel_rfl) (by kernel_rfl) (by kernel_rfl) (fun _ _ _ h => h) (Or.inl ⟨by rfl, ?yieF14T111⟩) (by assumption) ?resF14T111
            case yieF14T111 =>
              intro w hSw
              try dsimp only at hSw
              obtain ⟨s0, s1, s2, s3⟩ := hSw
              have e0 := BlkT.cell s2 0
              have e1 := BlkT.cell s2 1
              have e2 := BlkT.cell s2 2
              have e3 := BlkT.cell s2 3
              have e4 := BlkT.cell s2 4
              have e5 := BlkT.cell s2 5
              have e6 := BlkT.cell s2 6
              have e7 := BlkT.cell s2 7
              have e8 := BlkT.cell s2 8
              have e9 := BlkT.cell s2 9
              have e10 := BlkT.cell s2 10
              simp only [List.getElem?_toArray, List.getElem?_cons_zero, List.getElem?_cons_succ] at e0 e1 e2 e3 e4 e5 e6 e7 e8 e9 e10
              go_simp
              try with_reducible rfl
            try simp only [Act.put, List.setIfInBounds_toArray, List.set_cons_zero, List.set_cons_succ, List.getElem_toArray, List.getElem_cons_zero, List.getElem_cons_succ]
            refine wpAnyH_take (i := 16) (v := ?valF16T112) rfl (by kernel_rfl) (by kernel_rfl) (by kernel_rfl) (fun _ _ _ h => h) (Or.inl ⟨by rfl, ?yieF16T112⟩) (by assumption) ?resF16T112
            case yieF16T112 =>
              intro w hSw
              try dsimp only at hSw
              obtain ⟨s0, s1, s2, s3⟩ := hSw
              have e0 := BlkT.cell s1 0
              have e1 := BlkT.cell s1 1
              have e2 := BlkT.cell s1 2
              have e3 := BlkT.cell s1 3
              have e4 := BlkT.cell s1 4
              have e5 := BlkT.cell s1 5
              have e6 := BlkT.cell s1 6
              have e7 := BlkT.cell s1 7
              have e8 := BlkT.cell s1 8
              have e9 := BlkT.cell s1 9
              simp only [List.getElem?_toArray, List.getElem?_cons_zero, List.getElem?_cons_succ] at e0 e1 e2 e3 e4 e5 e6 e7 e8 e9
              go_simp
              try with_reducible rfl
            try simp only [Act.put, List.setIfInBounds_toArray, List.set_cons_zero, List.set_cons_succ, List.getElem_toArray, List.getElem_cons_zero, List.getElem_cons_succ]
            refine wpAnyH_ready (rs := [15]) (by kernel_rfl) (by simp) ?_
            refine AllReadyH.cons rfl (fun K hK => ?_) AllReadyH.nil
            go_simp
            refine (HUB.out _ hb4).mono ?_
            rintro r W5 ⟨Z1, n1, Z2, n2, nn, rfl, hn1, hn2, hZ1, hZ2, hnn, hbZ5⟩
            have hb5 : Below V5.heap.size V5 W5 := hb4.trans (hbZ5.mono hb4.size)
            have HZ := Lib.hid (kids_two hZ1 hZ2)
            go_wp2_with fail
            refine hK.out _ _ (by exact ⟨HT5.out.below hb5, HB5.out.below hb5, HU5.out.below hb5, hb5⟩) (fun hHeld => ?_)
            clear hK K
            try simp only [Act.put, List.setIfInBounds_toArray, List.set_cons_zero, List.set_cons_succ, List.getElem_toArray, List.getElem_cons_zero, List.getElem_cons_succ]
            refine wpAnyH_ready (rs := [17]) (by kernel_rfl) (by simp) ?_
            refine AllReadyH.cons rfl (fun K hK => ?_) AllReadyH.nil
            go_simp
            refine ((HSM5.out _ Z1 Z2 n1 n2 hb5 HZ.out.1 HZ.out.2 hn1 hn2).2).mono ?_
            rintro r W6 ⟨rfl, hbZ6⟩
            have hb6 : Below V5.heap.size V5 W6 := hb5.trans (hbZ6.mono hb5.size)
            go_wp2_with fail
            refine hK.out _ _ (by exact ⟨HT5.out.below hb6, HB5.out.below hb6, HU5.out.below hb6, hb6⟩) (fun hHeld => ?_)
            clear hK K
            try simp only [Act.put, List.setIfInBounds_toArray, List.set_cons_zero, List.set_cons_succ, List.getElem_toArray, List.getElem_cons_zero, List.getElem_cons_succ]
            refine wpAnyH_take (i := 18) (v := ?valF18T113) rfl (by kernel_rfl) (by kernel_rfl) (by kernel_rfl) (fun _ _ _ h => h) (Or.inl ⟨by rfl, ?yieF18T113⟩) (by assumption) ?resF18T113
            case yieF18T113 =>
              intro w hSw
              try dsimp only at hSw
              go_simp
              try with_reducible rfl
            try simp only [Act.put, List.setIfInBounds_toArray, List.set_cons_zero, List.set_cons_succ, List.getElem_toArray, List.getElem_cons_zero, List.getElem_cons_succ]
            refine wpAnyH_take (i := 19) (v := ?valF19T114) rfl (by kernel_rfl) (by kernel_rfl) (by kernel_rfl) (fun _ _ _ h => h) (Or.inl ⟨by rfl, ?yieF19T114⟩) (by assumption) ?resF19T114
            case yieF19T114 =>
              intro w hSw
              try dsimp only at hSw
              go_simp
              try with_reducible rfl
            try simp only [Act.put, List.setIfInBounds_toArray, List.set_cons_zero, List.set_cons_succ, List.getElem_toArray, List.getElem_cons_zero, List.getElem_cons_succ]
            refine wpAnyH_take (i := 20) (v := ?valF20T115) rfl (by kernel_rfl) (by kernel_rfl) (by kernel_rfl) (fun _ _ _ h => h) (Or.inl ⟨by rfl, ?yieF20T115⟩) (by assumption) ?resF20T115
            case yieF20T115 =>
              intro w hSw
              try dsimp only at hSw
              go_simp
              try with_reducible rfl
            try simp only [Act.put, List.setIfInBounds_toArray, List.set_cons_zero, List.set_cons_succ, List.getElem_toArray, List.getElem_cons_zero, List.getElem_cons_succ]
            refine wpAnyH_done (by kernel_rfl) ?_ _
            refine NoPanic.normal ?_
            go_wp2_with fail
            go_ret
            exact ⟨rfl, HBW.out.trans ((HX5.out.trans (hb6.mono HX5.out.size)).mono HBW.out.size)⟩
        · cases oku
          · obtain rfl : x = xt := ((HCT.out rfl).trans HXE.out).symm
            go_wp2_with fail
            rw [← hV5]
            clear hV5
            refine wp_region_noPanic ?_
            refine wp_region_held_drew (S := (fun W => BlkT W (V.heap.size) #[.int .i64 s.kind, .string s.name, .string s.typ, .int .i64 4, .int .i64 0, .string ⟨#[105, 110, 116]⟩, .slice (some ⟨V.heap.size + 1, 0, none⟩) 1 1, .int .i64 s.t.kind, .int .i64 s.t.n, .string s.t.s, .slice A2 s.t.kids.length c2] 35 ∧ BlkT W w3.heap.size #[.int .i64 x.kind, .string x.name, .int .i64 x.e.kind, .int .i64 x.e.n, .string x.e.s, .slice B1 x.e.kids.length d1, .int .i64 x.t.kind, .int .i64 x.t.n, .string x.t.s, .slice B2 x.t.kids.length d2] 52 ∧ BlkT W (V.heap.size + 2) #[.int .i64 s.kind, .string s.name, .string s.typ, .int .i64 s.e.kind, .int .i64 s.e.n, .string s.e.s, .slice A1 s.e.kids.length c1, .int .i64 s.t.kind, .int .i64 s.t.n, .string s.t.s, .slice A2 s.t.kids.length c2] 35 ∧ Below V5.heap.size V5 W)) (by kernel_rfl) (by exact ⟨HT5.out, HB5.out, HU5.out, (Below.refl _ V5).drew⟩) (fun hHeld => ?_)
            refine wpAnyH_take (i := 0) (v := ?valF0T116) rfl (by kernel_rfl) (by kernel_rfl) (by kernel_rfl) (fun _ _ _ h => h) (Or.inl ⟨by rfl, ?yieF0T116⟩) (by assumption) ?resF0T116
            case yieF0T116 =>
              intro w hSw
              try dsimp only at hSw
              obtain ⟨s0, s1, s2, s3⟩ := hSw
              have e0 := BlkT.cell s0 0
              have e1 := BlkT.cell s0 1
              have e2 := BlkT.cell s0 2
              have e3 := BlkT.cell s0 3
              have e4 := BlkT.cell s0 4
              have e5 := BlkT.cell s0 5
              have e6 := BlkT.cell s0 6
              have e7 := BlkT.cell s0 7
              have e8 := BlkT.cell s0 8
              have e9 := BlkT.cell s0 9
              have e10 := BlkT.cell s0 10
              simp only [List.getElem?_toArray, List.getElem?_cons_zero, List.getElem?_cons_succ] at e0 e1 e2 e3 e4 e5 e6 e7 e8 e9 e10
              go_simp
              try with_reducible rfl
            try simp only [Act.put, List.setIfInBounds_toArray, List.set_cons_zero, List.set_cons_succ, List.getElem_toArray, List.getElem_cons_zero, List.getElem_cons_succ]
            refine wpAnyH_ready (rs := [1]) (by kernel_rfl) (by simp) ?_
            refine AllReadyH.cons rfl (fun K hK => ?_) AllReadyH.nil
            go_simp
            refine (HTK.out _ (Below.refl _ V5).drew).mono ?_
            rintro r W1 ⟨rfl, hbY⟩
            have hb1 : Below V5.heap.size V5 W1 := (Below.refl _ V5).drew.trans hbY
            go_wp2_with fail
            refine hK.out _ _ (by exact ⟨HT5.out.below hb1, HB5.out.below hb1, HU5.out.below hb1, hb1⟩) (fun hHeld => ?_)
            clear hK K
            try simp only [Act.put, List.setIfInBounds_toArray, List.set_cons_zero, List.set_cons_succ, List.getElem_toArray, List.getElem_cons_zero, List.getElem_cons_succ]
            refine wpAnyH_take (i := 2) (v := ?valF2T117) rfl (by kernel_rfl) (by kernel_rfl) (by kernel_rfl) (fun _ _ _ h => h) (Or.inl ⟨by rfl, ?yieF2T117⟩) (by assumption) ?resF2T117
            case yieF2T117 =>
              intro w hSw
              try dsimp only at hSw
              go_simp
              try with_reducible rfl
            try simp only [Act.put, List.setIfInBounds_toArray, List.set_cons_zero, List.set_cons_succ, List.getElem_toArray, List.getElem_cons_zero, List.getElem_cons_succ]
            refine wpAnyH_take (i := 3) (v := ?valF3T118) rfl (by kernel_rfl) (by kernel_rfl) (by kernel_rfl) (fun _ _ _ h => h) (Or.inl ⟨by rfl, ?yieF3T118⟩) (by assumption) ?resF3T118
            case yieF3T118 =>
              intro w hSw
              try dsimp only at hSw
              go_simp
              try with_reducible rfl
            try simp only [Act.put, List.setIfInBounds_toArray, List.set_cons_zero, List.set_cons_succ, List.getElem_toArray, List.getElem_cons_zero, List.getElem_cons_succ]
            refine wpAnyH_take (i := 4) (v := ?valF4T119) rfl (by kernel_rfl) (by kernel_rfl) (by kernel_rfl) (fun _ _ _ h => h) (Or.inl ⟨by rfl, ?yieF4T119⟩) (by assumption) ?resF4T119
            case yieF4T119 =>
              intro w hSw
              try dsimp only at hSw
              obtain ⟨s0, s1, s2, s3⟩ := hSw
              have e0 := BlkT.cell s0 0
              have e1 := BlkT.cell s0 1
              have e2 := BlkT.cell s0 2
              have e3 := BlkT.cell s0 3
              have e4 := BlkT.cell s0 4
              have e5 := BlkT.cell s0 5
              have e6 := BlkT.cell s0 6
              have e7 := BlkT.cell s0 7
              have e8 := BlkT.cell s0 8
              have e9 := BlkT.cell s0 9
              have e10 := BlkT.cell s0 10
              simp only [List.getElem?_toArray, List.getElem?_cons_zero, List.getElem?_cons_succ] at e0 e1 e2 e3 e4 e5 e6 e7 e8 e9 e10
              go_simp
              try with_reducible rfl
            try simp only [Act.put, List.setIfInBounds_toArray, List.set_cons_zero, List.set_cons_succ, List.getElem_toArray, List.getElem_cons_zero, List.getElem_cons_succ]
            refine wpAnyH_take (i := 6) (v := ?valF6T120) rfl (by kernel_rfl) (by kernel_rfl) (by kernel_rfl) (fun _ _ _ h => h) (Or.inl ⟨by rfl, ?yieF6T120⟩) (by assumption) ?resF6T120
            case yieF6T120 =>
              intro w hSw
              try dsimp only at hSw
              obtain ⟨s0, s1, s2, s3⟩ := hSw
              have e0 := BlkT.cell s1 0
              have e1 := BlkT.cell s1 1
              have e2 := BlkT.cell s1 2
              have e3 := BlkT.cell s1 3
              have e4 := BlkT.cell s1 4
              have e5 := BlkT.cell s1 5
              have e6 := BlkT.cell s1 6
              have e7 := BlkT.cell s1 7
              have e8 := BlkT.cell s1 8
              have e9 := BlkT.cell s1 9
              simp only [List.getElem?_toArray, List.getElem?_cons_zero, List.getElem?_cons_succ] at e0 e1 e2 e3 e4 e5 e6 e7 e8 e9
              go_simp
              try with_reducible rfl
            try simp only [Act.put, List.setIfInBounds_toArray, List.set_cons_zero, List.set_cons_succ, List.getElem_toArray, List.getElem_cons_zero, List.getElem_cons_succ]
            refine wpAnyH_ready (rs := [5]) (by kernel_rfl) (by simp) ?_
            refine AllReadyH.cons rfl (fun K hK => ?_) AllReadyH.nil
            go_simp
            refine (HTB.out _ hb1).mono ?_
            rintro r W2 ⟨Y1, m1, Y2, m2, mm, rfl, hm1, hm2, hY1, hY2, hmm, hbZ⟩
            have hb2 : Below V5.heap.size V5 W2 := hb1.trans (hbZ.mono hb1.size)
            have HY := Lib.hid (kids_two hY1 hY2)
            go_wp2_with fail
            refine hK.out _ _ (by exact ⟨HT5.out.below hb2, HB5.out.below hb2, HU5.out.below hb2, hb2⟩) (fun hHeld => ?_)
            clear hK K
            try simp only [Act.put, List.setIfInBounds_toArray, List.set_cons_zero, List.set_cons_succ, List.getElem_toArray, List.getElem_cons_zero, List.getElem_cons_succ]
            refine wpAnyH_ready (rs := [7]) (by kernel_rfl) (by simp) ?_
            refine AllReadyH.cons rfl (fun K hK => ?_) AllReadyH.nil
            go_simp
            refine ((HSM5.out _ Y1 Y2 m1 m2 hb2 HY.out.1 HY.out.2 hm1 hm2).2).mono ?_
            rintro r W3 ⟨rfl, hbZ3⟩
            have hb3 : Below V5.heap.size V5 W3 := hb2.trans (hbZ3.mono hb2.size)
            go_wp2_with fail
            refine hK.out _ _ (by exact ⟨HT5.out.below hb3, HB5.out.below hb3, HU5.out.below hb3, hb3⟩) (fun hHeld => ?_)
            clear hK K
            try simp only [Act.put, List.setIfInBounds_toArray, List.set_cons_zero, List.set_cons_succ, List.getElem_toArray, List.getElem_cons_zero, List.getElem_cons_succ]
            refine wpAnyH_take (i := 8) (v := ?valF8T121) rfl (by kernel_rfl) (by kernel_rfl) (by kernel_rfl) (fun _ _ _ h => h) (Or.inl ⟨by rfl, ?yieF8T121⟩) (by assumption) ?resF8T121
            case yieF8T121 =>
              intro w hSw
              try dsimp only at hSw
              go_simp
              try with_reducible rfl
            try simp only [Act.put, List.setIfInBounds_toArray, List.set_cons_zero, List.set_cons_succ, List.getElem_toArray, List.getElem_cons_zero, List.getElem_cons_succ]
            refine wpAnyH_take (i := 9) (v := ?valF9T122) rfl (by kernel_rfl) (by kernel_rfl) (by kernel_rfl) (fun _ _ _ h => h) (Or.inl ⟨by rfl, ?yieF9T122⟩) (by assumption) ?resF9T122
            case yieF9T122 =>
              intro w hSw
              try dsimp only at hSw
              go_simp
              try with_reducible rfl
            try simp only [Act.put, List.setIfInBounds_toArray, List.set_cons_zero, List.set_cons_succ, List.getElem_toArray, List.getElem_cons_zero, List.getElem_cons_succ]
            refine wpAnyH_take (i := 10) (v := ?valF10T123) rfl (by kernel_rfl) (by kernel_rfl) (by kernel_rfl) (fun _ _ _ h => h) (Or.inl ⟨by rfl, ?yieF10T123⟩) (by assumption) ?resF10T123
            case yieF10T123 =>
              intro w hSw
              try dsimp only at hSw
              obtain ⟨s0, s1, s2, s3⟩ := hSw
              have e0 := BlkT.cell s2 0
              have e1 := BlkT.cell s2 1
              have e2 := BlkT.cell s2 2
              have e3 := BlkT.cell s2 3
              have e4 := BlkT.cell s2 4
              have e5 := BlkT.cell s2 5
              have e6 := BlkT.cell s2 6
              have e7 := BlkT.cell s2 7
              have e8 := BlkT.cell s2 8
              have e9 := BlkT.cell s2 9
              have e10 := BlkT.cell s2 10
              simp only [List.getElem?_toArray, List.getElem?_cons_zero, List.getElem?_cons_succ] at e0 e1 e2 e3 e4 e5 e6 e7 e8 e9 e10
              go_simp
              try with_reducible rfl
            try simp only [Act.put, List.setIfInBounds_toArray, List.set_cons_zero, List.set_cons_succ, List.getElem_toArray, List.getElem_cons_zero, List.getElem_cons_succ]
            refine wpAnyH_ready (rs := [11]) (by kernel_rfl) (by simp) ?_
            refine AllReadyH.cons rfl (fun K hK => ?_) AllReadyH.nil
            go_simp
            refine (HUK.out _ hb3).mono ?_
            rintro r W4 ⟨rfl, hbY4⟩
            have hb4 : Below V5.heap.size V5 W4 := hb3.trans (hbY4.mono hb3.size)
            go_wp2_with fail
            refine hK.out _ _ (by exact ⟨HT5.out.below hb4, HB5.out.below hb4, HU5.out.below hb4, hb4⟩) (fun hHeld => ?_)
            clear hK K
            try simp only [Act.put, List.setIfInBounds_toArray, List.set_cons_zero, List.set_cons_succ, List.getElem_toArray, List.getElem_cons_zero, List.getElem_cons_succ]
            refine wpAnyH_take (i := 12) (v := ?valF12T124) rfl (by kernel_rfl) (by kernel_rfl) (by kernel_rfl) (fun _ _ _ h => h) (Or.inl ⟨by rfl, ?yieF12T124⟩) (by assumption) ?resF12T124
            case yieF12T124 =>
              intro w hSw
              try dsimp only at hSw
              go_simp
              try with_reducible rfl
            try simp only [Act.put, List.setIfInBounds_toArray, List.set_cons_zero, List.set_cons_succ, List.getElem_toArray, List.getElem_cons_zero, List.getElem_cons_succ]
            refine wpAnyH_take (i := 13) (v := ?valF13T125) rfl (by kernel_rfl) (by kernel_rfl) (by kernel_rfl) (fun _ _ _ h => h) (Or.inl ⟨by rfl, ?yieF13T125⟩) (by assumption) ?resF13T125
            case yieF13T125 =>
              intro w hSw
              try dsimp only at hSw
              go_simp
              try with_reducible rfl
            try simp only [Act.put, List.setIfInBounds_toArray, List.set_cons_zero, List.set_cons_succ, List.getElem_toArray, List.getElem_cons_zero, List.getElem_cons_succ]
            refine wpAnyH_take (i := 14) (v := undef) rfl (by kernel_rfl) (by kernel_rfl) (by kernel_rfl) (fun _ _ _ h => h) (Or.inr ⟨by rfl, rfl⟩) (by assumption) ?_
            try simp only [Act.put, List.setIfInBounds_toArray, List.set_cons_zero, List.set_cons_succ, List.getElem_toArray, List.getElem_cons_zero, List.getElem_cons_succ]
            refine wpAnyH_take (i := 15) (v := undef) rfl (by kernel_rfl) (by kernel_rfl) (by kernel_rfl) (fun _ _ _ h => h) (Or.inr ⟨by rfl, rfl⟩) (by assumption) ?_
            try simp only [Act.put, List.setIfInBounds_toArray, List.set_cons_zero, List.set_cons_succ, List.getElem_toArray, List.getElem_cons_zero, List.getElem_cons_succ]
            refine wpAnyH_take (i := 16) (v := undef) rfl (by kernel_rfl) (by kernel_rfl) (by kernel_rfl) (fun _ _ _ h => h) (Or.inr ⟨by rfl, rfl⟩) (by assumption) ?_
            try simp only [Act.put, List.setIfInBounds_toArray, List.set_cons_zero, List.set_cons_succ, List.getElem_toArray, List.getElem_cons_zero, List.getElem_cons_succ]
            refine wpAnyH_take (i := 17) (v := undef) rfl (by kernel_rfl) (by kernel_rfl) (by kernel_rfl) (fun _ _ _ h => h) (Or.inr ⟨by rfl, rfl⟩) (by assumption) ?_
            try simp only [Act.put, List.setIfInBounds_toArray, List.set_cons_zero, List.set_cons_succ, List.getElem_toArray, List.getElem_cons_zero, List.getElem_cons_succ]
            refine wpAnyH_take (i := 18) (v := ?valF18T126) rfl (by kernel_rfl) (by kernel_rfl) (by kernel_rfl) (fun _ _ _ h => h) (Or.inl ⟨by rfl, ?yieF18T126⟩) (by assumption) ?resF18T126
            case yieF18T126 =>
              intro w hSw
              try dsimp only at hSw
              go_simp
              try with_reducible rfl
            try simp only [Act.put, List.setIfInBounds_toArray, List.set_cons_zero, List.set_cons_succ, List.getElem_toArray, List.getElem_cons_zero, List.getElem_cons_succ]
            refine wpAnyH_take (i := 19) (v := ?valF19T127) rfl (by kernel_rfl) (by kernel_rfl) (by kernel_rfl) (fun _ _ _ h => h) (Or.inl ⟨by rfl, ?yieF19T127⟩) (by assumption) ?resF19T127
            case yieF19T127 =>
              intro w hSw
              try dsimp only at hSw
              go_simp
              try with_reducible rfl
            try simp only [Act.put, List.setIfInBounds_toArray, List.set_cons_zero, List.set_cons_succ, List.getElem_toArray, List.getElem_cons_zero, List.getElem_cons_succ]
            refine wpAnyH_take (i := 20) (v := ?valF20T128) rfl (by kernel_rfl) (by kernel_rfl) (by kernel_rfl) (fun _ _ _ h => h) (Or.inl ⟨by rfl, ?yieF20T128⟩) (by assumption) ?resF20T128
            case yieF20T128 =>
              intro w hSw
              try dsimp only at hSw
              go_simp
              try with_reducible rfl
            try simp only [Act.put, List.setIfInBounds_toArray, List.set_cons_zero, List.set_cons_succ, List.getElem_toArray, List.getElem_cons_zero, List.getElem_cons_succ]
            refine wpAnyH_done (by kernel_rfl) ?_ _
            refine NoPanic.normal ?_
            go_wp2_with fail
            go_ret
            exact ⟨rfl, HBW.out.trans ((HX5.out.trans (hb4.mono HX5.out.size)).mono HBW.out.size)⟩
          · obtain rfl : x = xt := ((HCT.out rfl).trans HXE.out).symm
            obtain rfl : x = xu := ((HCU.out rfl).trans HXE.out).symm
            go_wp2_with fail
            rw [← hV5]
            clear hV5
            refine wp_region_noPanic ?_
            refine wp_region_held_drew (S := (fun W => BlkT W (V.heap.size) #[.int .i64 s.kind, .string s.name, .string s.typ, .int .i64 4, .int .i64 0, .string ⟨#[105, 110, 116]⟩, .slice (some ⟨V.heap.size + 1, 0, none⟩) 1 1, .int .i64 s.t.kind, .int .i64 s.t.n, .string s.t.s, .slice A2 s.t.kids.length c2] 35 ∧ BlkT W w3.heap.size #[.int .i64 x.kind, .string x.name, .int .i64 x.e.kind, .int .i64 x.e.n, .string x.e.s, .slice B1 x.e.kids.length d1, .int .i64 x.t.kind, .int .i64 x.t.n, .string x.t.s, .slice B2 x.t.kids.length d2] 52 ∧ BlkT W (V.heap.size + 2) #[.int .i64 s.kind, .string s.name, .string s.typ, .int .i64 s.e.kind, .int .i64 s.e.n, .string s.e.s, .slice A1 s.e.kids.length c1, .int .i64 s.t.kind, .int .i64 s.t.n, .string s.t.s, .slice A2 s.t.kids.length c2] 35 ∧ Below V5.heap.size V5 W)) (by kernel_rfl) (by exact ⟨HT5.out, HB5.out, HU5.out, (Below.refl _ V5).drew⟩) (fun hHeld => ?_)
            refine wpAnyH_take (i := 0) (v := ?valF0T129) rfl (by kernel_rfl) (by kernel_rfl) (by kernel_rfl) (fun _ _ _ h => h) (Or.inl ⟨by rfl, ?yieF0T129⟩) (by assumption) ?resF0T129
            case yieF0T129 =>
              intro w hSw
              try dsimp only at hSw
              obtain ⟨s0, s1, s2, s3⟩ := hSw
              have e0 := BlkT.cell s0 0
              have e1 := BlkT.cell s0 1
              have e2 := BlkT.cell s0 2
              have e3 := BlkT.cell s0 3
              have e4 := BlkT.cell s0 4
              have e5 := BlkT.cell s0 5
              have e6 := BlkT.cell s0 6
              have e7 := BlkT.cell s0 7
              have e8 := BlkT.cell s0 8
              have e9 := BlkT.cell s0 9
              have e10 := BlkT.cell s0 10
              simp only [List.getElem?_toArray, List.getElem?_cons_zero, List.getElem?_cons_succ] at e0 e1 e2 e3 e4 e5 e6 e7 e8 e9 e10
              go_simp
              try with_reducible rfl
            try simp only [Act.put, List.setIfInBounds_toArray, List.set_cons_zero, List.set_cons_succ, List.getElem_toArray, List.getElem_cons_zero, List.getElem_cons_succ]
            refine wpAnyH_ready (rs := [1]) (by kernel_rfl) (by simp) ?_
            refine AllReadyH.cons rfl (fun K hK => ?_) AllReadyH.nil
            go_simp
            refine (HTK.out _ (Below.refl _ V5).drew).mono ?_
            rintro r W1 ⟨rfl, hbY⟩
            have hb1 : Below V5.heap.size V5 W1 := (Below.refl _ V5).drew.trans hbY
            go_wp2_with fail
            refine hK.out _ _ (by exact ⟨HT5.out.below hb1, HB5.out.below hb1, HU5.out.below hb1, hb1⟩) (fun hHeld => ?_)
            clear hK K
            try simp only [Act.put, List.setIfInBounds_toArray, List.set_cons_zero, List.set_cons_succ, List.getElem_toArray, List.getElem_cons_zero, List.getElem_cons_succ]
            refine wpAnyH_take (i := 2) (v := ?valF2T130) rfl (by kernel_rfl) (by kernel_rfl) (by kernel_rfl) (fun _ _ _ h => h) (Or.inl ⟨by rfl, ?yieF2T130⟩) (by assumption) ?resF2T130
            case yieF2T130 =>
              intro w hSw
              try dsimp only at hSw
              go_simp
              try with_reducible rfl
            try simp only [Act.put, List.setIfInBounds_toArray, List.set_cons_zero, List.set_cons_succ, List.getElem_toArray, List.getElem_cons_zero, List.getElem_cons_succ]
            refine wpAnyH_take (i := 3) (v := ?valF3T131) rfl (by kernel_rfl) (by kernel_rfl) (by kernel_rfl) (fun _ _ _ h => h) (Or.inl ⟨by rfl, ?yieF3T131⟩) (by assumption) ?resF3T131
            case yieF3T131 =>
              intro w hSw
              try dsimp only at hSw
              go_simp
              try with_reducible rfl
            try simp only [Act.put, List.setIfInBounds_toArray, List.set_cons_zero, List.set_cons_succ, List.getElem_toArray, List.getElem_cons_zero, List.getElem_cons_succ]
            refine wpAnyH_take (i := 4) (v := ?valF4T132) rfl (by kernel_rfl) (by kernel_rfl) (by kernel_rfl) (fun _ _ _ h => h) (Or.inl ⟨by rfl, ?yieF4T132⟩) (by assumption) ?resF4T132
            case yieF4T132 =>
              intro w hSw
              try dsimp only at hSw
              obtain ⟨s0, s1, s2, s3⟩ := hSw
              have e0 := BlkT.cell s0 0
              have e1 := BlkT.cell s0 1
              have e2 := BlkT.cell s0 2
              have e3 := BlkT.cell s0 3
              have e4 := BlkT.cell s0 4
              have e5 := BlkT.cell s0 5
              have e6 := BlkT.cell s0 6
              have e7 := BlkT.cell s0 7
              have e8 := BlkT.cell s0 8
              have e9 := BlkT.cell s0 9
              have e10 := BlkT.cell s0 10
              simp only [List.getElem?_toArray, List.getElem?_cons_zero, List.getElem?_cons_succ] at e0 e1 e2 e3 e4 e5 e6 e7 e8 e9 e10
              go_simp
              try with_reducible rfl
            try simp only [Act.put, List.setIfInBounds_toArray, List.set_cons_zero, List.set_cons_succ, List.getElem_toArray, List.getElem_cons_zero, List.getElem_cons_succ]
            refine wpAnyH_take (i := 6) (v := ?valF6T133) rfl (by kernel_rfl) (by kernel_rfl) (by kernel_rfl) (fun _ _ _ h => h) (Or.inl ⟨by rfl, ?yieF6T133⟩) (by assumption) ?resF6T133
            case yieF6T133 =>
              intro w hSw
              try dsimp only at hSw
              obtain ⟨s0, s1, s2, s3⟩ := hSw
              have e0 := BlkT.cell s1 0
              have e1 := BlkT.cell s1 1
              have e2 := BlkT.cell s1 2
              have e3 := BlkT.cell s1 3
              have e4 := BlkT.cell s1 4
              have e5 := BlkT.cell s1 5
              have e6 := BlkT.cell s1 6
              have e7 := BlkT.cell s1 7
              have e8 := BlkT.cell s1 8
              have e9 := BlkT.cell s1 9
              simp only [List.getElem?_toArray, List.getElem?_cons_zero, List.getElem?_cons_succ] at e0 e1 e2 e3 e4 e5 e6 e7 e8 e9
              go_simp
              try with_reducible rfl
            try simp only [Act.put, List.setIfInBounds_toArray, List.set_cons_zero, List.set_cons_succ, List.getElem_toArray, List.getElem_cons_zero, List.getElem_cons_succ]
            refine wpAnyH_ready (rs := [5]) (by kernel_rfl) (by simp) ?_
            refine AllReadyH.cons rfl (fun K hK => ?_) AllReadyH.nil
            go_simp
            refine (HTB.out _ hb1).mono ?_
            rintro r W2 ⟨Y1, m1, Y2, m2, mm, rfl, hm1, hm2, hY1, hY2, hmm, hbZ⟩
            have hb2 : Below V5.heap.size V5 W2 := hb1.trans (hbZ.mono hb1.size)
            have HY := Lib.hid (kids_two hY1 hY2)
            go_wp2_with fail
            refine hK.out _ _ (by exact ⟨HT5.out.below hb2, HB5.out.below hb2, HU5.out.below hb2, hb2⟩) (fun hHeld => ?_)
            clear hK K
            try simp only [Act.put, List.setIfInBounds_toArray, List.set_cons_zero, List.set_cons_succ, List.getElem_toArray, List.getElem_cons_zero, List.getElem_cons_succ]
            refine wpAnyH_ready (rs := [7]) (by kernel_rfl) (by simp) ?_
            refine AllReadyH.cons rfl (fun K hK => ?_) AllReadyH.nil
            go_simp
            refine ((HSM5.out _ Y1 Y2 m1 m2 hb2 HY.out.1 HY.out.2 hm1 hm2).2).mono ?_
            rintro r W3 ⟨rfl, hbZ3⟩
            have hb3 : Below V5.heap.size V5 W3 := hb2.trans (hbZ3.mono hb2.size)
            go_wp2_with fail
            refine hK.out _ _ (by exact ⟨HT5.out.below hb3, HB5.out.below hb3, HU5.out.below hb3, hb3⟩) (fun hHeld => ?_)
            clear hK K
            try simp only [Act.put, List.setIfInBounds_toArray, List.set_cons_zero, List.set_cons_succ, List.getElem_toArray, List.getElem_cons_zero, List.getElem_cons_succ]
            refine wpAnyH_take (i := 8) (v := ?valF8T134) rfl (by kernel_rfl) (by kernel_rfl) (by kernel_rfl) (fun _ _ _ h => h) (Or.inl ⟨by rfl, ?yieF8T134⟩) (by assumption) ?resF8T134
            case yieF8T134 =>
              intro w hSw
              try dsimp only at hSw
              go_simp
              try with_reducible rfl
            try simp only [Act.put, List.setIfInBounds_toArray, List.set_cons_zero, List.set_cons_succ, List.getElem_toArray, List.getElem_cons_zero, List.getElem_cons_succ]
            refine wpAnyH_take (i := 9) (v := ?valF9T135) rfl (by kernel_rfl) (by kernel_rfl) (by kernel_rfl) (fun _ _ _ h => h) (Or.inl ⟨by rfl, ?yieF9T135⟩) (by assumption) ?resF9T135
            case yieF9T135 =>
              intro w hSw
              try dsimp only at hSw
              go_simp
              try with_reducible rfl
            try simp only [Act.put, List.setIfInBounds_toArray, List.set_cons_zero, List.set_cons_succ, List.getElem_toArray, List.getElem_cons_zero, List.getElem_cons_succ]
            refine wpAnyH_take (i := 10) (v := ?valF10T136) rfl (by kernel_rfl) (by kernel_rfl) (by kernel_rfl) (fun _ _ _ h => h) (Or.inl ⟨by rfl, ?yieF10T136⟩) (by assumption) ?resF10T136
            case yieF10T136 =>
              intro w hSw
              try dsimp only at hSw
              obtain ⟨s0, s1, s2, s3⟩ := hSw
              have e0 := BlkT.cell s2 0
              have e1 := BlkT.cell s2 1
              have e2 := BlkT.cell s2 2
              have e3 := BlkT.cell s2 3
              have e4 := BlkT.cell s2 4
              have e5 := BlkT.cell s2 5
              have e6 := BlkT.cell s2 6
              have e7 := BlkT.cell s2 7
              have e8 := BlkT.cell s2 8
              have e9 := BlkT.cell s2 9
              have e10 := BlkT.cell s2 10
              simp only [List.getElem?_toArray, List.getElem?_cons_zero, List.getElem?_cons_succ] at e0 e1 e2 e3 e4 e5 e6 e7 e8 e9 e10
              go_simp
              try with_reducible rfl
            try simp only [Act.put, List.setIfInBounds_toArray, List.set_cons_zero, List.set_cons_succ, List.getElem_toArray, List.getElem_cons_zero, List.getElem_cons_succ]
            refine wpAnyH_ready (rs := [11]) (by kernel_rfl) (by simp) ?_
            refine AllReadyH.cons rfl (fun K hK => ?_) AllReadyH.nil
            go_simp
            refine (HUK.out _ hb3).mono ?_
            rintro r W4 ⟨rfl, hbY4⟩
            have hb4 : Below V5.heap.size V5 W4 := hb3.trans (hbY4.mono hb3.size)
            go_wp2_with fail
            refine hK.out _ _ (by exact ⟨HT5.out.below hb4, HB5.out.below hb4, HU5.out.below hb4, hb4⟩) (fun hHeld => ?_)
            clear hK K
            try simp only [Act.put, List.setIfInBounds_toArray, List.set_cons_zero, List.set_cons_succ, List.getElem_toArray, List.getElem_cons_zero, List.getElem_cons_succ]
            refine wpAnyH_take (i := 12) (v := ?valF12T137) rfl (by kernel_rfl) (by kernel_rfl) (by kernel_rfl) (fun _ _ _ h => h) (Or.inl ⟨by rfl, ?yieF12T137⟩) (by assumption) ?resF12T137
            case yieF12T137 =>
              intro w hSw
              try dsimp only at hSw
              go_simp
              try with_reducible rfl
            try simp only [Act.put, List.setIfInBounds_toArray, List.set_cons_zero, List.set_cons_succ, List.getElem_toArray, List.getElem_cons_zero, List.getElem_cons_succ]
            refine wpAnyH_take (i := 13) (v := ?valF13T138) rfl (by kernel_rfl) (by kernel_rfl) (by kernel_rfl) (fun _ _ _ h => h) (Or.inl ⟨by rfl, ?yieF13T138⟩) (by assumption) ?resF13T138
            case yieF13T138 =>
              intro w hSw
              try dsimp only at hSw
              go_simp
              try with_reducible rfl
            try simp only [Act.put, List.setIfInBounds_toArray, List.set_cons_zero, List.set_cons_succ, List.getElem_toArray, List.getElem_cons_zero, List.getElem_cons_succ]
            refine wpAnyH_take (i := 14) (v := ?valF14T139) rfl (by kernel_rfl) (by kernel_rfl) (by kernel_rfl) (fun _ _ _ h => h) (Or.inl ⟨by rfl, ?yieF14T139⟩) (by assumption) ?resF14T139
            case yieF14T139 =>
              intro w hSw
              try dsimp only at hSw
              obtain ⟨s0, s1, s2, s3⟩ := hSw
              have e0 := BlkT.cell s2 0
              have e1 := BlkT.cell s2 1
              have e2 := BlkT.cell s2 2
              have e3 := BlkT.cell s2 3
              have e4 := BlkT.cell s2 4
              have e5 := BlkT.cell s2 5
              have e6 := BlkT.cell s2 6
              have e7 := BlkT.cell s2 7
              have e8 := BlkT.cell s2 8
              have e9 := BlkT.cell s2 9
              have e10 := BlkT.cell s2 10
              simp only [List.getElem?_toArray, List.getElem?_cons_zero, List.getElem?_cons_succ] at e0 e1 e2 e3 e4 e5 e6 e7 e8 e9 e10
              go_simp
              try with_reducible rfl
            try simp only [Act.put, List.setIfInBounds_toArray, List.set_cons_zero, List.set_cons_succ, List.getElem_toArray, List.getElem_cons_zero, List.getElem_cons_succ]
            refine wpAnyH_take (i := 16) (v := ?valF16T140) rfl (by kernel_rfl) (by kernel_rfl) (by kernel_rfl) (fun _ _ _ h => h) (Or.inl ⟨by rfl, ?yieF16T140⟩) (by assumption) ?resF16T140
            case yieF16T140 =>
              intro w hSw
              try dsimp only at hSw
              obtain ⟨s0, s1, s2, s3⟩ := hSw
              have e0 := BlkT.cell s1 0
              have e1 := BlkT.cell s1 1
              have e2 := BlkT.cell s1 2
              have e3 := BlkT.cell s1 3
              have e4 := BlkT.cell s1 4
              have e5 := BlkT.cell s1 5
              have e6 := BlkT.cell s1 6
              have e7 := BlkT.cell s1 7
              have e8 := BlkT.cell s1 8
              have e9 := BlkT.cell s1 9
              simp only [List.getElem?_toArray, List.getElem?_cons_zero, List.getElem?_cons_succ] at e0 e1 e2 e3 e4 e5 e6 e7 e8 e9
              go_simp
              try with_reducible rfl
            try simp only [Act.put, List.setIfInBounds_toArray, List.set_cons_zero, List.set_cons_succ, List.getElem_toArray, List.getElem_cons_zero, List.getElem_cons_succ]
            refine wpAnyH_ready (rs := [15]) (by kernel_rfl) (by simp) ?_
            refine AllReadyH.cons rfl (fun K hK => ?_) AllReadyH.nil
            go_simp
            refine (HUB.out _ hb4).mono ?_
            rintro r W5 ⟨Z1, n1, Z2, n2, nn, rfl, hn1, hn2, hZ1, hZ2, hnn, hbZ5⟩
            have hb5 : Below V5.heap.size V5 W5 := hb4.trans (hbZ5.mono hb4.size)
            have HZ := Lib.hid (kids_two hZ1 hZ2)
            go_wp2_with fail
            refine hK.out _ _ (by exact ⟨HT5.out.below hb5, HB5.out.below hb5, HU5.out.below hb5, hb5⟩) (fun hHeld => ?_)
            clear hK K
            try simp only [Act.put, List.setIfInBounds_toArray, List.set_cons_zero, List.set_cons_succ, List.getElem_toArray, List.getElem_cons_zero, List.getElem_cons_succ]
            refine wpAnyH_ready (rs := [17]) (by kernel_rfl) (by simp) ?_
            refine AllReadyH.cons rfl (fun K hK => ?_) AllReadyH.nil
            go_simp
            refine ((HSM5.out _ Z1 Z2 n1 n2 hb5 HZ.out.1 HZ.out.2 hn1 hn2).2).mono ?_
            rintro r W6 ⟨rfl, hbZ6⟩
            have hb6 : Below V5.heap.size V5 W6 := hb5.trans (hbZ6.mono hb5.size)
            go_wp2_with fail
            refine hK.out _ _ (by exact ⟨HT5.out.below hb6, HB5.out.below hb6, HU5.out.below hb6, hb6⟩) (fun hHeld => ?_)
            clear hK K
            try simp only [Act.put, List.setIfInBounds_toArray, List.set_cons_zero, List.set_cons_succ, List.getElem_toArray, List.getElem_cons_zero, List.getElem_cons_succ]
            refine wpAnyH_take (i := 18) (v := ?valF18T141) rfl (by kernel_rfl) (by kernel_rfl) (by kernel_rfl) (fun _ _ _ h => h) (Or.inl ⟨by rfl, ?yieF18T141⟩) (by assumption) ?resF18T141
            case yieF18T141 =>
              intro w hSw
              try dsimp only at hSw
              go_simp
              try with_reducible rfl
            try simp only [Act.put, List.setIfInBounds_toArray, List.set_cons_zero, List.set_cons_succ, List.getElem_toArray, List.getElem_cons_zero, List.getElem_cons_succ]
            refine wpAnyH_take (i := 19) (v := ?valF19T142) rfl (by kernel_rfl) (by kernel_rfl) (by kernel_rfl) (fun _ _ _ h => h) (Or.inl ⟨by rfl, ?yieF19T142⟩) (by assumption) ?resF19T142
            case yieF19T142 =>
              intro w hSw
              try dsimp only at hSw
              go_simp
              try with_reducible rfl
            try simp only [Act.put, List.setIfInBounds_toArray, List.set_cons_zero, List.set_cons_succ, List.getElem_toArray, List.getElem_cons_zero, List.getElem_cons_succ]
            refine wpAnyH_take (i := 20) (v := ?valF20T143) rfl (by kernel_rfl) (by kernel_rfl) (by kernel_rfl) (fun _ _ _ h => h) (Or.inl ⟨by rfl, ?yieF20T143⟩) (by assumption) ?resF20T143
            case yieF20T143 =>
              intro w hSw
              try dsimp only at hSw
              go_simp
              try with_reducible rfl
            try simp only [Act.put, List.setIfInBounds_toArray, List.set_cons_zero, List.set_cons_succ, List.getElem_toArray, List.getElem_cons_zero, List.getElem_cons_succ]
            refine wpAnyH_done (by kernel_rfl) ?_ _
            refine NoPanic.normal ?_
            go_wp2_with fail
            go_ret
            exact ⟨rfl, HBW.out.trans ((HX5.out.trans (hb6.mono HX5.out.size)).mono HBW.out.size)⟩
end Go.Proofs.YtfknelkbdoiokaaGreatDoor.fnBareCast
