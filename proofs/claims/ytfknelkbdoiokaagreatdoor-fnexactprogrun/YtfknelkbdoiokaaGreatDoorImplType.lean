/-
  The contracts of the program's typesRight and ProgType.
-/
import Derived.Test.YtfknelkbdoiokaaGreatDoorGR
import Derived.Test.YtfknelkbdoiokaaGreatDoorGQ
import Derived.Test.YtfknelkbdoiokaaGreatDoorMethTell
import Derived.Test.YtfknelkbdoiokaaGreatDoorDeedAs
import Derived.Test.YtfknelkbdoiokaaGreatDoorImplProg
namespace Go.Proofs.YtfknelkbdoiokaaGreatDoor
open Go.RowKit Go.Shelf

set_option linter.unusedVariables false in
set_option linter.unusedSimpArgs false in
set_option maxRecDepth 100000 in
set_option maxHeartbeats 8000000 in
theorem typesRight_any {FN : Nat} {cap : Value} {I : World → Prop} {ss vs : List ByteArray} (hI : Tell FN cap I (outT ss vs)) (d : De) (w : World) (hw : I w) :
    Calls Tryz.prog 92 #[deV d, .func (.func FN) #[] #[cap]] w fun r w' => r = .returned (.bool (fitsD ss vs d)) ∧ Below w.heap.size w w' := by
  cases d with
  | noD =>
    show Calls Tryz.prog 92 #[.iface 168 (.agg #[]), _] w fun r w' => r = .returned (.bool true) ∧ Below w.heap.size w w'
    have qas_no_let := as_no_let
    have qas_no_say := as_no_say
    have qas_no_when := as_no_when
    go_enter Tryz.func92, Tryz.ntmps92
    go_wp2_with fail
    go_ret
    exact ⟨rfl, Below.refl _ _⟩
  | letD n t p =>
    show Calls Tryz.prog 92 #[.iface 143 (.agg #[.string n, .string t, partV p]), .func (.func FN) #[] #[cap]] w fun r w' => r = .returned (.bool (decide (p.typ ss vs = t))) ∧ Below w.heap.size w w'
    have qas_let_let := as_let_let
    obtain ⟨m1, n1, k1⟩ := meth_typeOf p
    have HA := Lib.hid (fun W h => typeOfG_any hI p W h)
    rw [partV_at p]
    generalize ptT p = t1 at *
    generalize ptU p = u1 at *
    generalize fTypeOf p = f1 at *
    generalize p.typ ss vs = r1 at *
    have HD := Lib.hid (show decide (r1 = t) = (r1.toList == t.toList) by
      by_cases h : r1 = t
      · subst h; simp
      · rw [decide_eq_false h, eq_comm, beq_eq_false_iff_ne]
        intro e; rw [ByteArray.toList_eq, ByteArray.toList_eq] at e; exact h (ByteArray.ext (Array.toList_inj.1 e)))
    obtain ⟨W0, hW0⟩ : ∃ W0, W0 = w.alloc (.cells #[.string n, .string t, .iface t1 u1] 143) := ⟨_, rfl⟩
    have hb0 : Below w.heap.size w W0 := by rw [hW0]; exact (Below.refl _ w).alloc (Nat.le_refl _) _
    have hs0 : w.heap.size < W0.heap.size := by rw [hW0]; simp
    have c1 : W0.cell? ⟨w.heap.size, 1, none⟩ = some (.string t) := by rw [hW0]; exact cell_made4 w _ _ 1 _ rfl
    have c2 : W0.cell? ⟨w.heap.size, 2, none⟩ = some (.iface t1 u1) := by rw [hW0]; exact cell_made4 w _ _ 2 _ rfl
    have HW := Lib.hid (hI.keep (hI.keep hw hb0) (Below.refl _ W0).drew)
    have HW' := Lib.hid (hI.keep hw hb0)
    clear hw
    go_enter Tryz.func92, Tryz.ntmps92
    go_wp2_with fail
    rw [← hW0]
    clear hW0
    go_region_held3 (fun w' => w'.cell? ⟨w.heap.size, 1, none⟩ = some (.string t) ∧ w'.cell? ⟨w.heap.size, 2, none⟩ = some (.iface t1 u1))
      (first | with_reducible exact ⟨z1, z2⟩ | with_reducible exact ⟨(cell_drew0 _ _).trans c1, (cell_drew0 _ _).trans c2⟩)
      (first | (refine (HA.out _ HW.out).mono ?_; rintro r w1 ⟨rfl, hb1'⟩; have hb1 : Below W0.heap.size W0 w1 := (Below.refl _ W0).drew.trans hb1'; have z1 := (hb1.cell (p := ⟨w.heap.size, 1, none⟩) hs0).trans c1; have z2 := (hb1.cell (p := ⟨w.heap.size, 2, none⟩) hs0).trans c2))
    all_goals (try go_wp2_with fail)
    go_ret
    exact ⟨ret_bool HD.out.symm, hb0.trans (hb1.mono hb0.size)⟩
  | sayD p =>
    show Calls Tryz.prog 92 #[.iface 170 (.agg #[partV p]), .func (.func FN) #[] #[cap]] w fun r w' => r = .returned (.bool (decide (¬ p.typ ss vs = ByteArray.empty))) ∧ Below w.heap.size w w'
    have qas_say_let := as_say_let
    have qas_say_say := as_say_say
    obtain ⟨m1, n1, k1⟩ := meth_typeOf p
    have hb0 : Below w.heap.size w (w.alloc (.cells #[partV p] 170)) := (Below.refl _ w).alloc (Nat.le_refl _) _
    have HA := Lib.hid (typeOfG_any hI p _ (hI.keep hw hb0))
    rw [partV_at p] at HA hb0 ⊢
    generalize ptT p = t1 at *
    generalize ptU p = u1 at *
    generalize fTypeOf p = f1 at *
    generalize p.typ ss vs = r1 at *
    have HD := Lib.hid (show decide (¬ r1 = ByteArray.empty) = (!r1.toList.isEmpty) by
      rw [show r1.toList.isEmpty = (r1.toList == []) by cases r1.toList <;> rfl, isS]; simp; rfl)
    clear hw
    go_enter Tryz.func92, Tryz.ntmps92
    go_wp2_with fail
    refine HA.out.mono ?_
    rintro r w1 ⟨rfl, hb1⟩
    go_wp2_with fail
    go_ret
    exact ⟨ret_bool HD.out.symm, hb0.trans (hb1.mono hb0.size)⟩
  | whenD p q =>
    show Calls Tryz.prog 92 #[.iface 172 (.agg #[partV p, partV q]), .func (.func FN) #[] #[cap]] w fun r w' => r = .returned (.bool (decide (p.typ ss vs = sBool) && decide (¬ q.typ ss vs = ByteArray.empty))) ∧ Below w.heap.size w w'
    have qas_when_let := as_when_let
    have qas_when_say := as_when_say
    have qas_when_when := as_when_when
    obtain ⟨m1, n1, k1⟩ := meth_typeOf p
    obtain ⟨m2, n2, k2⟩ := meth_typeOf q
    have HA := Lib.hid (fun W h => typeOfG_any hI p W h)
    have HB := Lib.hid (fun W h => typeOfG_any hI q W h)
    rw [partV_at p, partV_at q]
    generalize ptT p = t1 at *
    generalize ptU p = u1 at *
    generalize fTypeOf p = f1 at *
    generalize p.typ ss vs = r1 at *
    generalize ptT q = t2 at *
    generalize ptU q = u2 at *
    generalize fTypeOf q = f2 at *
    generalize q.typ ss vs = r2 at *
    have HD := Lib.hid (show decide (¬ r2 = ByteArray.empty) = (!r2.toList.isEmpty) by
      rw [show r2.toList.isEmpty = (r2.toList == []) by cases r2.toList <;> rfl, isS]; simp; rfl)
    obtain ⟨W0, hW0⟩ : ∃ W0, W0 = w.alloc (.cells #[.iface t1 u1, .iface t2 u2] 172) := ⟨_, rfl⟩
    have hb0 : Below w.heap.size w W0 := by rw [hW0]; exact (Below.refl _ w).alloc (Nat.le_refl _) _
    have hs0 : w.heap.size < W0.heap.size := by rw [hW0]; simp
    have c1 : W0.cell? ⟨w.heap.size, 1, none⟩ = some (.iface t2 u2) := by rw [hW0]; exact cell_made4 w _ _ 1 _ rfl
    have HW := Lib.hid (hI.keep hw hb0)
    have HKP := Lib.hid (fun (W : World) (h : Below W0.heap.size W0 W) => hI.keep HW.out h)
    clear hw
    go_enter Tryz.func92, Tryz.ntmps92
    go_wp2_with fail
    rw [← hW0]
    clear hW0
    refine (HA.out _ HW.out).mono ?_
    rintro r w1 ⟨rfl, hb1⟩
    have x1 := (hb1.cell (p := ⟨w.heap.size, 1, none⟩) hs0).trans c1
    have HW1 := Lib.hid (HKP.out w1 hb1)
    have HX := Lib.hid (hb0.trans (hb1.mono hb0.size))
    clear c1
    by_cases h1 : r1 = sBool
    · have q1 : (r1.toList == [98, 111, 111, 108]) = true := by rw [isS, decide_eq_true_eq]; exact h1
      have H1 := Lib.hid h1
      clear h1
      go_wp2_with fail
      refine (HB.out _ HW1.out).mono ?_
      rintro r w2 ⟨rfl, hb2⟩
      go_wp2_with fail
      go_ret
      exact ⟨ret_bool (by rw [decide_eq_true H1.out, Bool.true_and, HD.out]), HX.out.trans (hb2.mono HX.out.size)⟩
    · have q1 : (r1.toList == [98, 111, 111, 108]) = false := by rw [isS, decide_eq_false_iff_not]; exact h1
      have H1 := Lib.hid h1
      clear h1
      go_wp2_with fail
      go_ret
      exact ⟨ret_bool (by rw [decide_eq_false H1.out, Bool.false_and]), HX.out⟩
/-- The map in the box tells of names what was told. -/
def InMap (Bx : Nat) (ss vs : List ByteArray) (w : World) : Prop := ∃ bm, w.cell? ⟨Bx, 0, none⟩ = some (.map (some bm)) ∧ MapS w bm (tellF (fun v => .string v) ByteArray.empty ss vs)
theorem zeroStr (w : World) : (zeroValue 9).run Tryz.prog w = .ok (.string ByteArray.empty) w := by kernel_rfl
theorem tell_types (Bx : Nat) (ss vs : List ByteArray) : Tell 91 (.pointer (some ⟨Bx, 0, none⟩)) (InMap Bx ss vs) (outT ss vs) where
  n := enters_of Tryz.func91 (by kernel_rfl) rfl
  keep := by
    rintro w w' ⟨bm, h1, h2⟩ hb
    exact ⟨bm, (hb.cell (p := ⟨Bx, 0, none⟩) (cell_lt h1)).trans h1, h2.stay (hb.block _ h2.lt)⟩
  call := by
    rintro s w ⟨bm, h1, h2⟩
    have hlk := mapS_lookup h2 Tryz.underlying139 Tryz.underlying9 zeroStr s
    have HO := Lib.hid (show outT ss vs s = .tuple #[((tellF (fun v => Value.string v) ByteArray.empty ss vs s).getD (.string ByteArray.empty)), .bool (tellF (fun v => Value.string v) ByteArray.empty ss vs s).isSome] by
      unfold outT tellT tellF
      cases lastOf ss s <;> rfl)
    generalize tellF (fun v => Value.string v) ByteArray.empty ss vs s = F at *
    clear h2
    go_enter Tryz.func91, Tryz.ntmps91
    go_wp2_with fail
    go_ret2
    exact ⟨by rw [HO.out]; rfl, Below.refl _ _⟩
theorem below_setMap {w : World} {B b : Nat} (o : Obj) (hB : B ≤ b) : Below B w { w with heap := w.heap.setIfInBounds b o } :=
  ⟨rfl, rfl, rfl, by simp, fun k hk => by
    show (w.heap.setIfInBounds b o)[k]? = w.heap[k]?
    rw [Array.getElem?_setIfInBounds_ne (by omega)]⟩
set_option linter.unusedVariables false in
set_option linter.unusedSimpArgs false in
set_option maxRecDepth 100000 in
set_option maxHeartbeats 8000000 in
theorem progType_any (xs : List St) (A : Option Addr) (c B : Nat) (a : Addr) (w : World) (hA : LinesU w B A xs) (hB : B ≤ w.heap.size) (hwt : stWts xs ≤ 2 ^ 29) (hL : LaidW w) (hN : LaidN w a) :
    Calls Tryz.prog 42 #[.slice A xs.length c] w fun r w' => r = .returned (.int .i64 (typeP xs)) ∧ Below w.heap.size w w' := by
  have HD := Lib.hid (deedsOf_any xs A c B a w hA hB hwt hL hN)
  have HP := Lib.hid (show (∀ ds, doP xs = some ds → ds.length ≤ 16) from fun ds h => by
    have h1 := doP_some h
    have h2 := (doP_fine h).1
    omega)
  have hmm := @run_makeMap Tryz.prog
  clear hA hL hN
  go_enter Tryz.func42, Tryz.ntmps42
  go_wp2_with fail
  refine HD.out.mono ?_
  rintro r w1 ⟨hb1, (⟨ds, g, hds, rfl, hg, hc⟩ | ⟨hds, rfl⟩)⟩
  case inr =>
    have HT := Lib.hid (show typeP xs = -2 by unfold typeP; rw [hds])
    clear hds HP
    go_wp2_with fail
    go_ret
    exact ⟨ret_int HT.out.symm, hb1⟩
  have HT := Lib.hid (show typeP xs = typeFrom ds [] [] 0 by unfold typeP; rw [hds])
  have hlen := HP.out ds hds
  have HCE := Lib.hid hc
  have HB1 := Lib.hid hb1
  obtain ⟨X, hX⟩ : ∃ X, X = (w1.alloc (.map #[] 0)).alloc (.cells #[.map (some w1.heap.size)] 139) := ⟨_, rfl⟩
  have hbX : Below w1.heap.size w1 X := by rw [hX]; exact ((Below.refl _ w1).alloc (Nat.le_refl _) _).alloc (by simp) _
  have HMX := Lib.hid (show X.cell? ⟨w1.heap.size + 1, 0, none⟩ = some (.map (some w1.heap.size)) ∧ MapS X w1.heap.size (tellF (fun v => .string v) ByteArray.empty [] []) by
    rw [hX]
    constructor
    · have := cell_made4 (w1.alloc (.map #[] 0)) #[.map (some w1.heap.size)] 139 0 (.map (some w1.heap.size)) rfl
      rwa [World.size_alloc] at this
    · have h1 := (mapS_new w1).stay (Below.heap_alloc (w1.alloc (.map #[] 0)) (.cells #[.map (some w1.heap.size)] 139) w1.heap.size (by simp))
      exact h1)
  clear hds HP hc hb1
  go_wp2_with fail
  rw [← hX]
  clear hX
  go_loopw [22] (fun i wr => ∃ (j : Nat) (ss vs : List ByteArray), j ≤ ds.length ∧ i = .int .i64 j ∧ ss.length = vs.length ∧ Hid (typeFrom (ds.drop j) ss vs j = typeFrom ds [] [] 0) ∧ Hid (wr.cell? ⟨w1.heap.size + 1, 0, none⟩ = some (.map (some w1.heap.size)) ∧ MapS wr w1.heap.size (tellF (fun v => .string v) ByteArray.empty ss vs)) ∧ Below w1.heap.size w1 wr)
    (fun i _ => ds.length - (intOf i).toNat)
  case atStart => exact ⟨0, [], [], Nat.zero_le _, rfl, rfl, Lib.hid rfl, HMX, hbX⟩
  case round =>
    obtain ⟨j, ss, vs, hj, rfl, hsv, HR, HM, hbw⟩ := hrel
    by_cases hlt : j < ds.length
    · have hx : (j : Int) < (ds.length : Int) := by omega
      have hcj := (hbw.cell (p := ⟨g, j, none⟩) hg).trans (HCE.out j hlt)
      have hstep := typeFrom_at hlt ss vs
      have HTL := Lib.hid (tell_types (w1.heap.size + 1) ss vs)
      generalize ds[j] = d at *
      have HRD := Lib.hid (fun (W : World) (hW : InMap (w1.heap.size + 1) ss vs W) => typesRight_any HTL.out d W hW)
      have HIW := Lib.hid (show InMap (w1.heap.size + 1) ss vs wr from ⟨_, HM.out.1, HM.out.2⟩)
      rw [show deV d = .iface (deT d) (deU d) from rfl] at hcj
      unfold deV at HRD
      cases hf : fitsD ss vs d with
      | false =>
        rw [hf] at HRD
        have HE := Lib.hid (show (j : Int) = typeP xs by rw [HT.out, ← HR.out, hstep, if_neg (by rw [hf]; decide)])
        generalize deT d = t1 at *
        generalize deU d = u1 at *
        clear hf hstep
        go_wp2_with fail
        refine (HRD.out _ HIW.out).mono ?_
        rintro r w2 ⟨rfl, hb2⟩
        go_wp2_with fail
        go_ret
        exact ⟨ret_int HE.out, HB1.out.trans ((hbw.trans (hb2.mono hbw.size)).mono HB1.out.size)⟩
      | true =>
        rw [hf] at HRD
        have HE := Lib.hid (show typeFrom (ds.drop (j + 1)) (toldS ss d) (toldV vs d) (j + 1) = typeFrom ds [] [] 0 by rw [← HR.out, hstep, if_pos hf])
        have HN2 := Lib.hid (told_len hsv d)
        clear hf hstep
        cases d with
        | letD n t p =>
          have q1 := as_let_let
          rw [show deT (.letD n t p) = 143 from rfl, show deU (.letD n t p) = .agg #[.string n, .string t, partV p] from rfl, partV_at p] at hcj HRD
          generalize ptT p = t2 at *
          generalize ptU p = u2 at *
          go_wp2_with fail
          refine (HRD.out _ HIW.out).mono ?_
          rintro r w2 ⟨rfl, hb2⟩
          have hb2w := hbw.trans (hb2.mono hbw.size)
          have hlM := HM.out.2.lt
          have hlB := cell_lt HM.out.1
          obtain ⟨V, hV⟩ : ∃ V, V = w2.alloc (.cells #[.string n, .string t, .iface t2 u2] 143) := ⟨_, rfl⟩
          have hbV : Below w2.heap.size w2 V := by rw [hV]; exact (Below.refl _ w2).alloc (Nat.le_refl _) _
          have hbwV := hb2.trans (hbV.mono hb2.size)
          have e0 := (hbwV.cell (p := ⟨w1.heap.size + 1, 0, none⟩) hlB).trans HM.out.1
          have hMV := HM.out.2.stay (hbwV.block _ hlM)
          obtain ⟨o, hrun, hMS⟩ := mapS_update hMV Tryz.underlying139 Tryz.underlying9 n (.string t)
          have HMS := Lib.hid hMS
          have HBV := Lib.hid (hb2w.trans (hbV.mono hb2w.size))
          have HS1 := Lib.hid hsv
          have HZ := Lib.hid (show w1.heap.size < V.heap.size by have := hbwV.size; omega)
          have HE0 := Lib.hid e0
          clear hMS hMV hbwV hbV hb2 hb2w HM hbw hlM hlB hcj HRD
          rw [hV] at e0 hrun
          go_wp2_with fail
          go_roundw
          case rel =>
            subst hV
            refine ⟨j + 1, ss ++ [n], vs ++ [t], by omega, by go_num, by simp [HS1.out], HE, Lib.hid ⟨?_, ?_⟩, HBV.out.trans (below_setMap o (Nat.le_refl _))⟩
            · rw [← HE0.out]
              refine World.cell?_of_block (a := ⟨w1.heap.size + 1, 0, none⟩) ?_
              show ((w2.alloc (.cells #[.string n, .string t, .iface t2 u2] 143)).heap.setIfInBounds w1.heap.size o)[w1.heap.size + 1]? = (w2.alloc (.cells #[.string n, .string t, .iface t2 u2] 143)).heap[w1.heap.size + 1]?
              rw [Array.getElem?_setIfInBounds_ne (by omega)]
            · rw [tellF_snoc _ _ _ _ HS1.out]
              exact HMS.out
          case measure => simp [intOf]; omega
        | noD =>
          have q1 := as_no_let
          rw [show deT (.noD) = 168 from rfl, show deU (.noD) = .agg #[] from rfl] at hcj HRD
          go_wp2_with fail
          refine (HRD.out _ HIW.out).mono ?_
          rintro r w2 ⟨rfl, hb2⟩
          have hb2w := hbw.trans (hb2.mono hbw.size)
          have HM2 := Lib.hid (And.intro ((hb2.cell (p := ⟨w1.heap.size + 1, 0, none⟩) (cell_lt HM.out.1)).trans HM.out.1) (HM.out.2.stay (hb2.block _ HM.out.2.lt)))
          have HS1 := Lib.hid hsv
          have HB2 := Lib.hid hb2w
          clear hb2 hb2w HM hbw hcj HRD hsv
          go_wp2_with fail
          go_roundw
          case rel =>
            have hbV : Below w2.heap.size w2 (w2.alloc (.cells #[.string { data := #[] }, .string { data := #[] }, .nilIface] 143)) := (Below.refl _ w2).alloc (Nat.le_refl _) _
            exact ⟨j + 1, ss, vs, by omega, by go_num, HS1.out, HE, Lib.hid ⟨(hbV.cell (p := ⟨w1.heap.size + 1, 0, none⟩) (cell_lt HM2.out.1)).trans HM2.out.1, HM2.out.2.stay (hbV.block _ HM2.out.2.lt)⟩, HB2.out.trans (hbV.mono HB2.out.size)⟩
          case measure => simp [intOf]; omega
        | sayD p =>
          have q1 := as_say_let
          rw [show deT (.sayD p) = 170 from rfl, show deU (.sayD p) = .agg #[partV p] from rfl, partV_at p] at hcj HRD
          generalize ptT p = t2 at *
          generalize ptU p = u2 at *
          go_wp2_with fail
          refine (HRD.out _ HIW.out).mono ?_
          rintro r w2 ⟨rfl, hb2⟩
          have hb2w := hbw.trans (hb2.mono hbw.size)
          have HM2 := Lib.hid (And.intro ((hb2.cell (p := ⟨w1.heap.size + 1, 0, none⟩) (cell_lt HM.out.1)).trans HM.out.1) (HM.out.2.stay (hb2.block _ HM.out.2.lt)))
          have HS1 := Lib.hid hsv
          have HB2 := Lib.hid hb2w
          clear hb2 hb2w HM hbw hcj HRD hsv
          go_wp2_with fail
          go_roundw
          case rel =>
            have hbV : Below w2.heap.size w2 (w2.alloc (.cells #[.string { data := #[] }, .string { data := #[] }, .nilIface] 143)) := (Below.refl _ w2).alloc (Nat.le_refl _) _
            exact ⟨j + 1, ss, vs, by omega, by go_num, HS1.out, HE, Lib.hid ⟨(hbV.cell (p := ⟨w1.heap.size + 1, 0, none⟩) (cell_lt HM2.out.1)).trans HM2.out.1, HM2.out.2.stay (hbV.block _ HM2.out.2.lt)⟩, HB2.out.trans (hbV.mono HB2.out.size)⟩
          case measure => simp [intOf]; omega
        | whenD p q =>
          have q1 := as_when_let
          rw [show deT (.whenD p q) = 172 from rfl, show deU (.whenD p q) = .agg #[partV p, partV q] from rfl, partV_at p, partV_at q] at hcj HRD
          generalize ptT p = t2 at *
          generalize ptU p = u2 at *
          generalize ptT q = t3 at *
          generalize ptU q = u3 at *
          go_wp2_with fail
          refine (HRD.out _ HIW.out).mono ?_
          rintro r w2 ⟨rfl, hb2⟩
          have hb2w := hbw.trans (hb2.mono hbw.size)
          have HM2 := Lib.hid (And.intro ((hb2.cell (p := ⟨w1.heap.size + 1, 0, none⟩) (cell_lt HM.out.1)).trans HM.out.1) (HM.out.2.stay (hb2.block _ HM.out.2.lt)))
          have HS1 := Lib.hid hsv
          have HB2 := Lib.hid hb2w
          clear hb2 hb2w HM hbw hcj HRD hsv
          go_wp2_with fail
          go_roundw
          case rel =>
            have hbV : Below w2.heap.size w2 (w2.alloc (.cells #[.string { data := #[] }, .string { data := #[] }, .nilIface] 143)) := (Below.refl _ w2).alloc (Nat.le_refl _) _
            exact ⟨j + 1, ss, vs, by omega, by go_num, HS1.out, HE, Lib.hid ⟨(hbV.cell (p := ⟨w1.heap.size + 1, 0, none⟩) (cell_lt HM2.out.1)).trans HM2.out.1, HM2.out.2.stay (hbV.block _ HM2.out.2.lt)⟩, HB2.out.trans (hbV.mono HB2.out.size)⟩
          case measure => simp [intOf]; omega
    · have HE := Lib.hid (show (-1 : Int) = typeP xs by rw [HT.out, ← HR.out, typeFrom_end (by omega)])
      go_wp2_with fail
      go_ret
      exact ⟨ret_int HE.out, HB1.out.trans (hbw.mono HB1.out.size)⟩
end Go.Proofs.YtfknelkbdoiokaaGreatDoor
