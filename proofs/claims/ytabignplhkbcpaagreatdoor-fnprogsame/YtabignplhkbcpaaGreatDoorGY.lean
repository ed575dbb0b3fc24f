/-
  ImplType, ImplRun: these texts one behind the other, as a claim holds at most 60 files.
-/
import Derived.Test.YtabignplhkbcpaaGreatDoorGR
import Derived.Test.YtabignplhkbcpaaGreatDoorGQ
import Derived.Test.YtabignplhkbcpaaGreatDoorMethTell
import Derived.Test.YtabignplhkbcpaaGreatDoorGV
import Derived.Test.YtabignplhkbcpaaGreatDoorImplProg
import Derived.Test.YtabignplhkbcpaaGreatDoorGB
import Derived.Laws.EntriesVeiled
namespace Go.Proofs.YtabignplhkbcpaaGreatDoor
open Go.RowKit Go.Shelf

set_option linter.unusedVariables false in
set_option linter.unusedSimpArgs false in
set_option maxRecDepth 100000 in
set_option maxHeartbeats 8000000 in
theorem typesRight_any {FN : Nat} {cap : Value} {I : World → Prop} {ss vs : List ByteArray} (hI : Tell FN cap I (outT ss vs)) (d : De) (w : World) (hw : I w) :
    Calls Tryz.prog 27 #[deV d, .func (.func FN) #[] #[cap]] w fun r w' => r = .returned (.bool (fitsD ss vs d)) ∧ Below w.heap.size w w' := by
  cases d with
  | noD =>
    show Calls Tryz.prog 27 #[.iface 93 (.agg #[]), _] w fun r w' => r = .returned (.bool true) ∧ Below w.heap.size w w'
    have qas_no_let := as_no_let
    have qas_no_say := as_no_say
    have qas_no_when := as_no_when
    go_enter Tryz.func27, Tryz.ntmps27
    go_wp2_with fail
    go_ret
    exact ⟨rfl, Below.refl _ _⟩
  | letD n t p =>
    show Calls Tryz.prog 27 #[.iface 61 (.agg #[.string n, .string t, partV p]), .func (.func FN) #[] #[cap]] w fun r w' => r = .returned (.bool (decide (p.typ ss vs = t))) ∧ Below w.heap.size w w'
    have qas_let_let := as_let_let
    obtain ⟨m1, n1, k1⟩ := meth_typeOf p
    have HA := Lib.hid (fun W h => typeOfG_any hI p W h)
    rw [partV_at p]
    generalize ptT p = t1 at *
    generalize ptU p = u1 at *
    generalize fTypeOf p = f1 at *
    generalize p.typ ss vs = r1 at *
    have HD := Lib.hid (show decide (r1 = t) = (r1.toList == t.toList) by
      by_cases h : r1 = t
      · subst h; simp
      · rw [decide_eq_false h, eq_comm, beq_eq_false_iff_ne]
        intro e; rw [ByteArray.toList_eq, ByteArray.toList_eq] at e; exact h (ByteArray.ext (Array.toList_inj.1 e)))
    obtain ⟨W0, hW0⟩ : ∃ W0, W0 = w.alloc (.cells #[.string n, .string t, .iface t1 u1] 61) := ⟨_, rfl⟩
    have hb0 : Below w.heap.size w W0 := by rw [hW0]; exact (Below.refl _ w).alloc (Nat.le_refl _) _
    have hs0 : w.heap.size < W0.heap.size := by rw [hW0]; simp
    have c1 : W0.cell? ⟨w.heap.size, 1, none⟩ = some (.string t) := by rw [hW0]; exact cell_made4 w _ _ 1 _ rfl
    have c2 : W0.cell? ⟨w.heap.size, 2, none⟩ = some (.iface t1 u1) := by rw [hW0]; exact cell_made4 w _ _ 2 _ rfl
    have HW := Lib.hid (hI.keep (hI.keep hw hb0) (Below.refl _ W0).drew)
    have HW' := Lib.hid (hI.keep hw hb0)
    clear hw
    go_enter Tryz.func27, Tryz.ntmps27
    go_wp2_with fail
    rw [← hW0]
    clear hW0
    go_region_held3 (fun w' => w'.cell? ⟨w.heap.size, 1, none⟩ = some (.string t) ∧ w'.cell? ⟨w.heap.size, 2, none⟩ = some (.iface t1 u1))
      (first | with_reducible exact ⟨z1, z2⟩ | with_reducible exact ⟨(cell_drew0 _ _).trans c1, (cell_drew0 _ _).trans c2⟩)
      (first | (refine (HA.out _ HW.out).mono ?_; rintro r w1 ⟨rfl, hb1'⟩; have hb1 : Below W0.heap.size W0 w1 := (Below.refl _ W0).drew.trans hb1'; have z1 := (hb1.cell (p := ⟨w.heap.size, 1, none⟩) hs0).trans c1; have z2 := (hb1.cell (p := ⟨w.heap.size, 2, none⟩) hs0).trans c2))
    all_goals (try go_wp2_with fail)
    go_ret
    exact ⟨ret_bool HD.out.symm, hb0.trans (hb1.mono hb0.size)⟩
  | sayD p =>
    show Calls Tryz.prog 27 #[.iface 78 (.agg #[partV p]), .func (.func FN) #[] #[cap]] w fun r w' => r = .returned (.bool (decide (¬ p.typ ss vs = ByteArray.empty))) ∧ Below w.heap.size w w'
    have qas_say_let := as_say_let
    have qas_say_say := as_say_say
    obtain ⟨m1, n1, k1⟩ := meth_typeOf p
    have hb0 : Below w.heap.size w (w.alloc (.cells #[partV p] 78)) := (Below.refl _ w).alloc (Nat.le_refl _) _
    have HA := Lib.hid (typeOfG_any hI p _ (hI.keep hw hb0))
    rw [partV_at p] at HA hb0 ⊢
    generalize ptT p = t1 at *
    generalize ptU p = u1 at *
    generalize fTypeOf p = f1 at *
    generalize p.typ ss vs = r1 at *
    have HD := Lib.hid (show decide (¬ r1 = ByteArray.empty) = (!r1.toList.isEmpty) by
      rw [show r1.toList.isEmpty = (r1.toList == []) by cases r1.toList <;> rfl, isS]; simp; rfl)
    clear hw
    go_enter Tryz.func27, Tryz.ntmps27
    go_wp2_with fail
    refine HA.out.mono ?_
    rintro r w1 ⟨rfl, hb1⟩
    go_wp2_with fail
    go_ret
    exact ⟨ret_bool HD.out.symm, hb0.trans (hb1.mono hb0.size)⟩
  | whenD p q =>
    show Calls Tryz.prog 27 #[.iface 80 (.agg #[partV p, partV q]), .func (.func FN) #[] #[cap]] w fun r w' => r = .returned (.bool (decide (p.typ ss vs = sBool) && decide (¬ q.typ ss vs = ByteArray.empty))) ∧ Below w.heap.size w w'
    have qas_when_let := as_when_let
    have qas_when_say := as_when_say
    have qas_when_when := as_when_when
    obtain ⟨m1, n1, k1⟩ := meth_typeOf p
    obtain ⟨m2, n2, k2⟩ := meth_typeOf q
    have HA := Lib.hid (fun W h => typeOfG_any hI p W h)
    have HB := Lib.hid (fun W h => typeOfG_any hI q W h)
    rw [partV_at p, partV_at q]
    generalize ptT p = t1 at *
    generalize ptU p = u1 at *
    generalize fTypeOf p = f1 at *
    generalize p.typ ss vs = r1 at *
    generalize ptT q = t2 at *
    generalize ptU q = u2 at *
    generalize fTypeOf q = f2 at *
    generalize q.typ ss vs = r2 at *
    have HD := Lib.hid (show decide (¬ r2 = ByteArray.empty) = (!r2.toList.isEmpty) by
      rw [show r2.toList.isEmpty = (r2.toList == []) by cases r2.toList <;> rfl, isS]; simp; rfl)
    obtain ⟨W0, hW0⟩ : ∃ W0, W0 = w.alloc (.cells #[.iface t1 u1, .iface t2 u2] 80) := ⟨_, rfl⟩
    have hb0 : Below w.heap.size w W0 := by rw [hW0]; exact (Below.refl _ w).alloc (Nat.le_refl _) _
    have hs0 : w.heap.size < W0.heap.size := by rw [hW0]; simp
    have c1 : W0.cell? ⟨w.heap.size, 1, none⟩ = some (.iface t2 u2) := by rw [hW0]; exact cell_made4 w _ _ 1 _ rfl
    have HW := Lib.hid (hI.keep hw hb0)
    have HKP := Lib.hid (fun (W : World) (h : Below W0.heap.size W0 W) => hI.keep HW.out h)
    clear hw
    go_enter Tryz.func27, Tryz.ntmps27
    go_wp2_with fail
    rw [← hW0]
    clear hW0
    refine (HA.out _ HW.out).mono ?_
    rintro r w1 ⟨rfl, hb1⟩
    have x1 := (hb1.cell (p := ⟨w.heap.size, 1, none⟩) hs0).trans c1
    have HW1 := Lib.hid (HKP.out w1 hb1)
    have HX := Lib.hid (hb0.trans (hb1.mono hb0.size))
    clear c1
    by_cases h1 : r1 = sBool
    · have q1 : (r1.toList == [98, 111, 111, 108]) = true := by rw [isS, decide_eq_true_eq]; exact h1
      have H1 := Lib.hid h1
      clear h1
      go_wp2_with fail
      refine (HB.out _ HW1.out).mono ?_
      rintro r w2 ⟨rfl, hb2⟩
      go_wp2_with fail
      go_ret
      exact ⟨ret_bool (by rw [decide_eq_true H1.out, Bool.true_and, HD.out]), HX.out.trans (hb2.mono HX.out.size)⟩
    · have q1 : (r1.toList == [98, 111, 111, 108]) = false := by rw [isS, decide_eq_false_iff_not]; exact h1
      have H1 := Lib.hid h1
      clear h1
      go_wp2_with fail
      go_ret
      exact ⟨ret_bool (by rw [decide_eq_false H1.out, Bool.false_and]), HX.out⟩
/-- The map in the box tells of names what was told. -/
def InMap (Bx : Nat) (ss vs : List ByteArray) (w : World) : Prop := ∃ bm, w.cell? ⟨Bx, 0, none⟩ = some (.map (some bm)) ∧ MapS w bm (tellF (fun v => .string v) ByteArray.empty ss vs)
theorem zeroStr (w : World) : (zeroValue 9).run Tryz.prog w = .ok (.string ByteArray.empty) w := by kernel_rfl
theorem tell_types (Bx : Nat) (ss vs : List ByteArray) : Tell 26 (.pointer (some ⟨Bx, 0, none⟩)) (InMap Bx ss vs) (outT ss vs) where
  n := enters_of Tryz.func26 (by kernel_rfl) rfl
  keep := by
    rintro w w' ⟨bm, h1, h2⟩ hb
    exact ⟨bm, (hb.cell (p := ⟨Bx, 0, none⟩) (cell_lt h1)).trans h1, h2.stay (hb.block _ h2.lt)⟩
  call := by
    rintro s w ⟨bm, h1, h2⟩
    have hlk := mapS_lookup h2 Tryz.underlying54 Tryz.underlying9 zeroStr s
    have HO := Lib.hid (show outT ss vs s = .tuple #[((tellF (fun v => Value.string v) ByteArray.empty ss vs s).getD (.string ByteArray.empty)), .bool (tellF (fun v => Value.string v) ByteArray.empty ss vs s).isSome] by
      unfold outT tellT tellF
      cases lastOf ss s <;> rfl)
    generalize tellF (fun v => Value.string v) ByteArray.empty ss vs s = F at *
    clear h2
    go_enter Tryz.func26, Tryz.ntmps26
    go_wp2_with fail
    go_ret2
    exact ⟨by rw [HO.out]; rfl, Below.refl _ _⟩
theorem below_setMap {w : World} {B b : Nat} (o : Obj) (hB : B ≤ b) : Below B w { w with heap := w.heap.setIfInBounds b o } :=
  ⟨rfl, rfl, rfl, by simp, fun k hk => by
    show (w.heap.setIfInBounds b o)[k]? = w.heap[k]?
    rw [Array.getElem?_setIfInBounds_ne (by omega)]⟩
set_option linter.unusedVariables false in
set_option linter.unusedSimpArgs false in
set_option maxRecDepth 100000 in
set_option maxHeartbeats 8000000 in
theorem progType_any (xs : List St) (A : Option Addr) (c B : Nat) (a : Addr) (w : World) (hA : LinesU w B A xs) (hB : B ≤ w.heap.size) (hwt : stWts xs ≤ 2 ^ 29) (hL : LaidW w) (hN : LaidN w a) :
    Calls Tryz.prog 15 #[.slice A xs.length c] w fun r w' => r = .returned (.int .i64 (typeP xs)) ∧ Below w.heap.size w w' := by
  have HD := Lib.hid (deedsOf_any xs A c B a w hA hB hwt hL hN)
  have HP := Lib.hid (show (∀ ds, doP xs = some ds → ds.length ≤ 16) from fun ds h => by
    have h1 := doP_some h
    have h2 := (doP_fine h).1
    omega)
  have hmm := @run_makeMap Tryz.prog
  clear hA hL hN
  go_enter Tryz.func15, Tryz.ntmps15
  go_wp2_with fail
  refine HD.out.mono ?_
  rintro r w1 ⟨hb1, (⟨ds, g, hds, rfl, hg, hc⟩ | ⟨hds, rfl⟩)⟩
  case inr =>
    have HT := Lib.hid (show typeP xs = -2 by unfold typeP; rw [hds])
    clear hds HP
    go_wp2_with fail
    go_ret
    exact ⟨ret_int HT.out.symm, hb1⟩
  have HT := Lib.hid (show typeP xs = typeFrom ds [] [] 0 by unfold typeP; rw [hds])
  have hlen := HP.out ds hds
  have HCE := Lib.hid hc
  have HB1 := Lib.hid hb1
  obtain ⟨X, hX⟩ : ∃ X, X = (w1.alloc (.map #[] 0)).alloc (.cells #[.map (some w1.heap.size)] 54) := ⟨_, rfl⟩
  have hbX : Below w1.heap.size w1 X := by rw [hX]; exact ((Below.refl _ w1).alloc (Nat.le_refl _) _).alloc (by simp) _
  have HMX := Lib.hid (show X.cell? ⟨w1.heap.size + 1, 0, none⟩ = some (.map (some w1.heap.size)) ∧ MapS X w1.heap.size (tellF (fun v => .string v) ByteArray.empty [] []) by
    rw [hX]
    constructor
    · have := cell_made4 (w1.alloc (.map #[] 0)) #[.map (some w1.heap.size)] 54 0 (.map (some w1.heap.size)) rfl
      rwa [World.size_alloc] at this
    · have h1 := (mapS_new w1).stay (Below.heap_alloc (w1.alloc (.map #[] 0)) (.cells #[.map (some w1.heap.size)] 54) w1.heap.size (by simp))
      exact h1)
  clear hds HP hc hb1
  go_wp2_with fail
  rw [← hX]
  clear hX
  go_loopw [22] (fun i wr => ∃ (j : Nat) (ss vs : List ByteArray), j ≤ ds.length ∧ i = .int .i64 j ∧ ss.length = vs.length ∧ Hid (typeFrom (ds.drop j) ss vs j = typeFrom ds [] [] 0) ∧ Hid (wr.cell? ⟨w1.heap.size + 1, 0, none⟩ = some (.map (some w1.heap.size)) ∧ MapS wr w1.heap.size (tellF (fun v => .string v) ByteArray.empty ss vs)) ∧ Below w1.heap.size w1 wr)
    (fun i _ => ds.length - (intOf i).toNat)
  case atStart => exact ⟨0, [], [], Nat.zero_le _, rfl, rfl, Lib.hid rfl, HMX, hbX⟩
  case round =>
    obtain ⟨j, ss, vs, hj, rfl, hsv, HR, HM, hbw⟩ := hrel
    by_cases hlt : j < ds.length
    · have hx : (j : Int) < (ds.length : Int) := by omega
      have hcj := (hbw.cell (p := ⟨g, j, none⟩) hg).trans (HCE.out j hlt)
      have hstep := typeFrom_at hlt ss vs
      have HTL := Lib.hid (tell_types (w1.heap.size + 1) ss vs)
      generalize ds[j] = d at *
      have HRD := Lib.hid (fun (W : World) (hW : InMap (w1.heap.size + 1) ss vs W) => typesRight_any HTL.out d W hW)
      have HIW := Lib.hid (show InMap (w1.heap.size + 1) ss vs wr from ⟨_, HM.out.1, HM.out.2⟩)
      rw [show deV d = .iface (deT d) (deU d) from rfl] at hcj
      unfold deV at HRD
      cases hf : fitsD ss vs d with
      | false =>
        rw [hf] at HRD
        have HE := Lib.hid (show (j : Int) = typeP xs by rw [HT.out, ← HR.out, hstep, if_neg (by rw [hf]; decide)])
        generalize deT d = t1 at *
        generalize deU d = u1 at *
        clear hf hstep
        go_wp2_with fail
        refine (HRD.out _ HIW.out).mono ?_
        rintro r w2 ⟨rfl, hb2⟩
        go_wp2_with fail
        go_ret
        exact ⟨ret_int HE.out, HB1.out.trans ((hbw.trans (hb2.mono hbw.size)).mono HB1.out.size)⟩
      | true =>
        rw [hf] at HRD
        have HE := Lib.hid (show typeFrom (ds.drop (j + 1)) (toldS ss d) (toldV vs d) (j + 1) = typeFrom ds [] [] 0 by rw [← HR.out, hstep, if_pos hf])
        have HN2 := Lib.hid (told_len hsv d)
        clear hf hstep
        cases d with
        | letD n t p =>
          have q1 := as_let_let
          rw [show deT (.letD n t p) = 61 from rfl, show deU (.letD n t p) = .agg #[.string n, .string t, partV p] from rfl, partV_at p] at hcj HRD
          generalize ptT p = t2 at *
          generalize ptU p = u2 at *
          go_wp2_with fail
          refine (HRD.out _ HIW.out).mono ?_
          rintro r w2 ⟨rfl, hb2⟩
          have hb2w := hbw.trans (hb2.mono hbw.size)
          have hlM := HM.out.2.lt
          have hlB := cell_lt HM.out.1
          obtain ⟨V, hV⟩ : ∃ V, V = w2.alloc (.cells #[.string n, .string t, .iface t2 u2] 61) := ⟨_, rfl⟩
          have hbV : Below w2.heap.size w2 V := by rw [hV]; exact (Below.refl _ w2).alloc (Nat.le_refl _) _
          have hbwV := hb2.trans (hbV.mono hb2.size)
          have e0 := (hbwV.cell (p := ⟨w1.heap.size + 1, 0, none⟩) hlB).trans HM.out.1
          have hMV := HM.out.2.stay (hbwV.block _ hlM)
          obtain ⟨o, hrun, hMS⟩ := mapS_update hMV Tryz.underlying54 Tryz.underlying9 n (.string t)
          have HMS := Lib.hid hMS
          have HBV := Lib.hid (hb2w.trans (hbV.mono hb2w.size))
          have HS1 := Lib.hid hsv
          have HZ := Lib.hid (show w1.heap.size < V.heap.size by have := hbwV.size; omega)
          have HE0 := Lib.hid e0
          clear hMS hMV hbwV hbV hb2 hb2w HM hbw hlM hlB hcj HRD
          rw [hV] at e0 hrun
          go_wp2_with fail
          go_roundw
          case rel =>
            subst hV
            refine ⟨j + 1, ss ++ [n], vs ++ [t], by omega, by go_num, by simp [HS1.out], HE, Lib.hid ⟨?_, ?_⟩, HBV.out.trans (below_setMap o (Nat.le_refl _))⟩
            · rw [← HE0.out]
              refine World.cell?_of_block (a := ⟨w1.heap.size + 1, 0, none⟩) ?_
              show ((w2.alloc (.cells #[.string n, .string t, .iface t2 u2] 61)).heap.setIfInBounds w1.heap.size o)[w1.heap.size + 1]? = (w2.alloc (.cells #[.string n, .string t, .iface t2 u2] 61)).heap[w1.heap.size + 1]?
              rw [Array.getElem?_setIfInBounds_ne (by omega)]
            · rw [tellF_snoc _ _ _ _ HS1.out]
              exact HMS.out
          case measure => simp [intOf]; omega
        | noD =>
          have q1 := as_no_let
          rw [show deT (.noD) = 93 from rfl, show deU (.noD) = .agg #[] from rfl] at hcj HRD
          go_wp2_with fail
          refine (HRD.out _ HIW.out).mono ?_
          rintro r w2 ⟨rfl, hb2⟩
          have hb2w := hbw.trans (hb2.mono hbw.size)
          have HM2 := Lib.hid (And.intro ((hb2.cell (p := ⟨w1.heap.size + 1, 0, none⟩) (cell_lt HM.out.1)).trans HM.out.1) (HM.out.2.stay (hb2.block _ HM.out.2.lt)))
          have HS1 := Lib.hid hsv
          have HB2 := Lib.hid hb2w
          clear hb2 hb2w HM hbw hcj HRD hsv
          go_wp2_with fail
          go_roundw
          case rel =>
            have hbV : Below w2.heap.size w2 (w2.alloc (.cells #[.string { data := #[] }, .string { data := #[] }, .nilIface] 61)) := (Below.refl _ w2).alloc (Nat.le_refl _) _
            exact ⟨j + 1, ss, vs, by omega, by go_num, HS1.out, HE, Lib.hid ⟨(hbV.cell (p := ⟨w1.heap.size + 1, 0, none⟩) (cell_lt HM2.out.1)).trans HM2.out.1, HM2.out.2.stay (hbV.block _ HM2.out.2.lt)⟩, HB2.out.trans (hbV.mono HB2.out.size)⟩
          case measure => simp [intOf]; omega
        | sayD p =>
          have q1 := as_say_let
          rw [show deT (.sayD p) = 78 from rfl, show deU (.sayD p) = .agg #[partV p] from rfl, partV_at p] at hcj HRD
          generalize ptT p = t2 at *
          generalize ptU p = u2 at *
          go_wp2_with fail
          refine (HRD.out _ HIW.out).mono ?_
          rintro r w2 ⟨rfl, hb2⟩
          have hb2w := hbw.trans (hb2.mono hbw.size)
          have HM2 := Lib.hid (And.intro ((hb2.cell (p := ⟨w1.heap.size + 1, 0, none⟩) (cell_lt HM.out.1)).trans HM.out.1) (HM.out.2.stay (hb2.block _ HM.out.2.lt)))
          have HS1 := Lib.hid hsv
          have HB2 := Lib.hid hb2w
          clear hb2 hb2w HM hbw hcj HRD hsv
          go_wp2_with fail
          go_roundw
          case rel =>
            have hbV : Below w2.heap.size w2 (w2.alloc (.cells #[.string { data := #[] }, .string { data := #[] }, .nilIface] 61)) := (Below.refl _ w2).alloc (Nat.le_refl _) _
            exact ⟨j + 1, ss, vs, by omega, by go_num, HS1.out, HE, Lib.hid ⟨(hbV.cell (p := ⟨w1.heap.size + 1, 0, none⟩) (cell_lt HM2.out.1)).trans HM2.out.1, HM2.out.2.stay (hbV.block _ HM2.out.2.lt)⟩, HB2.out.trans (hbV.mono HB2.out.size)⟩
          case measure => simp [intOf]; omega
        | whenD p q =>
          have q1 := as_when_let
          rw [show deT (.whenD p q) = 80 from rfl, show deU (.whenD p q) = .agg #[partV p, partV q] from rfl, partV_at p, partV_at q] at hcj HRD
          generalize ptT p = t2 at *
          generalize ptU p = u2 at *
          generalize ptT q = t3 at *
          generalize ptU q = u3 at *
          go_wp2_with fail
          refine (HRD.out _ HIW.out).mono ?_
          rintro r w2 ⟨rfl, hb2⟩
          have hb2w := hbw.trans (hb2.mono hbw.size)
          have HM2 := Lib.hid (And.intro ((hb2.cell (p := ⟨w1.heap.size + 1, 0, none⟩) (cell_lt HM.out.1)).trans HM.out.1) (HM.out.2.stay (hb2.block _ HM.out.2.lt)))
          have HS1 := Lib.hid hsv
          have HB2 := Lib.hid hb2w
          clear hb2 hb2w HM hbw hcj HRD hsv
          go_wp2_with fail
          go_roundw
          case rel =>
            have hbV : Below w2.heap.size w2 (w2.alloc (.cells #[.string { data := #[] }, .string { data := #[] }, .nilIface] 61)) := (Below.refl _ w2).alloc (Nat.le_refl _) _
            exact ⟨j + 1, ss, vs, by omega, by go_num, HS1.out, HE, Lib.hid ⟨(hbV.cell (p := ⟨w1.heap.size + 1, 0, none⟩) (cell_lt HM2.out.1)).trans HM2.out.1, HM2.out.2.stay (hbV.block _ HM2.out.2.lt)⟩, HB2.out.trans (hbV.mono HB2.out.size)⟩
          case measure => simp [intOf]; omega
    · have HE := Lib.hid (show (-1 : Int) = typeP xs by rw [HT.out, ← HR.out, typeFrom_end (by omega)])
      go_wp2_with fail
      go_ret
      exact ⟨ret_int HE.out, HB1.out.trans (hbw.mono HB1.out.size)⟩
end Go.Proofs.YtabignplhkbcpaaGreatDoor

namespace Go.Proofs.YtabignplhkbcpaaGreatDoor
open Go.RowKit Go.Shelf

theorem zeroIntV (w : World) : (zeroValue 3).run Tryz.prog w = .ok (.int .i64 0) w := by kernel_rfl
/-- The map at block bm tells of names what was told. -/
def NumMap (bm : Nat) (ss : List ByteArray) (vs : List Int) (w : World) : Prop := MapS w bm (tellF (fun v => .int .i64 v) 0 ss vs)
theorem tell_nums (bm : Nat) (F : Value) (ss : List ByteArray) (vs : List Int) : TellM 35 (.agg #[.map (some bm), F]) (NumMap bm ss vs) (outN ss vs) where
  n := enters_of Tryz.func35 (by kernel_rfl) rfl
  keep := by
    intro w w' h2 hb
    exact MapS.stay h2 (hb.block _ (MapS.lt h2))
  call := by
    intro s w h2
    have hb0 : Below w.heap.size w (w.alloc (.cells #[.map (some bm), F] 46)) := (Below.refl _ w).alloc (Nat.le_refl _) _
    have hlk := mapS_lookup (MapS.stay h2 (hb0.block _ (MapS.lt h2))) Tryz.underlying43 Tryz.underlying9 zeroIntV s
    have HO := Lib.hid (show outN ss vs s = .tuple #[((tellF (fun v => Value.int .i64 v) 0 ss vs s).getD (.int .i64 0)), .bool (tellF (fun v => Value.int .i64 v) 0 ss vs s).isSome] by
      unfold outN tellN tellF
      cases lastOf ss s <;> rfl)
    generalize tellF (fun v => Value.int .i64 v) 0 ss vs s = F at *
    clear h2
    go_enter Tryz.func35, Tryz.ntmps35
    go_wp2_with fail
    go_ret2
    exact ⟨by rw [HO.out]; rfl, hb0⟩
/-- The box at g holds a list of numbers of its own, from block B on. -/
def LstI (B g : Nat) (zs : List Int) (w : World) : Prop := ∃ v, Boxed w g 25 v ∧ w.ownsRow B 3 1 v zs.length (zs.map intV)
set_option maxRecDepth 100000 in
set_option maxHeartbeats 1000000 in
theorem say_any (B g : Nat) (zs : List Int) (z : Int) (w : World) (h : LstI B g zs w) (hB : B ≤ w.heap.size) (hl : zs.length ≤ 10000) :
    Calls Tryz.prog 22 #[.int .i64 z, .pointer (some ⟨g, 0, none⟩)] w fun r w' => (∃ v, r = .returned v) ∧ LstI B g (zs ++ [z]) w' ∧ w.heap.size ≤ w'.heap.size ∧ w'.os = w.os ∧ w'.tape = w.tape ∧ w'.output = w.output ∧ ∀ k, k < B → k ≠ g → w'.heap[k]? = w.heap[k]? := by
  obtain ⟨v, hv, hrow⟩ := h
  obtain ⟨i0, hi, hz0, hz1, hz2⟩ := info_partsA infoInt
  obtain ⟨A, c, hvs, hc⟩ := own_slice hrow
  subst hvs
  have hcell := hv.cell
  have hfro := hv.frozen
  have hgw := hv.lt
  go_enter Tryz.func22, Tryz.ntmps22
  go_wp2_with (at_builtin; refine wpList_append_own_at _ rfl _ _ 25 rfl B 3 i0 (.int .i64 0) 1 8 Tryz.underlying25 hi hz0 hz1 hz2 rfl (by decide) _ _ _ rfl (hrow.alloc _) ⟨w.heap.size, 0, none⟩ 1 1 [.int .i64 z] rfl rfl (fun j u hj => (by match j, hj with | 0, hj => (simp at hj; subst hj; exact cell_made4 w _ _ 0 _ rfl) | j + 1, hj => simp at hj)) (by simp [Value.oneCell']) (by unfold maxLen; omega) (by omega) (by simp; omega) ?_; intro v' w1 hown' hgrow _ hat; obtain ⟨g', cap', rfl⟩ := ownsRow_succ hown'; have hv1 := (hv.alloc (.cells #[.int .i64 z] 3)).kept hgrow (hv.not_row (by decide) hrow); have hc1 := hv1.cell; have hf1 := hv1.frozen)
  go_end0
  have hgrow2 : (w.alloc (.cells #[.int .i64 z] 3)).grownBy w1 (Value.slice A zs.length c).ownBlock := hgrow
  have hz1' := hgrow2.size
  rw [World.size_alloc] at hz1'
  have hlow : ∀ k, k < B → (Value.slice A zs.length c).ownBlock ≠ some k := by
    intro k hk e
    rcases hrow.2 with ⟨hn, _⟩ | ⟨g2, cap, cur, hv2, hb2, _⟩
    · rw [hn] at e; simp [Value.ownBlock] at e
    · rw [hv2] at e; simp [Value.ownBlock] at e; omega
  refine ⟨⟨_, rfl⟩, ⟨_, hv1.set _, ?_⟩, by simp; omega, hgrow2.os, hgrow2.tape, hgrow2.output, fun k hk hne => ?_⟩
  · rw [List.map_append, List.length_append]
    exact hown'.kept (grownBy_setCell' w1 g _) (.inr (hv1.not_row (by decide) hown').symm)
  · exact (Below.heap_setCell _ _ _ k hne).trans ((hgrow2.block k (by simp; omega) (fun e => hlow k hk e.symm)).trans (Below.heap_alloc _ _ _ (by omega)))
/-- How things stand while a program runs: the names that were told, and what was said. -/
structure RunS (X : World) (Bs bm base : Nat) (ss : List ByteArray) (vs out : List Int) (W : World) : Prop where
  m : NumMap bm ss vs W
  s : LstI base Bs out W
  z : base ≤ W.heap.size
  b : ∀ k, k < base → k ≠ Bs → k ≠ bm → W.heap[k]? = X.heap[k]?
  os : W.os = X.os
  tape : W.tape = X.tape
  output : W.output = X.output
theorem LstI.below {B g : Nat} {zs : List Int} {w w' : World} (h : LstI B g zs w) (hb : Below w.heap.size w w') : LstI B g zs w' := by
  obtain ⟨v, h1, h2⟩ := h
  exact ⟨v, (hb.block g h1.lt).trans h1, own_below h2 hb⟩
theorem RunS.below {X : World} {Bs bm base : Nat} {ss : List ByteArray} {vs out : List Int} {W W' : World} (h : RunS X Bs bm base ss vs out W) (hb : Below W.heap.size W W') : RunS X Bs bm base ss vs out W' :=
  ⟨MapS.stay h.m (hb.block _ (MapS.lt h.m)), h.s.below hb, Nat.le_trans h.z hb.size, fun k h1 h2 h3 => (hb.block k (by have := h.z; omega)).trans (h.b k h1 h2 h3), hb.os.trans h.os, hb.tape.trans h.tape, hb.output.trans h.output⟩
theorem RunS.tell {X : World} {Bs bm base : Nat} {ss : List ByteArray} {vs out : List Int} {W : World} (h : RunS X Bs bm base ss vs out W) (hne : Bs ≠ bm) (hbm : bm < base) (hsv : ss.length = vs.length) (n : ByteArray) (v : Int) (o : Obj) (hM : MapS { W with heap := W.heap.setIfInBounds bm o } bm (fun t => if t = n then some (.int .i64 v) else tellF (fun v => .int .i64 v) 0 ss vs t)) :
    RunS X Bs bm base (ss ++ [n]) (vs ++ [v]) out { W with heap := W.heap.setIfInBounds bm o } := by
  have hk : ∀ k, k ≠ bm → (W.heap.setIfInBounds bm o)[k]? = W.heap[k]? := fun k hk => by rw [Array.getElem?_setIfInBounds_ne (by omega)]
  have hg : W.grownBy { W with heap := W.heap.setIfInBounds bm o } (some bm) := ⟨rfl, rfl, rfl, by simp, fun k _ h2 => hk k (fun e => h2 (by rw [e]))⟩
  refine ⟨?_, ?_, by simpa using h.z, fun k h1 h2 h3 => (hk k h3).trans (h.b k h1 h2 h3), h.os, h.tape, h.output⟩
  · unfold NumMap
    rw [tellF_snoc _ _ _ _ hsv]
    exact hM
  · obtain ⟨u, h1, h2⟩ := h.s
    refine ⟨u, (hk Bs hne).trans h1, h2.kept hg ?_⟩
    rcases h2.2 with ⟨hn, _⟩ | ⟨g2, cap, cur, hv2, hb2, _⟩
    · exact .inl (by rw [hn]; rfl)
    · exact .inr (by rw [hv2]; simp [Value.ownBlock]; omega)
theorem RunS.said {X : World} {Bs bm base : Nat} {ss : List ByteArray} {vs out out' : List Int} {W W' : World} (h : RunS X Bs bm base ss vs out W) (hne : Bs ≠ bm) (hbm : bm < base) (hL : LstI base Bs out' W') (hz : W.heap.size ≤ W'.heap.size) (ho : W'.os = W.os) (ht : W'.tape = W.tape) (hp : W'.output = W.output) (hk : ∀ k, k < base → k ≠ Bs → W'.heap[k]? = W.heap[k]?) : RunS X Bs bm base ss vs out' W' :=
  ⟨MapS.stay h.m (hk bm hbm (fun e => hne e.symm)), hL, Nat.le_trans h.z hz, fun k h1 h2 h3 => (hk k h1 h2).trans (h.b k h1 h2 h3), ho.trans h.os, ht.trans h.tape, hp.trans h.output⟩
def RunAns (X : World) (Bs bm base : Nat) (ss : List ByteArray) (vs out : List Int) (d : De) (r : Ending) (w' : World) : Prop :=
  (saysD ss vs d = none ∧ r = .returned (.bool false) ∧ RunS X Bs bm base ss vs out w') ∨ ∃ ns, saysD ss vs d = some ns ∧ r = .returned (.bool true) ∧ RunS X Bs bm base (toldS ss d) (toldI ss vs d) (out ++ ns) w'
set_option linter.unusedVariables false in
set_option linter.unusedSimpArgs false in
set_option maxRecDepth 100000 in
set_option maxHeartbeats 8000000 in
theorem do_any (X : World) (Bs bm base : Nat) (ss : List ByteArray) (vs out : List Int) (d : De) (w : World) (hS : RunS X Bs bm base ss vs out w) (hne : Bs ≠ bm) (hbm : bm < base) (hbs : Bs < base) (hsv : ss.length = vs.length) (hd : d.fine = true) (hout : out.length ≤ 9000) :
    Calls Tryz.prog 23 #[.agg #[.map (some bm), .func (.func 22) #[] #[.pointer (some ⟨Bs, 0, none⟩)]], deV d] w (RunAns X Bs bm base ss vs out d) := by
  have HTM := Lib.hid (tell_nums bm (.func (.func 22) #[] #[.pointer (some ⟨Bs, 0, none⟩)]) ss vs)
  have HSAY := Lib.hid (fun (z : Int) (W : World) (h : RunS X Bs bm base ss vs out W) => say_any base Bs out z W h.s h.z (by omega))
  unfold RunAns
  cases d with
  | noD =>
    rw [show deV .noD = .iface 93 (.agg #[]) from rfl]
    have q1 := as_no_let
    have q2 := as_no_say
    have q3 := as_no_when
    have hb0 : Below w.heap.size w (w.alloc (.cells #[.map (some bm), .func (.func 22) #[] #[.pointer (some ⟨Bs, 0, none⟩)]] 46)) := (Below.refl _ w).alloc (Nat.le_refl _) _
    have HR := Lib.hid (hS.below hb0)
    clear hS
    go_enter Tryz.func23, Tryz.ntmps23
    go_wp2_with fail
    go_ret
    exact .inr ⟨[], rfl, rfl, by simpa [toldS, toldI] using HR.out⟩
  | letD n t p =>
    rw [show deV (.letD n t p) = .iface 61 (.agg #[.string n, .string t, partV p]) from rfl]
    have q1 := as_let_let
    simp only [De.fine, Bool.and_eq_true] at hd
    obtain ⟨m1, n1, k1⟩ := meth_comesTo p
    obtain ⟨W0, hW0⟩ : ∃ W0, W0 = (w.alloc (.cells #[.map (some bm), .func (.func 22) #[] #[.pointer (some ⟨Bs, 0, none⟩)]] 46)).alloc (.cells #[.string n, .string t, partV p] 61) := ⟨_, rfl⟩
    have hb0 : Below w.heap.size w W0 := by rw [hW0]; exact ((Below.refl _ w).alloc (Nat.le_refl _) _).alloc (by simp) _
    have hs0 : w.heap.size + 1 < W0.heap.size := by rw [hW0]; simp
    have BR := Lib.hid (show BlkT W0 w.heap.size #[.map (some bm), .func (.func 22) #[] #[.pointer (some ⟨Bs, 0, none⟩)]] 46 by rw [hW0]; exact (blkT_new w _ _).stay (Below.heap_alloc _ _ _ (by simp)))
    have BL := Lib.hid (show BlkT W0 (w.heap.size + 1) #[.string n, .string t, partV p] 61 by
      rw [hW0]
      have := blkT_new (w.alloc (.cells #[.map (some bm), .func (.func 22) #[] #[.pointer (some ⟨Bs, 0, none⟩)]] 46)) #[.string n, .string t, partV p] 61
      rwa [World.size_alloc] at this)
    have HR := Lib.hid (hS.below hb0)
    have HA := Lib.hid (comesToG_any HTM.out p (ok_fine hd.2.2) W0 HR.out.m)
    have HSD := Lib.hid (show saysD ss vs (.letD n t p) = (p.of ss vs).map fun _ => [] from rfl)
    have HTI := Lib.hid (show toldI ss vs (.letD n t p) = vs ++ [(p.of ss vs).getD 0] from rfl)
    rw [partV_at p] at hW0 BL ⊢
    generalize ptT p = t1 at *
    generalize ptU p = u1 at *
    generalize fComesTo p = f1 at *
    unfold Comes at HA
    generalize p.of ss vs = R at *
    clear hS hb0 HSAY
    go_enter Tryz.func23, Tryz.ntmps23
    go_wp2_with fail
    rw [← hW0]
    clear hW0
    refine HA.out.mono ?_
    rintro r w1 ⟨rfl, hb1⟩
    have HR1 := Lib.hid (HR.out.below hb1)
    cases R with
    | none =>
      simp only [Option.getD_none, Option.isSome_none]
      go_wp2_with fail
      go_ret
      exact .inl ⟨HSD.out, rfl, HR1.out⟩
    | some v =>
      simp only [Option.getD_some, Option.isSome_some]
      have e0 := (BR.out.below hb1).cell 0
      have e1 := (BL.out.below hb1).cell 0
      simp only [List.getElem?_toArray, List.getElem?_cons_zero, List.getElem?_cons_succ] at e0 e1
      obtain ⟨o, hrun, hMS⟩ := mapS_update HR1.out.m Tryz.underlying43 Tryz.underlying9 n (.int .i64 v)
      have HMS := Lib.hid hMS
      clear hMS
      go_wp2_with fail
      go_ret
      exact .inr ⟨[], HSD.out, rfl, by
        have h := HR1.out.tell hne hbm hsv n v o HMS.out
        rw [List.append_nil, HTI.out]
        exact h⟩
  | sayD p =>
    rw [show deV (.sayD p) = .iface 78 (.agg #[partV p]) from rfl]
    have q1 := as_say_let
    have q2 := as_say_say
    obtain ⟨m1, n1, k1⟩ := meth_comesTo p
    obtain ⟨W0, hW0⟩ : ∃ W0, W0 = (w.alloc (.cells #[.map (some bm), .func (.func 22) #[] #[.pointer (some ⟨Bs, 0, none⟩)]] 46)).alloc (.cells #[partV p] 78) := ⟨_, rfl⟩
    have hb0 : Below w.heap.size w W0 := by rw [hW0]; exact ((Below.refl _ w).alloc (Nat.le_refl _) _).alloc (by simp) _
    have BR := Lib.hid (show BlkT W0 w.heap.size #[.map (some bm), .func (.func 22) #[] #[.pointer (some ⟨Bs, 0, none⟩)]] 46 by rw [hW0]; exact (blkT_new w _ _).stay (Below.heap_alloc _ _ _ (by simp)))
    have HR := Lib.hid (hS.below hb0)
    have HA := Lib.hid (comesToG_any HTM.out p (ok_fine hd) W0 HR.out.m)
    have HSD := Lib.hid (show saysD ss vs (.sayD p) = (p.of ss vs).map fun n => [n] from rfl)
    rw [partV_at p] at hW0 ⊢
    generalize ptT p = t1 at *
    generalize ptU p = u1 at *
    generalize fComesTo p = f1 at *
    unfold Comes at HA
    generalize p.of ss vs = R at *
    clear hS hb0
    go_enter Tryz.func23, Tryz.ntmps23
    go_wp2_with fail
    rw [← hW0]
    clear hW0
    refine HA.out.mono ?_
    rintro r w1 ⟨rfl, hb1⟩
    have HR1 := Lib.hid (HR.out.below hb1)
    cases R with
    | none =>
      simp only [Option.getD_none, Option.isSome_none]
      go_wp2_with fail
      go_ret
      exact .inl ⟨HSD.out, rfl, HR1.out⟩
    | some v =>
      simp only [Option.getD_some, Option.isSome_some]
      have e0 := (BR.out.below hb1).cell 1
      simp only [List.getElem?_toArray, List.getElem?_cons_zero, List.getElem?_cons_succ] at e0
      have HC := Lib.hid (HSAY.out v w1 HR1.out)
      go_wp2_with fail
      refine HC.out.mono ?_
      rintro r w2 ⟨⟨u, rfl⟩, hL, hz, h1, h2, h3, h4⟩
      have HR2 := Lib.hid (HR1.out.said hne hbm hL hz h1 h2 h3 h4)
      clear hL h4
      go_wp2_with fail
      go_ret
      exact .inr ⟨[v], HSD.out, rfl, HR2.out⟩
  | whenD p q =>
    rw [show deV (.whenD p q) = .iface 80 (.agg #[partV p, partV q]) from rfl]
    have q1 := as_when_let
    have q2 := as_when_say
    have q3 := as_when_when
    simp only [De.fine, Bool.and_eq_true] at hd
    obtain ⟨m1, n1, k1⟩ := meth_comesTo p
    obtain ⟨m2, n2, k2⟩ := meth_comesTo q
    obtain ⟨W0, hW0⟩ : ∃ W0, W0 = (w.alloc (.cells #[.map (some bm), .func (.func 22) #[] #[.pointer (some ⟨Bs, 0, none⟩)]] 46)).alloc (.cells #[partV p, partV q] 80) := ⟨_, rfl⟩
    have hb0 : Below w.heap.size w W0 := by rw [hW0]; exact ((Below.refl _ w).alloc (Nat.le_refl _) _).alloc (by simp) _
    have BR := Lib.hid (show BlkT W0 w.heap.size #[.map (some bm), .func (.func 22) #[] #[.pointer (some ⟨Bs, 0, none⟩)]] 46 by rw [hW0]; exact (blkT_new w _ _).stay (Below.heap_alloc _ _ _ (by simp)))
    have BL := Lib.hid (show BlkT W0 (w.heap.size + 1) #[partV p, partV q] 80 by
      rw [hW0]
      have := blkT_new (w.alloc (.cells #[.map (some bm), .func (.func 22) #[] #[.pointer (some ⟨Bs, 0, none⟩)]] 46)) #[partV p, partV q] 80
      rwa [World.size_alloc] at this)
    have HR := Lib.hid (hS.below hb0)
    have HA := Lib.hid (comesToG_any HTM.out p (ok_fine hd.1) W0 HR.out.m)
    have HB := Lib.hid (fun (W : World) (h : RunS X Bs bm base ss vs out W) => comesToG_any HTM.out q (ok_fine hd.2) W h.m)
    have HSD := Lib.hid (show saysD ss vs (.whenD p q) = (p.of ss vs).bind fun a => (q.of ss vs).map fun n => if a = 0 then [] else [n] from rfl)
    rw [partV_at p, partV_at q] at hW0 BL ⊢
    generalize ptT p = t1 at *
    generalize ptU p = u1 at *
    generalize fComesTo p = f1 at *
    generalize ptT q = t2 at *
    generalize ptU q = u2 at *
    generalize fComesTo q = f2 at *
    unfold Comes at HA HB
    generalize p.of ss vs = R1 at *
    generalize q.of ss vs = R2 at *
    clear hS hb0
    go_enter Tryz.func23, Tryz.ntmps23
    go_wp2_with fail
    rw [← hW0]
    clear hW0
    refine HA.out.mono ?_
    rintro r w1 ⟨rfl, hb1⟩
    have HR1 := Lib.hid (HR.out.below hb1)
    have e0 := (BR.out.below hb1).cell 0
    have e1 := (BR.out.below hb1).cell 1
    have l1 := (BL.out.below hb1).cell 1
    simp only [List.getElem?_toArray, List.getElem?_cons_zero, List.getElem?_cons_succ] at e0 e1 l1
    have HBR1 := Lib.hid (BR.out.below hb1)
    go_wp2_with fail
    refine (HB.out w1 HR1.out).mono ?_
    rintro r w2 ⟨rfl, hb2⟩
    have HR2 := Lib.hid (HR1.out.below hb2)
    have y1 := (HBR1.out.below hb2).cell 1
    simp only [List.getElem?_toArray, List.getElem?_cons_zero, List.getElem?_cons_succ] at y1
    clear e0 e1 l1 hb1 hb2
    cases R1 with
    | none =>
      simp only [Option.getD_none, Option.isSome_none]
      go_wp2_with fail
      go_ret
      exact .inl ⟨HSD.out, rfl, HR2.out⟩
    | some a =>
      simp only [Option.getD_some, Option.isSome_some]
      cases R2 with
      | none =>
        simp only [Option.getD_none, Option.isSome_none]
        go_wp2_with fail
        go_ret
        exact .inl ⟨HSD.out, rfl, HR2.out⟩
      | some v =>
        simp only [Option.getD_some, Option.isSome_some]
        by_cases ha : a = 0
        · have q4 : (a != 0) = false := by rw [ha]; rfl
          have HAZ := Lib.hid ha
          clear ha
          go_wp2_with fail
          go_ret
          exact .inr ⟨[], by rw [HSD.out]; show some (if a = 0 then [] else [v]) = _; rw [if_pos HAZ.out], rfl, by rw [List.append_nil]; exact HR2.out⟩
        · have q4 : (a != 0) = true := by simpa using ha
          have HAZ := Lib.hid ha
          have HC := Lib.hid (HSAY.out v w2 HR2.out)
          clear ha
          go_wp2_with fail
          refine HC.out.mono ?_
          rintro r w3 ⟨⟨u, rfl⟩, hL, hz, h1, h2, h3, h4⟩
          have HR3 := Lib.hid (HR2.out.said hne hbm hL hz h1 h2 h3 h4)
          clear hL h4
          go_wp2_with fail
          go_ret
          exact .inr ⟨[v], by rw [HSD.out]; show some (if a = 0 then [] else [v]) = _; rw [if_neg HAZ.out], rfl, HR3.out⟩
theorem saysD_le {ss : List ByteArray} {vs : List Int} {d : De} {ns : List Int} (h : saysD ss vs d = some ns) : ns.length ≤ 1 := by
  cases d with
  | noD => cases h; simp
  | letD n t p => obtain ⟨a, _, rfl⟩ := Option.map_eq_some_iff.1 h; simp
  | sayD p => obtain ⟨a, _, rfl⟩ := Option.map_eq_some_iff.1 h; simp
  | whenD p q =>
    obtain ⟨a, _, h2⟩ := Option.bind_eq_some_iff.1 h
    obtain ⟨b, _, rfl⟩ := Option.map_eq_some_iff.1 h2
    split <;> simp
/-- A list of numbers of its own is handed back, from block B on; none is nil. -/
def GivesI (zs : List Int) (ok : Bool) (w : World) (r : Ending) (w' : World) : Prop := ∃ v, r = .returned (.tuple #[v, .bool ok]) ∧ w'.ownsRow w.heap.size 3 1 v zs.length (zs.map intV) ∧ Below w.heap.size w w'
set_option linter.unusedVariables false in
set_option linter.unusedSimpArgs false in
set_option maxRecDepth 100000 in
set_option maxHeartbeats 8000000 in
theorem progRun_any (xs : List St) (A : Option Addr) (c B : Nat) (a : Addr) (w : World) (hA : LinesU w B A xs) (hB : B ≤ w.heap.size) (hwt : stWts xs ≤ 2 ^ 29) (hL : LaidW w) (hN : LaidN w a) :
    Calls Tryz.prog 11 #[.slice A xs.length c] w (GivesI (runP xs).1 (runP xs).2 w) := by
  have HD := Lib.hid (deedsOf_any xs A c B a w hA hB hwt hL hN)
  have HP := Lib.hid (show (∀ ds, doP xs = some ds → ds.length ≤ 16 ∧ ∀ d ∈ ds, d.fine = true) from fun ds h => by
    have h1 := doP_some h
    have h2 := doP_fine h
    exact ⟨by omega, fun d hd => (h2.2 d hd).1⟩)
  have hmm := @run_makeMap Tryz.prog
  clear hA hL hN
  go_enter Tryz.func11, Tryz.ntmps11
  go_wp2_with fail
  refine HD.out.mono ?_
  rintro r w1 ⟨hb1, (⟨ds, g, hds, rfl, hg, hc⟩ | ⟨hds, rfl⟩)⟩
  case inr =>
    have HT := Lib.hid (show runP xs = ([], false) by unfold runP; rw [hds])
    clear hds HP
    go_wp2_with fail
    go_ret2
    rw [HT.out]
    exact ⟨.slice none 0 0, rfl, ⟨rfl, .inl ⟨rfl, rfl⟩⟩, hb1⟩
  have HT := Lib.hid (show runP xs = runFrom ds [] [] [] by unfold runP; rw [hds])
  obtain ⟨hlen, hfin⟩ := HP.out ds hds
  have HFI := Lib.hid hfin
  have HCE := Lib.hid hc
  have HB1 := Lib.hid hb1
  clear hds HP hc hb1 hfin
  obtain ⟨X, hX⟩ : ∃ X, X = ((w1.alloc (.cells #[.slice none 0 0] 25)).alloc (.map #[] 0)).alloc (.cells #[.map (some (w1.heap.size + 1)), .func (.func 22) #[] #[.pointer (some ⟨w1.heap.size, 0, none⟩)]] 46) := ⟨_, rfl⟩
  have hzX : X.heap.size = w1.heap.size + 3 := by rw [hX]; simp
  have hbX : Below w1.heap.size w1 X := by rw [hX]; exact (((Below.refl _ w1).alloc (Nat.le_refl _) _).alloc (by simp) _).alloc (by simp <;> omega) _
  have HBX := Lib.hid (show BlkT X (w1.heap.size + 2) #[.map (some (w1.heap.size + 1)), .func (.func 22) #[] #[.pointer (some ⟨w1.heap.size, 0, none⟩)]] 46 by
    rw [hX]
    have := blkT_new ((w1.alloc (.cells #[.slice none 0 0] 25)).alloc (.map #[] 0)) #[.map (some (w1.heap.size + 1)), .func (.func 22) #[] #[.pointer (some ⟨w1.heap.size, 0, none⟩)]] 46
    rwa [World.size_alloc, World.size_alloc] at this)
  have HRX := Lib.hid (show RunS X w1.heap.size (w1.heap.size + 1) (w1.heap.size + 3) [] [] [] X from by
    refine ⟨?_, ⟨.slice none 0 0, ?_, ⟨rfl, .inl ⟨rfl, rfl⟩⟩⟩, by omega, fun _ _ _ _ => rfl, rfl, rfl, rfl⟩
    · have h := mapS_new (w1.alloc (.cells #[.slice none 0 0] 25))
      rw [World.size_alloc] at h
      rw [hX]
      exact MapS.stay h (Below.heap_alloc _ _ _ (by simp))
    · rw [hX]
      have h := Boxed.new w1 25 (.slice none 0 0)
      exact (h.alloc _).alloc _)
  clear hzX
  go_wp2_with fail
  rw [← hX]
  clear hX
  have HCX := Lib.hid hbX
  clear hbX
  go_loopw [22] (fun i wr => ∃ (j : Nat) (ss : List ByteArray) (vs out : List Int), j ≤ ds.length ∧ i = .int .i64 j ∧ Hid (ss.length = vs.length ∧ out.length ≤ j) ∧ Hid (runFrom (ds.drop j) ss vs out = runFrom ds [] [] []) ∧ Hid (RunS X w1.heap.size (w1.heap.size + 1) (w1.heap.size + 3) ss vs out wr))
    (fun i _ => ds.length - (intOf i).toNat)
  case atStart => exact ⟨0, [], [], [], Nat.zero_le _, rfl, Lib.hid ⟨rfl, Nat.le_refl _⟩, Lib.hid rfl, HRX⟩
  case round =>
    obtain ⟨j, ss, vs, out, hj, rfl, HLL, HR, HS⟩ := hrel
    obtain ⟨v, hv, hrow⟩ := HS.out.s
    have hcv := hv.cell
    have HFIN := Lib.hid (show Below w.heap.size w wr ∧ wr.ownsRow w.heap.size 3 1 v out.length (out.map intV) from by
      have hz := HS.out.z
      have h1 := HB1.out.size
      constructor
      · exact ⟨HS.out.os.trans (HCX.out.os.trans HB1.out.os), HS.out.tape.trans (HCX.out.tape.trans HB1.out.tape), HS.out.output.trans (HCX.out.output.trans HB1.out.output), by omega, fun k hk => (HS.out.b k (by omega) (by omega) (by omega)).trans ((HCX.out.block k (by omega)).trans (HB1.out.block k hk))⟩
      · refine ⟨hrow.1, ?_⟩
        rcases hrow.2 with h2 | ⟨g2, cap, cur, h2, h3, h4⟩
        · exact .inl h2
        · exact .inr ⟨g2, cap, cur, h2, by omega, h4⟩)
    clear hv hrow
    by_cases hlt : j < ds.length
    · have hx : (j : Int) < (ds.length : Int) := by omega
      have hcj := (World.cell?_of_block (a := ⟨g, j, none⟩) ((HS.out.b g (by omega) (by omega) (by omega)).trans (HCX.out.block g hg))).trans (HCE.out j hlt)
      have hBR := BlkT.stay HBX.out (HS.out.b (w1.heap.size + 2) (by omega) (by omega) (by omega))
      have e0 := hBR.cell 0
      have e1 := hBR.cell 1
      simp only [List.getElem?_toArray, List.getElem?_cons_zero, List.getElem?_cons_succ] at e0 e1
      have hstep := runFrom_at hlt ss vs out
      have hfd := HFI.out _ (List.getElem_mem hlt)
      have hle := fun ns (h : saysD ss vs ds[j] = some ns) => saysD_le h
      have HN2 := Lib.hid (toldI_len HLL.out.1 ds[j])
      generalize ds[j] = d at *
      have HDO := Lib.hid (do_any X w1.heap.size (w1.heap.size + 1) (w1.heap.size + 3) ss vs out d wr HS.out (by omega) (by omega) (by omega) HLL.out.1 hfd (by have := HLL.out.2; omega))
      have HST := Lib.hid hstep
      have HLE := Lib.hid hle
      rw [show deV d = .iface (deT d) (deU d) from rfl] at hcj
      unfold deV at HDO
      unfold RunAns at HDO
      generalize deT d = t1 at *
      generalize deU d = u1 at *
      clear hBR hstep hfd hle hcv
      go_wp2_with fail
      refine HDO.out.mono ?_
      rintro r w2 (⟨hn, rfl, hR2⟩ | ⟨ns, hn, rfl, hR2⟩)
      · have HE := Lib.hid (show runP xs = (out, false) by rw [HT.out, ← HR.out, HST.out, hn])
        have HR2 := Lib.hid hR2
        obtain ⟨v2, hv2, hrow2⟩ := hR2.s
        have hc2 := hv2.cell
        have HF2 := Lib.hid (show Below w.heap.size w w2 ∧ w2.ownsRow w.heap.size 3 1 v2 out.length (out.map intV) from by
          have hz := HR2.out.z
          have h1 := HB1.out.size
          constructor
          · exact ⟨HR2.out.os.trans (HCX.out.os.trans HB1.out.os), HR2.out.tape.trans (HCX.out.tape.trans HB1.out.tape), HR2.out.output.trans (HCX.out.output.trans HB1.out.output), by omega, fun k hk => (HR2.out.b k (by omega) (by omega) (by omega)).trans ((HCX.out.block k (by omega)).trans (HB1.out.block k hk))⟩
          · refine ⟨hrow2.1, ?_⟩
            rcases hrow2.2 with h2 | ⟨g2, cap, cur, h2, h3, h4⟩
            · exact .inl h2
            · exact .inr ⟨g2, cap, cur, h2, by omega, h4⟩)
        clear hn hR2 hv2 hrow2
        go_wp2_with fail
        go_ret2
        rw [HE.out]
        exact ⟨v2, rfl, HF2.out.2, HF2.out.1⟩
      · have HR2 := Lib.hid hR2
        have hl1 := HLE.out ns hn
        have HE := Lib.hid (show runFrom (ds.drop (j + 1)) (toldS ss d) (toldI ss vs d) (out ++ ns) = runFrom ds [] [] [] by rw [← HR.out, HST.out, hn])
        have HL1 := Lib.hid (show (out ++ ns).length ≤ j + 1 by have := HLL.out.2; simp; omega)
        clear hn hR2 hl1
        go_wp2_with fail
        go_roundw
        case rel => exact ⟨j + 1, toldS ss d, toldI ss vs d, out ++ ns, by omega, by go_num, Lib.hid ⟨HN2.out, HL1.out⟩, HE, HR2⟩
        case measure => simp [intOf]; omega
    · have HE := Lib.hid (show runP xs = (out, true) by rw [HT.out, ← HR.out, runFrom_end (by omega)])
      go_wp2_with fail
      go_ret2
      rw [HE.out]
      exact ⟨v, rfl, HFIN.out.2, HFIN.out.1⟩
end Go.Proofs.YtabignplhkbcpaaGreatDoor
