/-
  The contracts of the program's typesOk, typeOf and ExprType, for all parts and all that can be read.
-/
import Derived.Test.YtaclndbilpaboaaGreatDoorSpecOf2
import Derived.Test.YtaclndbilpaboaaGreatDoorMethOf
namespace Go.Proofs.YtaclndbilpaboaaGreatDoor
open Go.RowKit

theorem notType_any (s : ByteArray) (w : World) : Calls Tryz.prog 42 #[.string s] w fun e w' => e = .returned (.bool (!typeB s)) ∧ w = w' := by
  have HC := Lib.hid (typeOk_any s w)
  generalize typeB s = b at *
  go_enter Tryz.func42, Tryz.ntmps42
  go_wp2_with fail
  refine HC.out.mono ?_
  rintro e w1 ⟨rfl, rfl⟩
  go_wp2_with fail
  go_ret
  exact ⟨rfl, rfl⟩
set_option maxRecDepth 100000 in
set_option maxHeartbeats 1000000 in
theorem indexBad_any (A : Option Addr) (c : Nat) (vs : List ByteArray) (w : World) (hl : vs.length ≤ 2 ^ 40) (hV : SlIs w A (vs.map strV)) :
    Calls Tryz.prog 54 #[.slice A vs.length c, .func (.func 42) #[] #[]] w fun e w' => (∃ k : Int, e = .returned (.int .i64 k) ∧ decide (0 ≤ k) = !vs.all typeB) ∧ w = w' := by
  have HT := Lib.hid notType_any
  go_enter Tryz.func54, Tryz.ntmps54
  go_wp2_with fail
  go_loop [8] (fun i => ∃ k : Nat, k ≤ vs.length ∧ i = .int .i64 (k : Int) ∧ Hid ((vs.take k).all typeB = true)) (fun i => vs.length - (intOf i).toNat)
  case atStart => exact ⟨0, Nat.zero_le _, rfl, Lib.hid rfl⟩
  case round =>
    obtain ⟨k, hk, rfl, HR⟩ := hrel
    by_cases hlt : k < vs.length
    · obtain ⟨g, off, rfl, hg, hcg⟩ := hV.at_ (k := k) (by simpa using hlt)
      simp only [List.getElem_map, strV] at hcg
      have HA2 := Lib.hid (all_take (f := typeB) hlt)
      have HBd := Lib.hid (fun h => all_bad (f := typeB) hlt h)
      generalize vs[k] = t at *
      have hx : (k : Int) < (vs.length : Int) := by omega
      have HT2 := Lib.hid (HT.out t)
      cases hb : typeB t
      · have HE := Lib.hid (show vs.all typeB = false from HBd.out hb)
        rw [hb] at HT2
        clear HA2 HBd hb
        go_wp2_with fail
        refine (HT2.out _).mono ?_
        rintro r w2 ⟨rfl, rfl⟩
        go_wp2_with fail
        go_ret
        exact ⟨⟨_, rfl, by rw [HE.out]; simp⟩, rfl⟩
      · have HR2 := Lib.hid (show (vs.take (k + 1)).all typeB = true by rw [HA2.out, HR.out, hb]; rfl)
        rw [hb] at HT2
        clear HA2 HBd hb HR
        go_wp2_with fail
        refine (HT2.out _).mono ?_
        rintro r w2 ⟨rfl, rfl⟩
        go_wp2_with fail
        go_round
        case rel => exact ⟨k + 1, by omega, by go_num, HR2⟩
        case measure => simp [intOf]; omega
    · have HE := Lib.hid (show vs.all typeB = true by
        have h := HR.out
        rwa [List.take_of_length_le (by omega)] at h)
      clear HR
      go_wp2_with fail
      go_ret
      exact ⟨⟨_, rfl, by rw [HE.out]; rfl⟩, rfl⟩
theorem typesOk_any (A : Option Addr) (c : Nat) (vs : List ByteArray) (w : World) (hl : vs.length ≤ 2 ^ 40) (hV : SlIs w A (vs.map strV)) :
    Calls Tryz.prog 27 #[.slice A vs.length c] w fun e w' => e = .returned (.bool (vs.all typeB)) ∧ w = w' := by
  have HI := Lib.hid (indexBad_any A c vs w hl hV)
  generalize vs.all typeB = b at *
  have HCF := Lib.hid (show Calls Tryz.prog 41 #[.slice A vs.length c, .func (.func 42) #[] #[]] w fun e w' => e = .returned (.bool (!b)) ∧ w = w' by
    go_enter Tryz.func41, Tryz.ntmps41
    go_wp2_with fail
    refine HI.out.mono ?_
    rintro e w1 ⟨⟨k, rfl, hk⟩, rfl⟩
    go_wp2_with fail
    go_ret
    exact ⟨rfl, rfl⟩)
  clear HI hV
  go_enter Tryz.func27, Tryz.ntmps27
  go_wp2_with fail
  refine HCF.out.mono ?_
  rintro e w1 ⟨rfl, rfl⟩
  go_wp2_with fail
  go_ret
  exact ⟨ret_bool (by simp), rfl⟩

/-- Names and their types, as the value that lastTold hands back holds them. -/
structure ToldS (Bn Bv : Nat) (A : Option Addr) (c : Nat) (ss : List ByteArray) (A' : Option Addr) (c' : Nat) (vs : List ByteArray) (w : World) : Prop where
  n : NamesAt Bn A c ss w
  v : w.cell? ⟨Bv, 0, none⟩ = some (.slice A' vs.length c')
  s : SlIs w A' (vs.map strV)
theorem ToldS.below {Bn Bv : Nat} {A : Option Addr} {c : Nat} {ss : List ByteArray} {A' : Option Addr} {c' : Nat} {vs : List ByteArray} {w w' : World} (h : ToldS Bn Bv A c ss A' c' vs w) (hb : Below w.heap.size w w') : ToldS Bn Bv A c ss A' c' vs w' :=
  ⟨h.n.below hb, (hb.cell (p := ⟨Bv, 0, none⟩) (cell_lt h.v)).trans h.v, h.s.below hb⟩

set_option maxRecDepth 100000 in
set_option maxHeartbeats 2000000 in
theorem typeOf_any {Bn Bv : Nat} {A : Option Addr} {c : Nat} {ss : List ByteArray} {A' : Option Addr} {c' : Nat} {vs : List ByteArray} (hl : ss.length ≤ 2 ^ 40) (hlen : ss.length = vs.length) (p : Pt) : ∀ w : World, ToldS Bn Bv A c ss A' c' vs w →
    Calls Tryz.prog (fTypeOf p) #[ptU p, .func (.func 44) #[] #[.pointer (some ⟨Bn, 0, none⟩), .pointer (some ⟨Bv, 0, none⟩)]] w (Types (p.typ ss vs) w) := by
  induction p with
  | num n =>
    intro w _
    show Calls Tryz.prog 121 #[.agg #[.int .i64 n], _] w _
    go_enter Tryz.func121, Tryz.ntmps121
    go_wp2_with fail
    go_ret
    exact ⟨rfl, (Below.refl _ w).alloc (Nat.le_refl _) _⟩
  | name s =>
    intro w hT
    show Calls Tryz.prog 127 #[.agg #[.string s], _] w _
    have hb0 : Below w.heap.size w (w.alloc (.cells #[.string s] 87)) := (Below.refl _ w).alloc (Nat.le_refl _) _
    have hT0 := hT.below hb0
    have HT := Lib.hid (told_string Bn Bv A c ss A' c' vs s _ hl hlen hT0.n hT0.v hT0.s)
    have HF := Lib.hid (show (Pt.name s).typ ss vs = lastS ss vs s from rfl)
    clear hT hT0 hlen
    go_enter Tryz.func127, Tryz.ntmps127
    go_wp2_with fail
    refine HT.out.mono ?_
    rintro e w1 ⟨rfl, hb1⟩
    go_wp2_with fail
    go_ret
    exact ⟨by rw [HF.out]; rfl, hb0.trans (hb1.mono hb0.size)⟩
  | «as» s a ia =>
    intro w hT
    show Calls Tryz.prog 141 #[.agg #[.string s, partV a], _] w (Types (if a.typ ss vs = ByteArray.empty then ByteArray.empty else s) w)
    obtain ⟨m1, n1, k1⟩ := meth_typeOf a
    have HA := Lib.hid ia
    rw [partV_at a]
    generalize ptT a = t1 at *
    generalize ptU a = u1 at *
    generalize fTypeOf a = f1 at *
    generalize a.typ ss vs = r1 at *
    obtain ⟨W0, hW0⟩ : ∃ W0, W0 = w.alloc (.cells #[.string s, .iface t1 u1] 92) := ⟨_, rfl⟩
    have hb0 : Below w.heap.size w W0 := by rw [hW0]; exact (Below.refl _ w).alloc (Nat.le_refl _) _
    have hs0 : w.heap.size < W0.heap.size := by rw [hW0]; simp
    have c0 : W0.cell? ⟨w.heap.size, 0, none⟩ = some (.string s) := by rw [hW0]; exact cell_made4 w _ _ 0 _ rfl
    have HT := Lib.hid (hT.below hb0)
    clear ia hT hlen
    have HG := Lib.hid (show ∀ x, (if r1 = ByteArray.empty then ByteArray.empty else s) = x → x = (if r1 = ByteArray.empty then ByteArray.empty else s) from fun _ h => h.symm)
    generalize hR : (if r1 = ByteArray.empty then ByteArray.empty else s) = R at *
    have HR := Lib.hid hR
    clear hR HG
    go_enter Tryz.func141, Tryz.ntmps141
    go_wp2_with fail
    rw [← hW0]
    clear hW0
    refine (HA.out _ HT.out).mono ?_
    rintro e w1 ⟨rfl, hb1⟩
    have d0 := (hb1.cell (p := ⟨w.heap.size, 0, none⟩) hs0).trans c0
    clear c0
    by_cases hr : r1 = ByteArray.empty
    · have HE := Lib.hid (show R = ByteArray.empty by rw [← HR.out, if_pos hr])
      subst hr
      clear HR
      go_wp2_with fail
      go_ret
      exact ⟨by rw [HE.out]; rfl, hb0.trans (hb1.mono hb0.size)⟩
    · have q : (r1.toList == []) = false := by rw [isS, decide_eq_false_iff_not]; exact hr
      have HE := Lib.hid (show R = s by rw [← HR.out, if_neg hr])
      clear hr HR
      go_wp2_with fail
      go_ret
      exact ⟨by rw [HE.out]; rfl, hb0.trans (hb1.mono hb0.size)⟩
  | two s a b ia ib =>
    intro w hT
    show Calls Tryz.prog 134 #[.agg #[.string s, partV a, partV b], _] w (Types ((Pt.two s a b).typ ss vs) w)
    obtain ⟨m1, n1, k1⟩ := meth_typeOf a
    obtain ⟨m2, n2, k2⟩ := meth_typeOf b
    have HA := Lib.hid ia
    have HB := Lib.hid ib
    have HF := Lib.hid (show (Pt.two s a b).typ ss vs = if a.typ ss vs = sInt ∧ b.typ ss vs = sInt then (if s = sLess then sBool else sInt) else ByteArray.empty from rfl)
    rw [partV_at a, partV_at b]
    generalize (Pt.two s a b).typ ss vs = R at *
    generalize ptT a = t1 at *
    generalize ptU a = u1 at *
    generalize fTypeOf a = f1 at *
    generalize ptT b = t2 at *
    generalize ptU b = u2 at *
    generalize fTypeOf b = f2 at *
    generalize a.typ ss vs = r1 at *
    generalize b.typ ss vs = r2 at *
    obtain ⟨W0, hW0⟩ : ∃ W0, W0 = w.alloc (.cells #[.string s, .iface t1 u1, .iface t2 u2] 90) := ⟨_, rfl⟩
    have hb0 : Below w.heap.size w W0 := by rw [hW0]; exact (Below.refl _ w).alloc (Nat.le_refl _) _
    have hs0 : w.heap.size < W0.heap.size := by rw [hW0]; simp
    have c0 : W0.cell? ⟨w.heap.size, 0, none⟩ = some (.string s) := by rw [hW0]; exact cell_made4 w _ _ 0 _ rfl
    have c2 : W0.cell? ⟨w.heap.size, 2, none⟩ = some (.iface t2 u2) := by rw [hW0]; exact cell_made4 w _ _ 2 _ rfl
    have HT := Lib.hid (hT.below hb0)
    clear ia ib hT hlen
    go_enter Tryz.func134, Tryz.ntmps134
    go_wp2_with fail
    rw [← hW0]
    clear hW0
    refine (HA.out _ HT.out).mono ?_
    rintro e w1 ⟨rfl, hb1⟩
    have d0 := (hb1.cell (p := ⟨w.heap.size, 0, none⟩) hs0).trans c0
    have d2 := (hb1.cell (p := ⟨w.heap.size, 2, none⟩) hs0).trans c2
    have HT1 := Lib.hid (HT.out.below hb1)
    clear c2
    by_cases h1 : r1 = sInt
    · have q1 : (r1.toList == [105, 110, 116]) = true := by rw [isS, decide_eq_true_eq]; exact h1
      have HH1 := Lib.hid h1
      clear h1
      go_wp2_with fail
      refine (HB.out _ HT1.out).mono ?_
      rintro e w2 ⟨rfl, hb2'⟩
      have hb2 := hb1.trans (hb2'.mono hb1.size)
      have e0 := (hb2.cell (p := ⟨w.heap.size, 0, none⟩) hs0).trans c0
      have HX := Lib.hid (hb0.trans (hb2.mono hb0.size))
      clear d0 d2 hb2' c0
      by_cases h2 : r2 = sInt
      · have q2 : (r2.toList == [105, 110, 116]) = true := by rw [isS, decide_eq_true_eq]; exact h2
        have HH2 := Lib.hid h2
        clear h2
        by_cases h3 : s = sLess
        · have q3 : (s.toList == [60]) = true := by rw [isS, decide_eq_true_eq]; exact h3
          have HH3 := Lib.hid h3
          clear h3
          go_wp2_with fail
          go_ret
          exact ⟨by rw [HF.out, if_pos ⟨HH1.out, HH2.out⟩, if_pos HH3.out]; rfl, HX.out⟩
        · have q3 : (s.toList == [60]) = false := by rw [isS, decide_eq_false_iff_not]; exact h3
          have HH3 := Lib.hid h3
          clear h3
          go_wp2_with fail
          go_ret
          exact ⟨by rw [HF.out, if_pos ⟨HH1.out, HH2.out⟩, if_neg HH3.out]; rfl, HX.out⟩
      · have q2 : (r2.toList == [105, 110, 116]) = false := by rw [isS, decide_eq_false_iff_not]; exact h2
        have HH2 := Lib.hid h2
        clear h2
        go_wp2_with fail
        go_ret
        exact ⟨by rw [HF.out, if_neg (fun h => HH2.out h.2)]; rfl, HX.out⟩
    · have q1 : (r1.toList == [105, 110, 116]) = false := by rw [isS, decide_eq_false_iff_not]; exact h1
      have HH1 := Lib.hid h1
      clear h1
      go_wp2_with fail
      go_ret
      exact ⟨by rw [HF.out, if_neg (fun h => HH1.out h.1)]; rfl, hb0.trans (hb1.mono hb0.size)⟩

set_option maxHeartbeats 1000000 in
theorem lastTold_string (A A' : Option Addr) (c c' : Nat) (ss vs : List ByteArray) (w : World) (hN : SlIs w A (ss.map strV)) (hV : SlIs w A' (vs.map strV)) : Calls Tryz.prog 28 #[.slice A ss.length c, .slice A' vs.length c'] w fun e w' => ∃ Bn Bv, e = .returned (.func (.func 44) #[] #[.pointer (some ⟨Bn, 0, none⟩), .pointer (some ⟨Bv, 0, none⟩)]) ∧ ToldS Bn Bv A c ss A' c' vs w' ∧ Below w.heap.size w w' := by
  have hb : Below w.heap.size w ((w.alloc (.cells #[.slice A ss.length c] 25)).alloc (.cells #[.slice A' vs.length c'] 25)) := ((Below.refl _ w).alloc (Nat.le_refl _) _).alloc (by simp) _
  have HT := Lib.hid (show ToldS w.heap.size (w.heap.size + 1) A c ss A' c' vs ((w.alloc (.cells #[.slice A ss.length c] 25)).alloc (.cells #[.slice A' vs.length c'] 25)) by
    refine ⟨⟨((Boxed.new w 25 (.slice A ss.length c)).alloc _).cell, hN.below hb⟩, ?_, hV.below hb⟩
    have := Boxed.new (w.alloc (.cells #[.slice A ss.length c] 25)) 25 (.slice A' vs.length c')
    rw [World.size_alloc] at this
    exact this.cell)
  clear hN hV
  go_enter Tryz.func28, Tryz.ntmps28
  go_wp2_with fail
  go_ret
  exact ⟨_, _, rfl, HT.out, hb⟩
set_option maxRecDepth 100000 in
set_option maxHeartbeats 2000000 in
theorem exprType_any (e : Ex) (A : Option Addr) (c B : Nat) (An Av : Option Addr) (cn cv : Nat) (ss vs : List ByteArray) (w : World) (hA : KidsAt w B A e.kids) (hc : e.kids.length ≤ c) (hB : B ≤ w.heap.size) (hw : e.wt ≤ 2 ^ 40)
    (hl : ss.length ≤ 2 ^ 40) (hl2 : vs.length ≤ 2 ^ 40) (hN : SlIs w An (ss.map strV)) (hV : SlIs w Av (vs.map strV)) :
    Calls Tryz.prog 12 #[.agg #[.int .i64 e.kind, .int .i64 e.n, .string e.s, .slice A e.kids.length c], .slice An ss.length cn, .slice Av vs.length cv] w (Types (typE e ss vs) w) := by
  have hkl := kids_le hw
  have hb0 : Below w.heap.size w (w.alloc (.cells #[.int .i64 e.kind, .int .i64 e.n, .string e.s, .slice A e.kids.length c] 31)) := (Below.refl _ w).alloc (Nat.le_refl _) _
  have HC := Lib.hid (partOf_any e A c B _ (hA.keep (hb0.mono hB)) hc (Nat.le_trans hB hb0.size) hw)
  have HTO := Lib.hid (fun (W : World) (hW : Below w.heap.size w W) => typesOk_any Av cv vs W hl2 (hV.below hW))
  have HN := Lib.hid hN
  have HV := Lib.hid hV
  unfold PartOf at HC
  clear hA hw hN hV
  cases hok : okE e
  · have HF := Lib.hid (show typE e ss vs = ByteArray.empty by unfold typE; rw [okE_none hok])
    rw [hok] at HC
    clear hok
    go_enter Tryz.func12, Tryz.ntmps12
    go_wp2_with fail
    refine HC.out.mono ?_
    rintro r w1 ⟨v, rfl, _, hb1⟩
    go_wp2_with fail
    go_ret
    exact ⟨by rw [HF.out]; rfl, hb0.trans (hb1.mono hb0.size)⟩
  · obtain ⟨p, hp⟩ := okE_some hok
    rw [hok] at HC
    by_cases hll : ss.length = vs.length
    · have HF := Lib.hid (show typE e ss vs = if vs.all typeB = true then p.typ ss vs else ByteArray.empty by
        unfold typE; rw [hp]; by_cases h : vs.all typeB = true <;> simp [h, hll])
      have q : ((ss.length : Int) != (vs.length : Int)) = false := by rw [hll]; simp
      have HP := Lib.hid hp
      have HL := Lib.hid hll
      clear hp hll hok
      cases ht : vs.all typeB
      · rw [ht] at HF HTO
        clear ht
        go_enter Tryz.func12, Tryz.ntmps12
        go_wp2_with fail
        refine HC.out.mono ?_
        rintro r w1 ⟨v, rfl, _, hb1⟩
        have hb2 := hb0.trans (hb1.mono hb0.size)
        go_wp2_with fail
        refine (HTO.out _ hb2).mono ?_
        rintro r w2 ⟨rfl, rfl⟩
        go_wp2_with fail
        go_ret
        exact ⟨by rw [HF.out]; rfl, hb2⟩
      · rw [ht] at HF HTO
        clear ht
        go_enter Tryz.func12, Tryz.ntmps12
        go_wp2_with fail
        refine HC.out.mono ?_
        rintro r w1 ⟨v, rfl, hv, hb1⟩
        obtain rfl := hv p HP.out
        obtain ⟨m1, n1, k1⟩ := meth_typeOf p
        have hb2 := hb0.trans (hb1.mono hb0.size)
        have HCT := Lib.hid (fun (Bn Bv : Nat) (W : World) (h : ToldS Bn Bv An cn ss Av cv vs W) => typeOf_any hl HL.out p W h)
        have HLT := Lib.hid (fun (W : World) (hW : Below w.heap.size w W) => lastTold_string An Av cn cv ss vs W (HN.out.below hW) (HV.out.below hW))
        rw [partV_at p]
        generalize p.typ ss vs = R at *
        generalize ptT p = t1 at *
        generalize ptU p = u1 at *
        generalize fTypeOf p = f1 at *
        clear HC hv HN HV hb1 HP
        go_wp2_with fail
        refine (HTO.out _ hb2).mono ?_
        rintro r w2 ⟨rfl, rfl⟩
        clear HTO
        go_wp2_with fail
        go_region_held3 (fun w' => Below w1.heap.size w1 w') (first | exact (Below.refl _ w1).drew | exact hy3 | exact hy2)
          (first | (go_at_call 28; refine (HLT.out _ (hb2.trans ((Below.refl _ w1).drew.mono hb2.size))).mono ?_; rintro r w2 ⟨Bn, Bv, rfl, hT2, hx2⟩; have hy2 : Below w1.heap.size w1 w2 := (Below.refl _ w1).drew.trans hx2) | ((first | refine (HCT.out Bn Bv _ hT2).mono ?_ | refine (HCT.out Bn Bv _ (hT2.below (Below.refl _ w2).drew)).mono ?_); rintro r w3 ⟨rfl, hx3⟩; have hy3 : Below w1.heap.size w1 w3 := hy2.trans (hx3.mono hy2.size)))
        all_goals (try go_wp2_with fail)
        all_goals go_ret
        all_goals exact ⟨by rw [HF.out]; rfl, hb2.trans (hy3.mono hb2.size)⟩
    · have HF := Lib.hid (show typE e ss vs = ByteArray.empty by unfold typE; rw [hp]; simp [hll])
      have q : ((ss.length : Int) != (vs.length : Int)) = true := by rw [bne_iff_ne]; omega
      clear hp hll hok
      go_enter Tryz.func12, Tryz.ntmps12
      go_wp2_with fail
      refine HC.out.mono ?_
      rintro r w1 ⟨v, rfl, _, hb1⟩
      go_wp2_with fail
      go_ret
      exact ⟨by rw [HF.out]; rfl, hb0.trans (hb1.mono hb0.size)⟩
end Go.Proofs.YtaclndbilpaboaaGreatDoor
