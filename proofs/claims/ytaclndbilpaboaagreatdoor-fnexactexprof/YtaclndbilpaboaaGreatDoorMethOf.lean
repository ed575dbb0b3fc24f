/-
  The contracts of the program's comesTo and ExprOf, for all parts and all that can be read.
-/
import Derived.Test.YtaclndbilpaboaaGreatDoorMethCut
import Derived.Test.YtaclndbilpaboaaGreatDoorTold
namespace Go.Proofs.YtaclndbilpaboaaGreatDoor
open Go.RowKit

/-- Names and their numbers, as the value that lastTold hands back holds them. -/
structure ToldI (Bn Bv : Nat) (A : Option Addr) (c : Nat) (ss : List ByteArray) (A' : Option Addr) (c' : Nat) (vs : List Int) (w : World) : Prop where
  n : NamesAt Bn A c ss w
  v : w.cell? ⟨Bv, 0, none⟩ = some (.slice A' vs.length c')
  s : SlIs w A' (vs.map intV)
theorem ToldI.below {Bn Bv : Nat} {A : Option Addr} {c : Nat} {ss : List ByteArray} {A' : Option Addr} {c' : Nat} {vs : List Int} {w w' : World} (h : ToldI Bn Bv A c ss A' c' vs w) (hb : Below w.heap.size w w') : ToldI Bn Bv A c ss A' c' vs w' :=
  ⟨h.n.below hb, (hb.cell (p := ⟨Bv, 0, none⟩) (cell_lt h.v)).trans h.v, h.s.below hb⟩
set_option maxRecDepth 100000 in
set_option maxHeartbeats 2000000 in
theorem comesTo_any {Bn Bv : Nat} {A : Option Addr} {c : Nat} {ss : List ByteArray} {A' : Option Addr} {c' : Nat} {vs : List Int} (hl : ss.length ≤ 2 ^ 40) (hlen : ss.length = vs.length) (p : Pt) : p.fine = true → ∀ w : World, ToldI Bn Bv A c ss A' c' vs w →
    Calls Tryz.prog (fComesTo p) #[ptU p, .func (.func 48) #[] #[.pointer (some ⟨Bn, 0, none⟩), .pointer (some ⟨Bv, 0, none⟩)]] w (Comes (p.of ss vs) w) := by
  induction p with
  | num n =>
    intro _ w _
    show Calls Tryz.prog 118 #[.agg #[.int .i64 n], _] w _
    go_enter Tryz.func118, Tryz.ntmps118
    go_wp2_with fail
    go_ret2
    exact ⟨rfl, (Below.refl _ w).alloc (Nat.le_refl _) _⟩
  | name s =>
    intro _ w hT
    show Calls Tryz.prog 124 #[.agg #[.string s], _] w _
    have hb0 : Below w.heap.size w (w.alloc (.cells #[.string s] 87)) := (Below.refl _ w).alloc (Nat.le_refl _) _
    have hT0 := hT.below hb0
    have HT := Lib.hid (told_int Bn Bv A c ss A' c' vs s _ hl hlen hT0.n hT0.v hT0.s)
    have HC := Lib.hid cutNumber_any
    have HF := Lib.hid (show ((Pt.name s).of ss vs).getD 0 = cutN (lastI ss vs s) ∧ ((Pt.name s).of ss vs).isSome = (lastOf ss s).isSome by
      rw [Pt.of]; unfold lastI; cases lastOf ss s <;> exact ⟨rfl, rfl⟩)
    clear hT hT0 hlen
    go_enter Tryz.func124, Tryz.ntmps124
    go_wp2_with fail
    refine HT.out.mono ?_
    rintro e w1 ⟨rfl, hb1⟩
    go_wp2_with fail
    refine (HC.out _ _).mono ?_
    rintro e w2 ⟨rfl, rfl⟩
    go_wp2_with fail
    go_ret2
    exact ⟨by rw [HF.out.1, HF.out.2]; rfl, hb0.trans (hb1.mono hb0.size)⟩
  | «as» s a ia =>
    intro hf w hT
    simp only [Pt.fine, Bool.and_eq_true] at hf
    show Calls Tryz.prog 138 #[.agg #[.string s, partV a], _] w (Comes (a.of ss vs) w)
    obtain ⟨m1, n1, k1⟩ := meth_comesTo a
    have HA := Lib.hid (ia hf.2)
    rw [partV_at a]
    generalize ptT a = t1 at *
    generalize ptU a = u1 at *
    generalize fComesTo a = f1 at *
    generalize a.of ss vs = r1 at *
    have hb0 : Below w.heap.size w (w.alloc (.cells #[.string s, .iface t1 u1] 92)) := (Below.refl _ w).alloc (Nat.le_refl _) _
    have HT := Lib.hid (hT.below hb0)
    clear ia hT hf hlen
    go_enter Tryz.func138, Tryz.ntmps138
    go_wp2_with fail
    refine (HA.out _ HT.out).mono ?_
    rintro e w1 ⟨rfl, hb1⟩
    go_wp2_with fail
    go_ret2
    exact ⟨rfl, hb0.trans (hb1.mono hb0.size)⟩
  | two s a b ia ib =>
    intro hf w hT
    simp only [Pt.fine, Bool.and_eq_true] at hf
    show Calls Tryz.prog 131 #[.agg #[.string s, partV a, partV b], _] w (Comes ((Pt.two s a b).of ss vs) w)
    obtain ⟨m1, n1, k1⟩ := meth_comesTo a
    obtain ⟨m2, n2, k2⟩ := meth_comesTo b
    have HA := Lib.hid (ia hf.2.1)
    have HB := Lib.hid (ib hf.2.2)
    have HBa := Lib.hid (Pt.of_bounds ss vs a hf.2.1)
    have HBb := Lib.hid (Pt.of_bounds ss vs b hf.2.2)
    have HF := Lib.hid (show (Pt.two s a b).of ss vs = match a.of ss vs, b.of ss vs with | some x, some y => some (twoN s x y) | _, _ => none from rfl)
    rw [partV_at a, partV_at b]
    generalize (Pt.two s a b).of ss vs = R at *
    generalize ptT a = t1 at *
    generalize ptU a = u1 at *
    generalize fComesTo a = f1 at *
    generalize ptT b = t2 at *
    generalize ptU b = u2 at *
    generalize fComesTo b = f2 at *
    generalize a.of ss vs = r1 at *
    generalize b.of ss vs = r2 at *
    obtain ⟨W0, hW0⟩ : ∃ W0, W0 = w.alloc (.cells #[.string s, .iface t1 u1, .iface t2 u2] 90) := ⟨_, rfl⟩
    have hb0 : Below w.heap.size w W0 := by rw [hW0]; exact (Below.refl _ w).alloc (Nat.le_refl _) _
    have hs0 : w.heap.size < W0.heap.size := by rw [hW0]; simp
    have c0 : W0.cell? ⟨w.heap.size, 0, none⟩ = some (.string s) := by rw [hW0]; exact cell_made4 w _ _ 0 _ rfl
    have c2 : W0.cell? ⟨w.heap.size, 2, none⟩ = some (.iface t2 u2) := by rw [hW0]; exact cell_made4 w _ _ 2 _ rfl
    have HT := Lib.hid (hT.below hb0)
    clear ia ib hT hf hlen
    go_enter Tryz.func131, Tryz.ntmps131
    go_wp2_with fail
    rw [← hW0]
    clear hW0
    refine (HA.out _ HT.out).mono ?_
    rintro e w1 ⟨rfl, hb1⟩
    have d0 := (hb1.cell (p := ⟨w.heap.size, 0, none⟩) hs0).trans c0
    have d2 := (hb1.cell (p := ⟨w.heap.size, 2, none⟩) hs0).trans c2
    have HT1 := Lib.hid (HT.out.below hb1)
    clear c0 c2
    go_wp2_with fail
    refine (HB.out _ HT1.out).mono ?_
    rintro e w2 ⟨rfl, hb2'⟩
    have hb2 := hb1.trans (hb2'.mono hb1.size)
    have e0 := (hb2.cell (p := ⟨w.heap.size, 0, none⟩) hs0).trans (((hb1.cell (p := ⟨w.heap.size, 0, none⟩) hs0).symm).trans d0)
    have HX := Lib.hid (hb0.trans (hb2.mono hb0.size))
    clear d0 d2 hb2'
    rcases r1 with _ | x
    · go_wp2_with fail
      go_ret2
      exact ⟨by rw [HF.out]; rfl, HX.out⟩
    · rcases r2 with _ | y
      · go_wp2_with fail
        go_ret2
        exact ⟨by rw [HF.out]; rfl, HX.out⟩
      · have hx := HBa.out x rfl
        have hy := HBb.out y rfl
        have HR := Lib.hid (reckon_any s x y w2 hx.1 hx.2 hy.1 hy.2)
        simp only [Option.getD_some, Option.isSome_some]
        go_wp2_with fail
        refine HR.out.mono ?_
        rintro e w3 ⟨rfl, rfl⟩
        go_wp2_with fail
        go_ret2
        exact ⟨by rw [HF.out]; rfl, HX.out⟩

set_option maxHeartbeats 1000000 in
theorem lastTold_int (A A' : Option Addr) (c c' : Nat) (ss : List ByteArray) (vs : List Int) (w : World) (hN : SlIs w A (ss.map strV)) (hV : SlIs w A' (vs.map intV)) : Calls Tryz.prog 31 #[.slice A ss.length c, .slice A' vs.length c'] w fun e w' => ∃ Bn Bv, e = .returned (.func (.func 48) #[] #[.pointer (some ⟨Bn, 0, none⟩), .pointer (some ⟨Bv, 0, none⟩)]) ∧ ToldI Bn Bv A c ss A' c' vs w' ∧ Below w.heap.size w w' := by
  have hb : Below w.heap.size w ((w.alloc (.cells #[.slice A ss.length c] 25)).alloc (.cells #[.slice A' vs.length c'] 37)) := ((Below.refl _ w).alloc (Nat.le_refl _) _).alloc (by simp) _
  have HT := Lib.hid (show ToldI w.heap.size (w.heap.size + 1) A c ss A' c' vs ((w.alloc (.cells #[.slice A ss.length c] 25)).alloc (.cells #[.slice A' vs.length c'] 37)) by
    refine ⟨⟨((Boxed.new w 25 (.slice A ss.length c)).alloc _).cell, hN.below hb⟩, ?_, hV.below hb⟩
    have := Boxed.new (w.alloc (.cells #[.slice A ss.length c] 25)) 37 (.slice A' vs.length c')
    rw [World.size_alloc] at this
    exact this.cell)
  clear hN hV
  go_enter Tryz.func31, Tryz.ntmps31
  go_wp2_with fail
  go_ret
  exact ⟨_, _, rfl, HT.out, hb⟩
set_option maxRecDepth 100000 in
set_option maxHeartbeats 2000000 in
theorem exprOf_any (e : Ex) (A : Option Addr) (c B : Nat) (An Av : Option Addr) (cn cv : Nat) (ss : List ByteArray) (vs : List Int) (w : World) (hA : KidsAt w B A e.kids) (hc : e.kids.length ≤ c) (hB : B ≤ w.heap.size) (hw : e.wt ≤ 2 ^ 40)
    (hl : ss.length ≤ 2 ^ 40) (_hl2 : vs.length ≤ 2 ^ 40) (hN : SlIs w An (ss.map strV)) (hV : SlIs w Av (vs.map intV)) :
    Calls Tryz.prog 17 #[.agg #[.int .i64 e.kind, .int .i64 e.n, .string e.s, .slice A e.kids.length c], .slice An ss.length cn, .slice Av vs.length cv] w (Comes (ofE e ss vs) w) := by
  have hkl : e.kids.length ≤ 2 ^ 40 := by
    obtain ⟨k, n, s, ks⟩ := e
    have := Ex.wts_length ks
    simp only [Ex.wt, Ex.kids] at hw ⊢
    omega
  have hb0 : Below w.heap.size w (w.alloc (.cells #[.int .i64 e.kind, .int .i64 e.n, .string e.s, .slice A e.kids.length c] 31)) := (Below.refl _ w).alloc (Nat.le_refl _) _
  have HC := Lib.hid (partOf_any e A c B _ (hA.keep (hb0.mono hB)) hc (Nat.le_trans hB hb0.size) hw)
  clear hA hw
  cases hok : okE e
  · have HF := Lib.hid (show ofE e ss vs = none by unfold ofE; rw [show okP e = none from by cases h : okP e with | none => rfl | some p => rw [← okP_isSome, h] at hok; cases hok]; simp)
    unfold PartOf at HC
    rw [hok] at HC
    clear hok
    go_enter Tryz.func17, Tryz.ntmps17
    go_wp2_with fail
    refine HC.out.mono ?_
    rintro r w1 ⟨v, rfl, _, hb1⟩
    clear HC
    go_wp2_with fail
    go_ret2
    exact ⟨by rw [HF.out]; rfl, hb0.trans (hb1.mono hb0.size)⟩
  · obtain ⟨p, hp⟩ : ∃ p, okP e = some p := by
      cases h : okP e with
      | none => rw [← okP_isSome, h] at hok; cases hok
      | some p => exact ⟨p, rfl⟩
    have hfine := ok_fine (okP_some hp).2
    unfold PartOf at HC
    rw [hok] at HC
    by_cases hll : ss.length = vs.length
    · have HF := Lib.hid (show ofE e ss vs = p.of ss vs by unfold ofE; rw [if_pos hll, hp]; rfl)
      have q : ((ss.length : Int) != (vs.length : Int)) = false := by rw [hll]; simp
      have HP := Lib.hid hp
      have HL := Lib.hid hll
      have HN := Lib.hid hN
      have HV := Lib.hid hV
      clear hp hll hok hN hV
      go_enter Tryz.func17, Tryz.ntmps17
      go_wp2_with fail
      refine HC.out.mono ?_
      rintro r w1 ⟨v, rfl, hv, hb1⟩
      obtain rfl := hv p HP.out
      obtain ⟨m1, n1, k1⟩ := meth_comesTo p
      have hb2 := hb0.trans (hb1.mono hb0.size)
      have HCT := Lib.hid (fun (Bn Bv : Nat) (W : World) (h : ToldI Bn Bv An cn ss Av cv vs W) => comesTo_any hl HL.out p hfine W h)
      have HLT := Lib.hid (fun (W : World) (hW : Below w.heap.size w W) => lastTold_int An Av cn cv ss vs W (HN.out.below hW) (HV.out.below hW))
      rw [partV_at p]
      generalize p.of ss vs = R at *
      generalize ptT p = t1 at *
      generalize ptU p = u1 at *
      generalize fComesTo p = f1 at *
      clear HC hv HN HV hb1 HP hfine
      go_wp2_with fail
      go_region_held3 (fun w' => Below w1.heap.size w1 w') (first | exact (Below.refl _ w1).drew | exact hy3 | exact hy2)
        (first | (go_at_call 31; refine (HLT.out _ (hb2.trans ((Below.refl _ w1).drew.mono hb2.size))).mono ?_; rintro r w2 ⟨Bn, Bv, rfl, hT2, hx2⟩; have hy2 : Below w1.heap.size w1 w2 := (Below.refl _ w1).drew.trans hx2) | ((first | refine (HCT.out Bn Bv _ hT2).mono ?_ | refine (HCT.out Bn Bv _ (hT2.below (Below.refl _ w2).drew)).mono ?_); rintro r w3 ⟨rfl, hx3⟩; have hy3 : Below w1.heap.size w1 w3 := hy2.trans (hx3.mono hy2.size)))
      all_goals (try go_wp2_with fail)
      all_goals go_ret2
      all_goals exact ⟨by rw [HF.out]; rfl, hb2.trans (hy3.mono hb2.size)⟩
    · have HF := Lib.hid (show ofE e ss vs = none by unfold ofE; rw [if_neg hll])
      have q : ((ss.length : Int) != (vs.length : Int)) = true := by rw [bne_iff_ne]; omega
      clear hp hll hok hfine
      go_enter Tryz.func17, Tryz.ntmps17
      go_wp2_with fail
      refine HC.out.mono ?_
      rintro r w1 ⟨v, rfl, _, hb1⟩
      clear HC
      go_wp2_with fail
      go_ret2
      exact ⟨by rw [HF.out]; rfl, hb0.trans (hb1.mono hb0.size)⟩
end Go.Proofs.YtaclndbilpaboaaGreatDoor
