/-
  The contracts of the program's typeOf and comesTo, for all parts and all function values that tell of names.
-/
import Derived.Test.YtabignplhkbcpaaGreatDoorMethCut
import Derived.Test.YtabignplhkbcpaaGreatDoorSpecOf
namespace Go.Proofs.YtabignplhkbcpaaGreatDoor
open Go.RowKit

/-- A function value with one thing that it holds: while I, it tells this of each name. -/
structure Tell (FN : Nat) (cap : Value) (I : World → Prop) (out : ByteArray → Value) : Prop where
  n : ∀ args w, (callFunc FN args).run Tryz.prog w = .ok (.enter FN args) w
  keep : ∀ {w w' : World}, I w → Below w.heap.size w w' → I w'
  call : ∀ (s : ByteArray) (w : World), I w → Calls Tryz.prog FN #[.string s, cap] w fun e w' => e = .returned (out s) ∧ Below w.heap.size w w'
/-- A method of a value: while I, it tells this of each name. -/
structure TellM (FN : Nat) (cap : Value) (I : World → Prop) (out : ByteArray → Value) : Prop where
  n : ∀ args w, (callFunc FN args).run Tryz.prog w = .ok (.enter FN args) w
  keep : ∀ {w w' : World}, I w → Below w.heap.size w w' → I w'
  call : ∀ (s : ByteArray) (w : World), I w → Calls Tryz.prog FN #[cap, .string s] w fun e w' => e = .returned (out s) ∧ Below w.heap.size w w'
def tellT (ss vs : List ByteArray) (s : ByteArray) : ByteArray := match lastOf ss s with
  | some i => vs.getD i ByteArray.empty
  | none => ByteArray.empty
def tellN (ss : List ByteArray) (vs : List Int) (s : ByteArray) : Int := match lastOf ss s with
  | some i => vs.getD i 0
  | none => 0
def outT (ss vs : List ByteArray) (s : ByteArray) : Value := .tuple #[.string (tellT ss vs s), .bool (lastOf ss s).isSome]
def outN (ss : List ByteArray) (vs : List Int) (s : ByteArray) : Value := .tuple #[.int .i64 (tellN ss vs s), .bool (lastOf ss s).isSome]

set_option maxRecDepth 100000 in
set_option maxHeartbeats 2000000 in
theorem typeOfG_any {FN : Nat} {cap : Value} {I : World → Prop} {ss : List ByteArray} {vs : List ByteArray} (hI : Tell FN cap I (outT ss vs)) (p : Pt) : ∀ w : World, I w →
    Calls Tryz.prog (fTypeOf p) #[ptU p, .func (.func FN) #[] #[cap]] w (Types (p.typ ss vs) w) := by
  induction p with
  | num n =>
    intro w _
    show Calls Tryz.prog 169 #[.agg #[.int .i64 n], _] w _
    go_enter Tryz.func169, Tryz.ntmps169
    go_wp2_with fail
    go_ret
    exact ⟨rfl, (Below.refl _ w).alloc (Nat.le_refl _) _⟩
  | name s =>
    intro w hT
    show Calls Tryz.prog 175 #[.agg #[.string s], _] w _
    have hb0 : Below w.heap.size w (w.alloc (.cells #[.string s] 134)) := (Below.refl _ w).alloc (Nat.le_refl _) _
    have hT0 := hI.keep hT hb0
    have HT := Lib.hid (hI.call s _ hT0)
    unfold outT at HT
    have hn := hI.n
    have HF := Lib.hid (show (Pt.name s).typ ss vs = tellT ss vs s from rfl)
    clear hT hT0 hI
    go_enter Tryz.func175, Tryz.ntmps175
    go_wp2_with fail
    refine HT.out.mono ?_
    rintro e w1 ⟨rfl, hb1⟩
    go_wp2_with fail
    go_ret
    exact ⟨by rw [HF.out]; rfl, hb0.trans (hb1.mono hb0.size)⟩
  | «as» s a ia =>
    intro w hT
    show Calls Tryz.prog 190 #[.agg #[.string s, partV a], _] w (Types (if a.typ ss vs = ByteArray.empty then ByteArray.empty else s) w)
    obtain ⟨m1, n1, k1⟩ := meth_typeOf a
    have HA := Lib.hid ia
    rw [partV_at a]
    generalize ptT a = t1 at *
    generalize ptU a = u1 at *
    generalize fTypeOf a = f1 at *
    generalize a.typ ss vs = r1 at *
    obtain ⟨W0, hW0⟩ : ∃ W0, W0 = w.alloc (.cells #[.string s, .iface t1 u1] 139) := ⟨_, rfl⟩
    have hb0 : Below w.heap.size w W0 := by rw [hW0]; exact (Below.refl _ w).alloc (Nat.le_refl _) _
    have hs0 : w.heap.size < W0.heap.size := by rw [hW0]; simp
    have c0 : W0.cell? ⟨w.heap.size, 0, none⟩ = some (.string s) := by rw [hW0]; exact cell_made4 w _ _ 0 _ rfl
    have HT := Lib.hid (hI.keep hT hb0)
    clear ia hT
    have HG := Lib.hid (show ∀ x, (if r1 = ByteArray.empty then ByteArray.empty else s) = x → x = (if r1 = ByteArray.empty then ByteArray.empty else s) from fun _ h => h.symm)
    generalize hR : (if r1 = ByteArray.empty then ByteArray.empty else s) = R at *
    have HR := Lib.hid hR
    clear hR HG
    go_enter Tryz.func190, Tryz.ntmps190
    go_wp2_with fail
    rw [← hW0]
    clear hW0
    refine (HA.out _ HT.out).mono ?_
    rintro e w1 ⟨rfl, hb1⟩
    have d0 := (hb1.cell (p := ⟨w.heap.size, 0, none⟩) hs0).trans c0
    clear c0
    by_cases hr : r1 = ByteArray.empty
    · have HE := Lib.hid (show R = ByteArray.empty by rw [← HR.out, if_pos hr])
      subst hr
      clear HR
      go_wp2_with fail
      go_ret
      exact ⟨by rw [HE.out]; rfl, hb0.trans (hb1.mono hb0.size)⟩
    · have q : (r1.toList == []) = false := by rw [isS, decide_eq_false_iff_not]; exact hr
      have HE := Lib.hid (show R = s by rw [← HR.out, if_neg hr])
      clear hr HR
      go_wp2_with fail
      go_ret
      exact ⟨by rw [HE.out]; rfl, hb0.trans (hb1.mono hb0.size)⟩
  | two s a b ia ib =>
    intro w hT
    show Calls Tryz.prog 182 #[.agg #[.string s, partV a, partV b], _] w (Types ((Pt.two s a b).typ ss vs) w)
    obtain ⟨m1, n1, k1⟩ := meth_typeOf a
    obtain ⟨m2, n2, k2⟩ := meth_typeOf b
    have HA := Lib.hid ia
    have HB := Lib.hid ib
    have HF := Lib.hid (show (Pt.two s a b).typ ss vs = if a.typ ss vs = sInt ∧ b.typ ss vs = sInt then (if s = sLess then sBool else sInt) else ByteArray.empty from rfl)
    rw [partV_at a, partV_at b]
    generalize (Pt.two s a b).typ ss vs = R at *
    generalize ptT a = t1 at *
    generalize ptU a = u1 at *
    generalize fTypeOf a = f1 at *
    generalize ptT b = t2 at *
    generalize ptU b = u2 at *
    generalize fTypeOf b = f2 at *
    generalize a.typ ss vs = r1 at *
    generalize b.typ ss vs = r2 at *
    obtain ⟨W0, hW0⟩ : ∃ W0, W0 = w.alloc (.cells #[.string s, .iface t1 u1, .iface t2 u2] 137) := ⟨_, rfl⟩
    have hb0 : Below w.heap.size w W0 := by rw [hW0]; exact (Below.refl _ w).alloc (Nat.le_refl _) _
    have hs0 : w.heap.size < W0.heap.size := by rw [hW0]; simp
    have c0 : W0.cell? ⟨w.heap.size, 0, none⟩ = some (.string s) := by rw [hW0]; exact cell_made4 w _ _ 0 _ rfl
    have c2 : W0.cell? ⟨w.heap.size, 2, none⟩ = some (.iface t2 u2) := by rw [hW0]; exact cell_made4 w _ _ 2 _ rfl
    have HT := Lib.hid (hI.keep hT hb0)
    clear ia ib hT
    go_enter Tryz.func182, Tryz.ntmps182
    go_wp2_with fail
    rw [← hW0]
    clear hW0
    refine (HA.out _ HT.out).mono ?_
    rintro e w1 ⟨rfl, hb1⟩
    have d0 := (hb1.cell (p := ⟨w.heap.size, 0, none⟩) hs0).trans c0
    have d2 := (hb1.cell (p := ⟨w.heap.size, 2, none⟩) hs0).trans c2
    have HT1 := Lib.hid (hI.keep HT.out hb1)
    clear c2
    by_cases h1 : r1 = sInt
    · have q1 : (r1.toList == [105, 110, 116]) = true := by rw [isS, decide_eq_true_eq]; exact h1
      have HH1 := Lib.hid h1
      clear h1
      go_wp2_with fail
      refine (HB.out _ HT1.out).mono ?_
      rintro e w2 ⟨rfl, hb2'⟩
      have hb2 := hb1.trans (hb2'.mono hb1.size)
      have e0 := (hb2.cell (p := ⟨w.heap.size, 0, none⟩) hs0).trans c0
      have HX := Lib.hid (hb0.trans (hb2.mono hb0.size))
      clear d0 d2 hb2' c0
      by_cases h2 : r2 = sInt
      · have q2 : (r2.toList == [105, 110, 116]) = true := by rw [isS, decide_eq_true_eq]; exact h2
        have HH2 := Lib.hid h2
        clear h2
        by_cases h3 : s = sLess
        · have q3 : (s.toList == [60]) = true := by rw [isS, decide_eq_true_eq]; exact h3
          have HH3 := Lib.hid h3
          clear h3
          go_wp2_with fail
          go_ret
          exact ⟨by rw [HF.out, if_pos ⟨HH1.out, HH2.out⟩, if_pos HH3.out]; rfl, HX.out⟩
        · have q3 : (s.toList == [60]) = false := by rw [isS, decide_eq_false_iff_not]; exact h3
          have HH3 := Lib.hid h3
          clear h3
          go_wp2_with fail
          go_ret
          exact ⟨by rw [HF.out, if_pos ⟨HH1.out, HH2.out⟩, if_neg HH3.out]; rfl, HX.out⟩
      · have q2 : (r2.toList == [105, 110, 116]) = false := by rw [isS, decide_eq_false_iff_not]; exact h2
        have HH2 := Lib.hid h2
        clear h2
        go_wp2_with fail
        go_ret
        exact ⟨by rw [HF.out, if_neg (fun h => HH2.out h.2)]; rfl, HX.out⟩
    · have q1 : (r1.toList == [105, 110, 116]) = false := by rw [isS, decide_eq_false_iff_not]; exact h1
      have HH1 := Lib.hid h1
      clear h1
      go_wp2_with fail
      go_ret
      exact ⟨by rw [HF.out, if_neg (fun h => HH1.out h.1)]; rfl, hb0.trans (hb1.mono hb0.size)⟩
set_option maxRecDepth 100000 in
set_option maxHeartbeats 2000000 in
theorem comesToG_any {FN : Nat} {cap : Value} {I : World → Prop} {ss : List ByteArray} {vs : List Int} (hI : TellM FN cap I (outN ss vs)) (p : Pt) : p.fine = true → ∀ w : World, I w →
    Calls Tryz.prog (fComesTo p) #[ptU p, .func (.func FN) #[cap] #[]] w (Comes (p.of ss vs) w) := by
  induction p with
  | num n =>
    intro _ w _
    show Calls Tryz.prog 166 #[.agg #[.int .i64 n], _] w _
    go_enter Tryz.func166, Tryz.ntmps166
    go_wp2_with fail
    go_ret2
    exact ⟨rfl, (Below.refl _ w).alloc (Nat.le_refl _) _⟩
  | name s =>
    intro _ w hT
    show Calls Tryz.prog 172 #[.agg #[.string s], _] w _
    have hb0 : Below w.heap.size w (w.alloc (.cells #[.string s] 134)) := (Below.refl _ w).alloc (Nat.le_refl _) _
    have hT0 := hI.keep hT hb0
    have HT := Lib.hid (hI.call s _ hT0)
    unfold outN at HT
    have hn := hI.n
    have HC := Lib.hid cutNumber_any
    have HF := Lib.hid (show ((Pt.name s).of ss vs).getD 0 = cutN (tellN ss vs s) ∧ ((Pt.name s).of ss vs).isSome = (lastOf ss s).isSome by
      rw [Pt.of]; unfold tellN; cases lastOf ss s <;> exact ⟨rfl, rfl⟩)
    clear hT hT0 hI
    go_enter Tryz.func172, Tryz.ntmps172
    go_wp2_with fail
    refine HT.out.mono ?_
    rintro e w1 ⟨rfl, hb1⟩
    go_wp2_with fail
    refine (HC.out _ _).mono ?_
    rintro e w2 ⟨rfl, rfl⟩
    go_wp2_with fail
    go_ret2
    exact ⟨by rw [HF.out.1, HF.out.2]; rfl, hb0.trans (hb1.mono hb0.size)⟩
  | «as» s a ia =>
    intro hf w hT
    simp only [Pt.fine, Bool.and_eq_true] at hf
    show Calls Tryz.prog 187 #[.agg #[.string s, partV a], _] w (Comes (a.of ss vs) w)
    obtain ⟨m1, n1, k1⟩ := meth_comesTo a
    have HA := Lib.hid (ia hf.2)
    rw [partV_at a]
    generalize ptT a = t1 at *
    generalize ptU a = u1 at *
    generalize fComesTo a = f1 at *
    generalize a.of ss vs = r1 at *
    have hb0 : Below w.heap.size w (w.alloc (.cells #[.string s, .iface t1 u1] 139)) := (Below.refl _ w).alloc (Nat.le_refl _) _
    have HT := Lib.hid (hI.keep hT hb0)
    clear ia hT hf
    go_enter Tryz.func187, Tryz.ntmps187
    go_wp2_with fail
    refine (HA.out _ HT.out).mono ?_
    rintro e w1 ⟨rfl, hb1⟩
    go_wp2_with fail
    go_ret2
    exact ⟨rfl, hb0.trans (hb1.mono hb0.size)⟩
  | two s a b ia ib =>
    intro hf w hT
    simp only [Pt.fine, Bool.and_eq_true] at hf
    show Calls Tryz.prog 179 #[.agg #[.string s, partV a, partV b], _] w (Comes ((Pt.two s a b).of ss vs) w)
    obtain ⟨m1, n1, k1⟩ := meth_comesTo a
    obtain ⟨m2, n2, k2⟩ := meth_comesTo b
    have HA := Lib.hid (ia hf.2.1)
    have HB := Lib.hid (ib hf.2.2)
    have HBa := Lib.hid (Pt.of_bounds ss vs a hf.2.1)
    have HBb := Lib.hid (Pt.of_bounds ss vs b hf.2.2)
    have HF := Lib.hid (show (Pt.two s a b).of ss vs = match a.of ss vs, b.of ss vs with | some x, some y => some (twoN s x y) | _, _ => none from rfl)
    rw [partV_at a, partV_at b]
    generalize (Pt.two s a b).of ss vs = R at *
    generalize ptT a = t1 at *
    generalize ptU a = u1 at *
    generalize fComesTo a = f1 at *
    generalize ptT b = t2 at *
    generalize ptU b = u2 at *
    generalize fComesTo b = f2 at *
    generalize a.of ss vs = r1 at *
    generalize b.of ss vs = r2 at *
    obtain ⟨W0, hW0⟩ : ∃ W0, W0 = w.alloc (.cells #[.string s, .iface t1 u1, .iface t2 u2] 137) := ⟨_, rfl⟩
    have hb0 : Below w.heap.size w W0 := by rw [hW0]; exact (Below.refl _ w).alloc (Nat.le_refl _) _
    have hs0 : w.heap.size < W0.heap.size := by rw [hW0]; simp
    have c0 : W0.cell? ⟨w.heap.size, 0, none⟩ = some (.string s) := by rw [hW0]; exact cell_made4 w _ _ 0 _ rfl
    have c2 : W0.cell? ⟨w.heap.size, 2, none⟩ = some (.iface t2 u2) := by rw [hW0]; exact cell_made4 w _ _ 2 _ rfl
    have HT := Lib.hid (hI.keep hT hb0)
    clear ia ib hT hf
    go_enter Tryz.func179, Tryz.ntmps179
    go_wp2_with fail
    rw [← hW0]
    clear hW0
    refine (HA.out _ HT.out).mono ?_
    rintro e w1 ⟨rfl, hb1⟩
    have d0 := (hb1.cell (p := ⟨w.heap.size, 0, none⟩) hs0).trans c0
    have d2 := (hb1.cell (p := ⟨w.heap.size, 2, none⟩) hs0).trans c2
    have HT1 := Lib.hid (hI.keep HT.out hb1)
    clear c0 c2
    go_wp2_with fail
    refine (HB.out _ HT1.out).mono ?_
    rintro e w2 ⟨rfl, hb2'⟩
    have hb2 := hb1.trans (hb2'.mono hb1.size)
    have e0 := (hb2.cell (p := ⟨w.heap.size, 0, none⟩) hs0).trans (((hb1.cell (p := ⟨w.heap.size, 0, none⟩) hs0).symm).trans d0)
    have HX := Lib.hid (hb0.trans (hb2.mono hb0.size))
    clear d0 d2 hb2'
    rcases r1 with _ | x
    · go_wp2_with fail
      go_ret2
      exact ⟨by rw [HF.out]; rfl, HX.out⟩
    · rcases r2 with _ | y
      · go_wp2_with fail
        go_ret2
        exact ⟨by rw [HF.out]; rfl, HX.out⟩
      · have hx := HBa.out x rfl
        have hy := HBb.out y rfl
        have HR := Lib.hid (reckon_any s x y w2 hx.1 hx.2 hy.1 hy.2)
        simp only [Option.getD_some, Option.isSome_some]
        go_wp2_with fail
        refine HR.out.mono ?_
        rintro e w3 ⟨rfl, rfl⟩
        go_wp2_with fail
        go_ret2
        exact ⟨by rw [HF.out]; rfl, HX.out⟩
end Go.Proofs.YtabignplhkbcpaaGreatDoor
