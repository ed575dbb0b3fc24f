/-
  MapJoin, both sides, for all two lists.
-/
import Derived.Test.YtdkliboehdohdaaMapBackJ
namespace Go.Proofs.Ytdkliboehdohdaa
open Go.RowKit

/-- Whence this one came, through the second list. -/
def joinB (ys : List Sg) (x : Sg) : Bool := (lookG ys x.2.2.1 x.2.2.2).isSome
def joinV (ys : List Sg) (x : Sg) : Sg := match lookG ys x.2.2.1 x.2.2.2 with
  | some y => (x.1, x.2.1, y.2.2.1, y.2.2.2)
  | none => (x.1, x.2.1, 0, 0)
def joinL (xs ys : List Sg) : List Sg := if (segsOk xs && segsOk ys) = true then told (joinB ys) (joinV ys) xs else []
theorem joinL_no1 {xs ys : List Sg} (h : segsOk xs = false) : joinL xs ys = [] := by simp [joinL, h]
theorem joinL_no2 {xs ys : List Sg} (h : segsOk ys = false) : joinL xs ys = [] := by simp [joinL, h]
theorem joinL_ok {xs ys : List Sg} (h : segsOk xs = true) (h2 : segsOk ys = true) : joinL xs ys = told (joinB ys) (joinV ys) xs := by simp [joinL, h, h2]
theorem joinL_len (xs ys : List Sg) : (joinL xs ys).length ≤ xs.length := by
  unfold joinL
  split
  · exact told_len _ _ _
  · simp
/-- What is looked up is told so. -/
theorem lookV_join (ys : List Sg) (a b l c : Int) : lookV (lookG ys l c) = .tuple #[.agg #[.int .i64 (joinV ys (a, b, l, c)).2.2.1, .int .i64 (joinV ys (a, b, l, c)).2.2.2], .bool (joinB ys (a, b, l, c))] ∧ (joinV ys (a, b, l, c)).1 = a ∧ (joinV ys (a, b, l, c)).2.1 = b := by
  unfold joinV joinB
  simp only
  cases lookG ys l c with
  | none => exact ⟨rfl, rfl, rfl⟩
  | some y => exact ⟨rfl, rfl, rfl⟩

theorem put4 {w : World} {g B : Nat} {x y z t : Value} {ty : TypeId} (h : BlkG w g #[x, y, z, t] ty) (u0 u1 u2 u3 : Value) (hB : B ≤ g) :
    ((((w.setCell ⟨g, 0, none⟩ u0).setCell ⟨g, 1, none⟩ u1).setCell ⟨g, 2, none⟩ u2).setCell ⟨g, 3, none⟩ u3).cell? ⟨g, 0, none⟩ = some u0 ∧ ((((w.setCell ⟨g, 0, none⟩ u0).setCell ⟨g, 1, none⟩ u1).setCell ⟨g, 2, none⟩ u2).setCell ⟨g, 3, none⟩ u3).cell? ⟨g, 1, none⟩ = some u1 ∧ ((((w.setCell ⟨g, 0, none⟩ u0).setCell ⟨g, 1, none⟩ u1).setCell ⟨g, 2, none⟩ u2).setCell ⟨g, 3, none⟩ u3).cell? ⟨g, 2, none⟩ = some u2 ∧ ((((w.setCell ⟨g, 0, none⟩ u0).setCell ⟨g, 1, none⟩ u1).setCell ⟨g, 2, none⟩ u2).setCell ⟨g, 3, none⟩ u3).cell? ⟨g, 3, none⟩ = some u3 ∧ Below B w ((((w.setCell ⟨g, 0, none⟩ u0).setCell ⟨g, 1, none⟩ u1).setCell ⟨g, 2, none⟩ u2).setCell ⟨g, 3, none⟩ u3) := by
  have h1 := (((h.set 0 u0).set 1 u1).set 2 u2).set 3 u3
  exact ⟨h1.cell 0, h1.cell 1, h1.cell 2, h1.cell 3, ((((Below.refl B w).setCell (p := ⟨g, 0, none⟩) hB _).setCell (p := ⟨g, 1, none⟩) hB _).setCell (p := ⟨g, 2, none⟩) hB _).setCell (p := ⟨g, 3, none⟩) hB _⟩

set_option maxRecDepth 100000 in
set_option maxHeartbeats 2000000 in
theorem join1_any (x : Sg) (B : Option Addr) (d : Nat) (ys : List Sg) (gb : Nat) (w : World) (hok : segsOk ys = true) (hB : SlIs w B (rowG ys)) (p0 : w.cell? ⟨gb, 0, none⟩ = some (.slice B ys.length d)) :
    Calls Try.prog 40 #[sgV x, .pointer (some ⟨gb, 0, none⟩)] w fun e w' => e = .returned (.tuple #[sgV (joinV ys x), .bool (joinB ys x)]) ∧ Below w.heap.size w w' := by
  obtain ⟨x1, x2, x3, x4⟩ := x
  obtain ⟨hlv, hj1, hj2⟩ := lookV_join ys x1 x2 x3 x4
  generalize hJV : joinV ys (x1, x2, x3, x4) = jv at *
  generalize joinB ys (x1, x2, x3, x4) = jb at *
  obtain ⟨j1, j2, j3, j4⟩ := jv
  simp only at hj1 hj2 hlv
  subst hj1 hj2
  unfold sgV
  simp only
  obtain ⟨W0, hW0⟩ : ∃ W0, W0 = (w.alloc (.cells #[.int .i64 j1, .int .i64 j2, .int .i64 x3, .int .i64 x4] 46)).alloc (.cells #[.int .i64 0, .int .i64 0, .int .i64 0, .int .i64 0] 46) := ⟨_, rfl⟩
  have hb0 : Below w.heap.size w W0 := by rw [hW0]; exact ((Below.refl _ w).alloc (Nat.le_refl _) _).alloc (by simp) _
  have BX : BlkG W0 w.heap.size #[.int .i64 j1, .int .i64 j2, .int .i64 x3, .int .i64 x4] 46 := by
    rw [hW0]
    exact (blkG_new w _ _).stay (Below.heap_alloc _ _ _ (by simp))
  have BO : BlkG W0 (w.heap.size + 1) #[.int .i64 0, .int .i64 0, .int .i64 0, .int .i64 0] 46 := by
    have := blkG_new (w.alloc (.cells #[.int .i64 j1, .int .i64 j2, .int .i64 x3, .int .i64 x4] 46)) #[.int .i64 0, .int .i64 0, .int .i64 0, .int .i64 0] 46
    rw [World.size_alloc] at this
    rw [hW0]
    exact this
  have c2 := BX.cell 2
  have c3 := BX.cell 3
  simp only [List.getElem?_toArray, List.getElem?_cons_zero, List.getElem?_cons_succ] at c2 c3
  have q0 := (hb0.cell (p := ⟨gb, 0, none⟩) (cell_ltG p0)).trans p0
  have HWH := Lib.hid (whence_any B d ys x3 x4 W0 hok (hB.below hb0))
  rw [hlv] at HWH
  have HBX := Lib.hid BX
  have HBO := Lib.hid BO
  clear BX BO p0 hB hlv hJV hok
  rw [hW0] at c2 c3 q0
  go_enter Try.func40, Try.ntmps40
  go_wp2_with fail
  rw [← hW0]
  clear hW0
  refine HWH.out.mono ?_
  rintro e w1 ⟨rfl, hb1'⟩
  have hb1 := hb0.trans (hb1'.mono hb0.size)
  obtain ⟨W1, hW1⟩ : ∃ W1, W1 = w1.alloc (.cells #[.int .i64 j3, .int .i64 j4] 31) := ⟨_, rfl⟩
  have hb2' : Below w1.heap.size w1 W1 := by rw [hW1]; exact (Below.refl _ w1).alloc (Nat.le_refl _) _
  have hb2 := hb1.trans (hb2'.mono hb1.size)
  have BX1 := (HBX.out.stay (hb1'.block _ HBX.out.lt))
  have BO1 := (HBO.out.stay (hb1'.block _ HBO.out.lt))
  have BX2 := BX1.stay (hb2'.block _ BX1.lt)
  have BO2 := BO1.stay (hb2'.block _ BO1.lt)
  have HBO2 := Lib.hid BO2
  have e0 := BX2.cell 0
  have e1 := BX2.cell 1
  have s0 := BO2.cell 0
  have s1 := BO2.cell 1
  have s2 := BO2.cell 2
  have s3 := BO2.cell 3
  have f0 := BO2.frozen 0
  have f1 := BO2.frozen 1
  have f2 := BO2.frozen 2
  have f3 := BO2.frozen 3
  have n0 : W1.cell? ⟨w1.heap.size, 0, none⟩ = some (.int .i64 j3) := by rw [hW1]; exact cell_new1 w1 _ _ 0 _ rfl
  have n1 : W1.cell? ⟨w1.heap.size, 1, none⟩ = some (.int .i64 j4) := by rw [hW1]; exact cell_new1 w1 _ _ 1 _ rfl
  simp only [List.getElem?_toArray, List.getElem?_cons_zero, List.getElem?_cons_succ] at e0 e1 s0 s1 s2 s3
  rw [hW1] at e0 e1 s0 s1 s2 s3 f0 f1 f2 f3 n0 n1
  clear BX1 BO1 BX2 BO2 c2 c3 q0
  go_wp2_with fail
  have P4 := put4 HBO2.out (.int .i64 j1) (.int .i64 j2) (.int .i64 j3) (.int .i64 j4) (B := w.heap.size) (Nat.le_succ _)
  rw [hW1] at P4
  rw [hW1] at hb2
  exact bodyPost_ret (v := .tuple #[.agg #[.int .i64 j1, .int .i64 j2, .int .i64 j3, .int .i64 j4], .bool jb]) (by simp [results, Try.results40, go_sem, P4.1, P4.2.1, P4.2.2.1, P4.2.2.2.1]) rfl ⟨rfl, hb2.trans P4.2.2.2.2⟩
set_option maxRecDepth 100000 in
set_option maxHeartbeats 2000000 in
theorem mapJoin_any (A B : Option Addr) (c d : Nat) (xs ys : List Sg) (w : World) (hl : xs.length ≤ 2 ^ 40) (hl2 : ys.length ≤ 2 ^ 40) (hA : SlIs w A (rowG xs)) (hB : SlIs w B (rowG ys)) :
    Calls Try.prog 23 #[.slice A xs.length c, .slice B ys.length d] w (GivesG (joinL xs ys) w) := by
  obtain ⟨W0, hW0⟩ : ∃ W0, W0 = w.alloc (.cells #[.slice B ys.length d] 25) := ⟨_, rfl⟩
  have hb0 : Below w.heap.size w W0 := by rw [hW0]; exact (Below.refl _ w).alloc (Nat.le_refl _) _
  have HP := Lib.hid (show BlkG W0 w.heap.size #[.slice B ys.length d] 25 by rw [hW0]; exact blkG_new w _ _)
  have HA0 := Lib.hid (hA.below hb0)
  have HB0 := Lib.hid (hB.below hb0)
  have HS := Lib.hid (segsOkI_any A c xs W0 hl HA0.out)
  clear hA hB
  go_enter Try.func23, Try.ntmps23
  go_wp2_with fail
  rw [← hW0]
  clear hW0
  refine HS.out.mono ?_
  rintro e w1 ⟨rfl, hb1'⟩
  have hb1 := hb0.trans (hb1'.mono hb0.size)
  cases hok : segsOk xs
  · have HE := Lib.hid (joinL_no1 (ys := ys) hok)
    clear hok
    go_wp2_with fail
    go_ret
    exact ⟨_, rfl, by rw [HE.out]; exact owns_nil _ _ _ _, hb1⟩
  · have HS2 := Lib.hid (segsOkI_any B d ys w1 hl2 (HB0.out.below hb1'))
    have HP1 := Lib.hid (HP.out.stay (hb1'.block _ HP.out.lt))
    have p0 := HP1.out.cell 0
    simp only [List.getElem?_toArray, List.getElem?_cons_zero] at p0
    have hlen := segsOk_len hok
    have hok1 := Lib.hid hok
    clear hok
    go_wp2_with fail
    refine HS2.out.mono ?_
    rintro e w2 ⟨rfl, hb2'⟩
    have hb2 := hb1.trans (hb2'.mono hb1.size)
    cases hok2 : segsOk ys
    · have HE := Lib.hid (joinL_no2 (xs := xs) hok2)
      clear hok2
      go_wp2_with fail
      go_ret
      exact ⟨_, rfl, by rw [HE.out]; exact owns_nil _ _ _ _, hb2⟩
    · have HE := Lib.hid (joinL_ok hok1.out hok2)
      have HP2 := Lib.hid (HP1.out.stay (hb2'.block _ HP1.out.lt))
      have HFN : ∀ args w, (callFunc 40 args).run Try.prog w = .ok (.enter 40 args) w := fun args w => by kernel_rfl
      have HT := Lib.hid (toldG_any (FN := 40) (c1 := .pointer (some ⟨w.heap.size, 0, none⟩)) A c xs (joinB ys) (joinV ys) w2 HFN (by omega) (HA0.out.below (hb1'.trans (hb2'.mono hb1'.size))) fun x w' hb =>
        join1_any x B d ys w.heap.size w' hok2 ((HB0.out.below (hb1'.trans (hb2'.mono hb1'.size))).below hb) ((hb.cell (p := ⟨w.heap.size, 0, none⟩) HP2.out.lt).trans (HP2.out.cell 0)))
      clear hok2 HFN
      go_wp2_with fail
      refine HT.out.mono ?_
      rintro e w3 ⟨v, rfl, hv, hb3'⟩
      have HV := Lib.hid (hv.mono hb2.size)
      have hb3 := hb2.trans (hb3'.mono hb2.size)
      clear hv
      go_wp2_with fail
      go_ret
      exact ⟨_, rfl, by rw [HE.out]; exact HV.out, hb3⟩
theorem owns_ne {W : World} {B sz n : Nat} {t : TypeId} {v : Value} {xs : List Value} (h : W.ownsRow B t sz v n xs) {i : Nat} (hi : i < B ∨ W.heap.size ≤ i) : v.ownBlock ≠ some i := by
  rcases h.2 with ⟨rfl, _⟩ | ⟨g, cap, cur, rfl, hb, hg, _⟩
  · simp [Value.ownBlock]
  · simp only [Value.ownBlock]
    have := (Array.getElem?_eq_some_iff.1 hg).1
    intro e
    injection e with e
    omega
theorem grow_cell {X Z : World} {v : Value} {g i : Nat} {u : Value} (hg : X.grownBy Z v.ownBlock) (hne : v.ownBlock ≠ some g) (h : X.cell? ⟨g, i, none⟩ = some u) : Z.cell? ⟨g, i, none⟩ = some u :=
  (World.cell?_of_block (a := ⟨g, i, none⟩) (hg.block g (cell_ltG h) (fun e => hne e.symm))).trans h
theorem wp_namedG {ops : Array Oper} {o : Oper} {a : Act} {Y : World} {K : Act → World → Prop} {Q : Exit → Act → World → Prop} {E : Prop}
    (h : ∀ Z, Z = Y → if Region.wanted o (yielded ops a.tmps) = true then Oper.wp Try.prog o a Z K Q else E) : if Region.wanted o (yielded ops a.tmps) = true then Oper.wp Try.prog o a Y K Q else E := h Y rfl
set_option maxRecDepth 100000 in
set_option maxHeartbeats 2000000 in
theorem specMapJoin_any (A B : Option Addr) (c d : Nat) (xs ys : List Sg) (w : World) (hl : xs.length ≤ 2 ^ 40) (hl2 : ys.length ≤ 2 ^ 40) (hA : SlIs w A (rowG xs)) (hB : SlIs w B (rowG ys)) :
    Calls Try.prog 22 #[.slice A xs.length c, .slice B ys.length d] w (GivesG (joinL xs ys) w) := by
  obtain ⟨W0, hW0⟩ : ∃ W0, W0 = w.alloc (.cells #[] 46) := ⟨_, rfl⟩
  have hb0 : Below w.heap.size w W0 := by rw [hW0]; exact (Below.refl _ w).alloc (Nat.le_refl _) _
  have HM := Lib.hid (show W0.ownsRow w.heap.size 46 4 (.slice (some ⟨w.heap.size, 0, none⟩) 0 0) 0 [] by rw [hW0]; exact owns_made w _ 4)
  have HA := Lib.hid hA
  have HB := Lib.hid hB
  have HS := Lib.hid (specSegsOk_any A c xs W0 hl (hA.below hb0))
  clear hA hB
  go_enter Try.func22, Try.ntmps22
  go_wp2_with fail
  rw [← hW0]
  clear hW0
  refine HS.out.mono ?_
  rintro e w1 ⟨rfl, hb1'⟩
  have hb1 := hb0.trans (hb1'.mono hb0.size)
  have HM1 := Lib.hid (own_below HM.out hb1')
  cases hok : segsOk xs
  · have HE := Lib.hid (joinL_no1 (ys := ys) hok)
    clear hok
    go_wp2_with fail
    go_ret
    exact ⟨_, rfl, by rw [HE.out]; exact HM1.out, hb1⟩
  · have HS2 := Lib.hid (specSegsOk_any B d ys w1 hl2 (HB.out.below hb1))
    have hlen := segsOk_len hok
    have hok1 := Lib.hid hok
    clear hok
    go_wp2_with fail
    refine HS2.out.mono ?_
    rintro e w2 ⟨rfl, hb2'⟩
    have hb2 := hb1.trans (hb2'.mono hb1.size)
    have HM2 := Lib.hid (own_below HM1.out hb2')
    cases hok2 : segsOk ys
    · have HE := Lib.hid (joinL_no2 (xs := xs) hok2)
      clear hok2
      go_wp2_with fail
      go_ret
      exact ⟨_, rfl, by rw [HE.out]; exact HM2.out, hb2⟩
    · have HE := Lib.hid (joinL_ok hok1.out hok2)
      have HLK := Lib.hid (fun l cc W h => l9Look_any B d ys l cc W hl2 (HB.out.below h))
      clear hok2 HS HS2 hok1
      go_wp2_with fail
      go_loopw [5, 6, 7, 8] (fun s i _ _ wr => ∃ (k : Nat) (v : Value), k ≤ xs.length ∧ i = .int .i64 k ∧ v = s ∧ Hid (wr.ownsRow w.heap.size 46 4 v (told (joinB ys) (joinV ys) (xs.take k)).length (rowG (told (joinB ys) (joinV ys) (xs.take k)))) ∧ Below w.heap.size w wr) (fun _ i _ _ _ => xs.length - (intOf i).toNat)
      case atStart => exact ⟨0, _, Nat.zero_le _, rfl, rfl, Lib.hid HM2.out, hb2⟩
      case round =>
        obtain ⟨k, v, hk, rfl, rfl, HO, hbw⟩ := hrel
        have hz := hbw.size
        by_cases hlt : k < xs.length
        · have hx : (k : Int) < (xs.length : Int) := by omega
          obtain ⟨g, off, rfl, hgw, h0, h1, h2, h3⟩ := getG_pos hlt HA.out
          have hg := Nat.lt_of_lt_of_le hgw hz
          replace h0 := (hbw.cell (p := ⟨g, off + k * 4, none⟩) hgw).trans h0
          replace h1 := (hbw.cell (p := ⟨g, off + k * 4 + 1, none⟩) hgw).trans h1
          replace h2 := (hbw.cell (p := ⟨g, off + k * 4 + 2, none⟩) hgw).trans h2
          replace h3 := (hbw.cell (p := ⟨g, off + k * 4 + 3, none⟩) hgw).trans h3
          have hlm := told_len_take (joinB ys) (joinV ys) xs k
          have hY := told_yes (tst := joinB ys) (val := joinV ys) hlt
          have hN := told_no (tst := joinB ys) (val := joinV ys) hlt
          generalize getG xs k = t at *
          obtain ⟨t1, t2, t3, t4⟩ := t
          simp only at h0 h1 h2 h3
          have HL := Lib.hid (HLK.out t3 t4 wr hbw)
          obtain ⟨hlv, hj1, hj2⟩ := lookV_join ys t1 t2 t3 t4
          rw [hlv] at HL
          generalize joinV ys (t1, t2, t3, t4) = jv at *
          obtain ⟨j1, j2, j3, j4⟩ := jv
          simp only at hj1 hj2 HL
          subst hj1 hj2
          cases hq : joinB ys (j1, j2, t3, t4)
          · have HN2 := Lib.hid (hN hq)
            rw [hq] at HL
            clear hq hY hN hlv
            go_wp2_with fail
            refine HL.out.mono ?_
            rintro e w3 ⟨rfl, hb3'⟩
            have hb3 := hbw.trans (hb3'.mono hbw.size)
            have HO3 := Lib.hid (own_below (own_below HO.out hb3') ((Below.refl _ w3).alloc (Nat.le_refl _) (.cells #[.int .i64 j3, .int .i64 j4] 31)))
            clear HO
            go_wp2_with fail
            go_roundw
            case rel => exact ⟨k + 1, v, by omega, by go_num, rfl, Lib.hid (by rw [HN2.out]; exact HO3.out), hb3.alloc hb3.size _⟩
            case measure => simp [intOf]; omega
          · have HY2 := Lib.hid (hY hq)
            rw [hq] at HL
            clear hq hY hN hlv
            go_wp2_with fail
            refine HL.out.mono ?_
            rintro e w3 ⟨rfl, hb3'⟩
            have hb3 := hbw.trans (hb3'.mono hbw.size)
            obtain ⟨V, hV⟩ : ∃ V, V = w3.alloc (.cells #[.int .i64 j3, .int .i64 j4] 31) := ⟨_, rfl⟩
            have hb4' : Below w3.heap.size w3 V := by rw [hV]; exact (Below.refl _ w3).alloc (Nat.le_refl _) _
            have hb4 := hb3.trans (hb4'.mono hb3.size)
            have hne1 := owns_ne (own_below HO.out hb3') (i := g) (.inl hgw)
            have hne2 := owns_ne (own_below HO.out hb3') (i := w3.heap.size) (.inr (Nat.le_refl _))
            have HO4 := Lib.hid (own_below (own_below HO.out hb3') hb4')
            have d0 := (hb4'.cell (p := ⟨g, off + k * 4, none⟩) (Nat.lt_of_lt_of_le hg hb3'.size)).trans ((hb3'.cell (p := ⟨g, off + k * 4, none⟩) hg).trans h0)
            have d1 := (hb4'.cell (p := ⟨g, off + k * 4 + 1, none⟩) (Nat.lt_of_lt_of_le hg hb3'.size)).trans ((hb3'.cell (p := ⟨g, off + k * 4 + 1, none⟩) hg).trans h1)
            have hgV := Nat.lt_of_lt_of_le hg (Nat.le_trans hb3'.size hb4'.size)
            have n0 : V.cell? ⟨w3.heap.size, 0, none⟩ = some (.int .i64 j3) := by rw [hV]; exact cell_new1 w3 _ _ 0 _ rfl
            have n1 : V.cell? ⟨w3.heap.size, 1, none⟩ = some (.int .i64 j4) := by rw [hV]; exact cell_new1 w3 _ _ 1 _ rfl
            have hnV : w3.heap.size < V.heap.size := cell_ltG n0
            clear HO h0 h1 h2 h3
            go_wp2_with fail
            rw [← hV]
            clear hV
            have HV := Lib.hid hb4
            have K1 := Lib.hid (fun (W : World) (h : Below V.heap.size V W) => show W.cell? ⟨g, off + k * 4, none⟩ = some (.int .i64 j1) ∧ W.cell? ⟨g, off + k * 4 + 1, none⟩ = some (.int .i64 j2) ∧ W.cell? ⟨w3.heap.size, 0, none⟩ = some (.int .i64 j3) ∧ W.cell? ⟨w3.heap.size, 1, none⟩ = some (.int .i64 j4) from
              ⟨(h.cell (p := ⟨g, off + k * 4, none⟩) hgV).trans d0, (h.cell (p := ⟨g, off + k * 4 + 1, none⟩) hgV).trans d1, (h.cell (p := ⟨w3.heap.size, 0, none⟩) hnV).trans n0, (h.cell (p := ⟨w3.heap.size, 1, none⟩) hnV).trans n1⟩)
            go_region_held3 (fun W => W.cell? ⟨g, off + k * 4, none⟩ = some (.int .i64 j1) ∧ W.cell? ⟨g, off + k * 4 + 1, none⟩ = some (.int .i64 j2) ∧ W.cell? ⟨w3.heap.size, 0, none⟩ = some (.int .i64 j3) ∧ W.cell? ⟨w3.heap.size, 1, none⟩ = some (.int .i64 j4))
              (first | exact K1.out _ (Below.refl _ V).drew | exact K1.out _ ((Below.refl _ V).alloc (Nat.le_refl _) _).drew | exact K1.out _ ((Below.refl _ V).alloc (Nat.le_refl _) _) | exact SZ)
              (first | (refine wp_namedG ?_; intro Y hY; have hXY : Below V.heap.size V Y := (by rw [hY]; exact ((Below.refl _ V).alloc (Nat.le_refl _) _).drew); have m0 : Y.cell? ⟨V.heap.size, 0, none⟩ = some (.int .i64 j1) := (by rw [hY]; exact cell_new1 V _ _ 0 _ rfl); have m1 : Y.cell? ⟨V.heap.size, 1, none⟩ = some (.int .i64 j2) := (by rw [hY]; exact cell_new1 V _ _ 1 _ rfl); have m2 : Y.cell? ⟨V.heap.size, 2, none⟩ = some (.int .i64 j3) := (by rw [hY]; exact cell_new1 V _ _ 2 _ rfl); have m3 : Y.cell? ⟨V.heap.size, 3, none⟩ = some (.int .i64 j4) := (by rw [hY]; exact cell_new1 V _ _ 3 _ rfl); have hbY := HV.out.trans (hXY.mono HV.out.size); have HOY := Lib.hid (own_below HO4.out hXY); clear hY; refine step_appG rfl (.tmp 36) (.tmp 44) rfl w.heap.size v _ _ (by simp [Act.eval]) HOY.out V.heap.size (j1, j2, j3, j4) (by simp [Act.eval]) m0 m1 m2 m3 (by omega) hbY.size ?_; intro v' Z r1 g1 o1; have HR1 := Lib.hid r1; have hbZ := grow_below hbY hbY.size HOY.out g1; have k1 := K1.out _ hXY; have SZ := And.intro (grow_cell g1 hne1 k1.1) (And.intro (grow_cell g1 hne1 k1.2.1) (And.intro (grow_cell g1 hne2 k1.2.2.1) (grow_cell g1 hne2 k1.2.2.2))); clear r1 g1 o1 k1))
            go_wp2_with fail
            go_roundw
            case rel => exact ⟨k + 1, v', by omega, by go_num, rfl, Lib.hid (by rw [HY2.out, List.length_append]; exact HR1.out), hbZ⟩
            case measure => simp [intOf]; omega
        · obtain rfl : xs.length = k := by omega
          have h2 := HO.out
          rw [List.take_length] at h2
          have HO2 := Lib.hid h2
          clear h2 HO HLK
          go_wp2_with fail
          go_ret
          exact ⟨_, rfl, by rw [HE.out]; exact HO2.out, hbw⟩
end Go.Proofs.Ytdkliboehdohdaa
