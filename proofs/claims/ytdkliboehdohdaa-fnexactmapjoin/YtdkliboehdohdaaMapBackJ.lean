/-
  MapBack and MapJoin, both sides, for all lists and places.
-/
import Derived.Test.YtdkliboehdohdaaMapTold
namespace Go.Proofs.Ytdkliboehdohdaa
open Go.RowKit

/-- What is told: memory of its own. -/
def GivesQ (qs : List Ps) (w : World) (e : Ending) (w' : World) : Prop := ∃ v, e = .returned v ∧ w'.ownsRow w.heap.size 31 2 v qs.length (rowQ qs) ∧ Below w.heap.size w w'
def GivesG (xs : List Sg) (w : World) (e : Ending) (w' : World) : Prop := ∃ v, e = .returned v ∧ w'.ownsRow w.heap.size 46 4 v xs.length (rowG xs) ∧ Below w.heap.size w w'

set_option maxRecDepth 100000 in
set_option maxHeartbeats 2000000 in
theorem mapBack_any (A : Option Addr) (c : Nat) (xs : List Sg) (l cc : Int) (w : World) (hl : xs.length ≤ 2 ^ 40) (hA : SlIs w A (rowG xs)) :
    Calls Try.prog 17 #[.slice A xs.length c, .agg #[.int .i64 l, .int .i64 cc]] w (GivesQ (backL xs l cc) w) := by
  obtain ⟨W0, hW0⟩ : ∃ W0, W0 = w.alloc (.cells #[.int .i64 l, .int .i64 cc] 31) := ⟨_, rfl⟩
  have hb0 : Below w.heap.size w W0 := by rw [hW0]; exact (Below.refl _ w).alloc (Nat.le_refl _) _
  have HP := Lib.hid (show BlkG W0 w.heap.size #[.int .i64 l, .int .i64 cc] 31 by rw [hW0]; exact blkG_new w _ _)
  have HA0 := Lib.hid (hA.below hb0)
  have HS := Lib.hid (segsOkI_any A c xs W0 hl HA0.out)
  clear hA
  go_enter Try.func17, Try.ntmps17
  go_wp2_with fail
  rw [← hW0]
  clear hW0
  refine HS.out.mono ?_
  rintro e w1 ⟨rfl, hb1'⟩
  have hb1 := hb0.trans (hb1'.mono hb0.size)
  cases hok : segsOk xs
  · have HE := Lib.hid (backL_no (l := l) (c := cc) hok)
    clear hok
    go_wp2_with fail
    go_ret
    exact ⟨_, rfl, by rw [HE.out]; exact owns_nil _ _ _ _, hb1⟩
  · have HE := Lib.hid (backL_ok (l := l) (c := cc) hok)
    have hlen := segsOk_len hok
    have HP1 := Lib.hid (HP.out.stay (hb1'.block _ HP.out.lt))
    have HFN : ∀ args w, (callFunc 38 args).run Try.prog w = .ok (.enter 38 args) w := fun args w => by kernel_rfl
    have HT := Lib.hid (toldQ_any (FN := 38) (c1 := .pointer (some ⟨w.heap.size, 0, none⟩)) A c xs (fromB l cc) toB w1 HFN (by omega) (HA0.out.below hb1') fun x w' hb =>
      back1_any x l cc w.heap.size w' (Nat.lt_of_lt_of_le HP1.out.lt hb.size) ((hb.cell (p := ⟨w.heap.size, 0, none⟩) HP1.out.lt).trans (HP1.out.cell 0)) ((hb.cell (p := ⟨w.heap.size, 1, none⟩) HP1.out.lt).trans (HP1.out.cell 1)))
    clear hok HFN
    go_wp2_with fail
    refine HT.out.mono ?_
    rintro e w2 ⟨v, rfl, hv, hb2'⟩
    have HV := Lib.hid (hv.mono hb1.size)
    have hb2 := hb1.trans (hb2'.mono hb1.size)
    clear hv
    go_wp2_with fail
    go_ret
    exact ⟨_, rfl, by rw [HE.out]; exact HV.out, hb2⟩
set_option maxRecDepth 100000 in
set_option maxHeartbeats 2000000 in
theorem specMapBack_any (A : Option Addr) (c : Nat) (xs : List Sg) (l cc : Int) (w : World) (hl : xs.length ≤ 2 ^ 40) (hA : SlIs w A (rowG xs)) :
    Calls Try.prog 16 #[.slice A xs.length c, .agg #[.int .i64 l, .int .i64 cc]] w (GivesQ (backL xs l cc) w) := by
  have hEQ := eqlPos
  have hGD := guardPos
  obtain ⟨W0, hW0⟩ : ∃ W0, W0 = (w.alloc (.cells #[.int .i64 l, .int .i64 cc] 31)).alloc (.cells #[] 31) := ⟨_, rfl⟩
  have hb0 : Below w.heap.size w W0 := by rw [hW0]; exact ((Below.refl _ w).alloc (Nat.le_refl _) _).alloc (by simp) _
  have HP := Lib.hid (show BlkG W0 w.heap.size #[.int .i64 l, .int .i64 cc] 31 by rw [hW0]; exact (blkG_new w _ _).stay (Below.heap_alloc _ _ _ (by simp)))
  have HM := Lib.hid (show W0.ownsRow (w.heap.size + 1) 31 2 (.slice (some ⟨w.heap.size + 1, 0, none⟩) 0 0) 0 [] by
    have := owns_made (w.alloc (.cells #[.int .i64 l, .int .i64 cc] 31)) 31 2
    rw [World.size_alloc] at this
    rw [hW0]; exact this)
  have HA0 := Lib.hid (hA.below hb0)
  have hs0 : w.heap.size + 1 ≤ W0.heap.size := by rw [hW0]; simp
  have HA := Lib.hid hA
  clear hA HA0
  go_enter Try.func16, Try.ntmps16
  go_wp2_with fail
  rw [← hW0]
  clear hW0
  go_loopw [5, 6] (fun s i wr => ∃ (k : Nat) (v : Value), k ≤ xs.length ∧ i = .int .i64 k ∧ v = s ∧ Hid (0 < k → segsOk xs = true) ∧ Hid (wr.ownsRow (w.heap.size + 1) 31 2 v (told (fromB l cc) toB (xs.take k)).length (rowQ (told (fromB l cc) toB (xs.take k)))) ∧ Below (w.heap.size + 1) W0 wr) (fun _ i _ => xs.length - (intOf i).toNat)
  case atStart => exact ⟨0, _, Nat.zero_le _, rfl, rfl, Lib.hid (fun h => absurd h (by decide)), Lib.hid HM.out, Below.refl _ _⟩
  case round =>
    obtain ⟨k, v, hk, rfl, rfl, HOK, HO, hbw⟩ := hrel
    have hz := hbw.size
    have hbw0 : Below w.heap.size w wr := hb0.trans (hbw.mono (Nat.le_succ _))
    have r0 := (hbw.cell (p := ⟨w.heap.size, 0, none⟩) (Nat.lt_succ_self _)).trans (HP.out.cell 0)
    have r1 := (hbw.cell (p := ⟨w.heap.size, 1, none⟩) (Nat.lt_succ_self _)).trans (HP.out.cell 1)
    simp only [List.getElem?_toArray, List.getElem?_cons_zero, List.getElem?_cons_succ] at r0 r1
    by_cases hlt : k < xs.length
    · have HS := Lib.hid (specSegsOk_any A c xs wr hl (HA.out.below hbw0))
      have hx : (k : Int) < (xs.length : Int) := by omega
      cases hok : segsOk xs
      · have HE := Lib.hid (backL_no (l := l) (c := cc) hok)
        have hk0 : k = 0 := by
          rcases Nat.eq_zero_or_pos k with h | h
          · exact h
          · have := HOK.out h; rw [hok] at this; cases this
        subst hk0
        rw [hok] at HS
        clear hok
        go_wp2_with fail
        refine HS.out.mono ?_
        rintro e w1 ⟨rfl, hb1'⟩
        have hb1 := hbw0.trans (hb1'.mono hbw0.size)
        have HO1 := Lib.hid (own_below HO.out hb1')
        clear HO
        go_wp2_with fail
        go_ret
        refine ⟨_, rfl, ?_, hb1⟩
        have := HO1.out.mono (Nat.le_succ w.heap.size)
        rw [HE.out]
        exact this
      · have HK1 := Lib.hid (fun _ : 0 < k + 1 => hok)
        have hlen := segsOk_len hok
        have hlm := told_len_take (fromB l cc) toB xs k
        rw [hok] at HS
        clear hok HOK
        obtain ⟨g, off, rfl, hg, h0, h1, h2, h3⟩ := getG_pos hlt (HA.out.below hbw0)
        have hY := told_yes (tst := fromB l cc) (val := toB) hlt
        have hN := told_no (tst := fromB l cc) (val := toB) hlt
        generalize getG xs k = t at *
        obtain ⟨t1, t2, t3, t4⟩ := t
        simp only at h0 h1 h2 h3
        have HY := Lib.hid (show (t3 == l && t4 == cc) = true → told (fromB l cc) toB (xs.take (k + 1)) = told (fromB l cc) toB (xs.take k) ++ [(t1, t2)] from hY)
        have HN := Lib.hid (show (t3 == l && t4 == cc) = false → told (fromB l cc) toB (xs.take (k + 1)) = told (fromB l cc) toB (xs.take k) from hN)
        clear hY hN
        have hwr : w.heap.size < wr.heap.size := by omega
        cases hq : (t3 == l && t4 == cc)
        · have HN2 := Lib.hid (HN.out hq)
          go_wp2_with fail
          refine HS.out.mono ?_
          rintro e w1 ⟨rfl, hb1'⟩
          have hz1 := hb1'.size
          have hb1 := hbw.trans (hb1'.mono (by omega : w.heap.size + 1 ≤ wr.heap.size))
          have c0 := (hb1'.cell (p := ⟨w.heap.size, 0, none⟩) hwr).trans r0
          have c1 := (hb1'.cell (p := ⟨w.heap.size, 1, none⟩) hwr).trans r1
          have d0 := (hb1'.cell (p := ⟨g, off + k * 4, none⟩) hg).trans h0
          have d1 := (hb1'.cell (p := ⟨g, off + k * 4 + 1, none⟩) hg).trans h1
          have d2 := (hb1'.cell (p := ⟨g, off + k * 4 + 2, none⟩) hg).trans h2
          have d3 := (hb1'.cell (p := ⟨g, off + k * 4 + 3, none⟩) hg).trans h3
          have HO1 := Lib.hid (own_below HO.out hb1')
          clear HO h0 h1 h2 h3 r0 r1 HY HN
          go_wp2_with fail
          go_quiet (fail)
          go_wp2_with fail
          go_roundw
          case rel => exact ⟨k + 1, v, by omega, by go_num, rfl, Lib.hid (fun _ => trivial), Lib.hid (by rw [HN2.out]; exact own_below HO1.out (below_draws _)), hb1.trans ((below_draws _).mono (by omega))⟩
          case measure => simp [intOf]; omega
        · have HY2 := Lib.hid (HY.out hq)
          go_wp2_with fail
          refine HS.out.mono ?_
          rintro e w1 ⟨rfl, hb1'⟩
          have hz1 := hb1'.size
          have hb1 := hbw.trans (hb1'.mono (by omega : w.heap.size + 1 ≤ wr.heap.size))
          have c0 := (hb1'.cell (p := ⟨w.heap.size, 0, none⟩) hwr).trans r0
          have c1 := (hb1'.cell (p := ⟨w.heap.size, 1, none⟩) hwr).trans r1
          have d0 := (hb1'.cell (p := ⟨g, off + k * 4, none⟩) hg).trans h0
          have d1 := (hb1'.cell (p := ⟨g, off + k * 4 + 1, none⟩) hg).trans h1
          have d2 := (hb1'.cell (p := ⟨g, off + k * 4 + 2, none⟩) hg).trans h2
          have d3 := (hb1'.cell (p := ⟨g, off + k * 4 + 3, none⟩) hg).trans h3
          have HO1 := Lib.hid (own_below HO.out hb1')
          clear HO h0 h1 h2 h3 r0 r1 HY HN
          go_wp2_with fail
          go_quiet (fail)
          obtain ⟨W3, hW3⟩ : ∃ W3, W3 = (w1.drewN nq).alloc (.cells #[.int .i64 t1, .int .i64 t2] 31) := ⟨_, rfl⟩
          have hb3' : Below w1.heap.size w1 W3 := by rw [hW3]; exact (below_draws (w := w1) nq).alloc (Nat.le_refl _) _
          have hb3 := hb1.trans (hb3'.mono (by omega : w.heap.size + 1 ≤ w1.heap.size))
          have HO3 := Lib.hid (own_below HO1.out hb3')
          have n0 : W3.cell? ⟨w1.heap.size, 0, none⟩ = some (.int .i64 t1) := by rw [hW3]; exact cell_new1 (w1.drewN nq) _ _ 0 _ rfl
          have n1 : W3.cell? ⟨w1.heap.size, 1, none⟩ = some (.int .i64 t2) := by rw [hW3]; exact cell_new1 (w1.drewN nq) _ _ 1 _ rfl
          have hz3 := hb3.size
          clear HO1
          go_wp2_with (at_builtin; rw [← hW3]; refine wpList_appQ rfl _ _ rfl (w.heap.size + 1) v _ _ rfl rfl HO3.out w1.heap.size (t1, t2) rfl n0 n1 (by omega) (by omega) ?_; intro v' w4 r1 g1 o1; have HR1 := Lib.hid r1; have hb4 := grow_below hb3 (by omega) HO3.out g1; clear r1 g1 o1)
          go_roundw
          case rel => exact ⟨k + 1, v', by omega, by go_num, rfl, Lib.hid (fun _ => trivial), Lib.hid (by rw [HY2.out, List.length_append]; exact HR1.out), hb4⟩
          case measure => simp [intOf]; omega
    · obtain rfl : xs.length = k := by omega
      have HE := Lib.hid (show 0 < xs.length → backL xs l cc = told (fromB l cc) toB xs from fun h => backL_ok (HOK.out h))
      have h2 := HO.out.mono (Nat.le_succ w.heap.size)
      rw [List.take_length] at h2
      have HO2 := Lib.hid h2
      clear h2 HO
      go_wp2_with fail
      go_ret
      refine ⟨_, rfl, ?_, hbw0⟩
      by_cases h0 : 0 < xs.length
      · rw [HE.out h0]; exact HO2.out
      · obtain rfl : xs = [] := List.eq_nil_of_length_eq_zero (by omega)
        have e1 : backL [] l cc = [] := by unfold backL; split <;> rfl
        rw [e1]
        exact HO2.out
end Go.Proofs.Ytdkliboehdohdaa
