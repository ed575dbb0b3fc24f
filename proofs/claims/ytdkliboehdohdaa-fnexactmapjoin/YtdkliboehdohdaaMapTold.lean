/-
  What is told of each Seg, in order: MapBack and MapJoin, both sides, for all lists and places.
-/
import Derived.Test.YtdkliboehdohdaaMapLook
import Derived.Test.YtdkliboehdohdaaMapRows
namespace Go.Proofs.Ytdkliboehdohdaa
open Go.RowKit

/-- What is told of each, without those of which nothing is told. -/
def told {α : Type} (tst : Sg → Bool) (val : Sg → α) (xs : List Sg) : List α := (xs.filter tst).map val
theorem told_yes {α : Type} {tst : Sg → Bool} {val : Sg → α} {xs : List Sg} {k : Nat} (h : k < xs.length) (ht : tst (getG xs k) = true) : told tst val (xs.take (k + 1)) = told tst val (xs.take k) ++ [val (getG xs k)] := by
  unfold told
  rw [List.take_succ_eq_append_getElem h, getG_get h, List.filter_append, List.map_append]
  simp [ht]
theorem told_no {α : Type} {tst : Sg → Bool} {val : Sg → α} {xs : List Sg} {k : Nat} (h : k < xs.length) (ht : tst (getG xs k) = false) : told tst val (xs.take (k + 1)) = told tst val (xs.take k) := by
  unfold told
  rw [List.take_succ_eq_append_getElem h, getG_get h, List.filter_append, List.map_append]
  simp [ht]
theorem told_len {α : Type} (tst : Sg → Bool) (val : Sg → α) (xs : List Sg) : (told tst val xs).length ≤ xs.length := by
  unfold told
  rw [List.length_map]
  exact List.length_filter_le _ _
theorem told_len_take {α : Type} (tst : Sg → Bool) (val : Sg → α) (xs : List Sg) (k : Nat) : (told tst val (xs.take k)).length ≤ xs.length :=
  Nat.le_trans (told_len tst val _) (by simp; omega)
def sgV (x : Sg) : Value := .agg #[.int .i64 x.1, .int .i64 x.2.1, .int .i64 x.2.2.1, .int .i64 x.2.2.2]
def psV (x : Ps) : Value := .agg #[.int .i64 x.1, .int .i64 x.2]

set_option maxRecDepth 100000 in
set_option maxHeartbeats 2000000 in
theorem toldQ_any {FN : Nat} {c1 : Value} (A : Option Addr) (c : Nat) (xs : List Sg) (tst : Sg → Bool) (val : Sg → Ps) (w : World) (hFN : ∀ args w, (callFunc FN args).run Try.prog w = .ok (.enter FN args) w) (hl : xs.length ≤ 90000) (hA : SlIs w A (rowG xs))
    (hc : ∀ (x : Sg) (w' : World), Below w.heap.size w w' → Calls Try.prog FN #[sgV x, c1] w' fun e w'' => e = .returned (.tuple #[psV (val x), .bool (tst x)]) ∧ Below w'.heap.size w' w'') :
    Calls Try.prog 37 #[.slice A xs.length c, .func (.func FN) #[] #[c1]] w fun e w' => ∃ v, e = .returned v ∧ w'.ownsRow w.heap.size 31 2 v (told tst val xs).length (rowQ (told tst val xs)) ∧ Below w.heap.size w w' := by
  have HC := Lib.hid hc
  clear hc
  go_enter Try.func37, Try.ntmps37
  go_wp2_with fail
  go_loopw [5, 7, 8, 9, 12] (fun s _ _ _ i wr => ∃ (k : Nat) (v : Value), k ≤ xs.length ∧ i = .int .i64 k ∧ v = s ∧ Hid (wr.ownsRow w.heap.size 31 2 v (told tst val (xs.take k)).length (rowQ (told tst val (xs.take k)))) ∧ Below w.heap.size w wr) (fun _ _ _ _ i _ => xs.length - (intOf i).toNat)
  case atStart => exact ⟨0, _, Nat.zero_le _, rfl, rfl, Lib.hid (owns_nil w w.heap.size _ _), Below.refl _ _⟩
  case round =>
    obtain ⟨k, v, hk, rfl, rfl, HO, hbw⟩ := hrel
    by_cases hlt : k < xs.length
    · obtain ⟨g, off, rfl, hg, h0, h1, h2, h3⟩ := getG_pos hlt (hA.below hbw)
      have hx : (k : Int) < (xs.length : Int) := by omega
      have hlm := told_len_take tst val xs k
      have hY := told_yes (tst := tst) (val := val) hlt
      have hN := told_no (tst := tst) (val := val) hlt
      have hc := HC.out (getG xs k)
      generalize getG xs k = t at *
      obtain ⟨t1, t2, t3, t4⟩ := t
      simp only at h0 h1 h2 h3
      obtain ⟨W1, hW1⟩ : ∃ W1, W1 = wr.alloc (.cells #[.int .i64 t1, .int .i64 t2, .int .i64 t3, .int .i64 t4] 46) := ⟨_, rfl⟩
      have hb1 : Below w.heap.size w W1 := by rw [hW1]; exact hbw.alloc hbw.size _
      have HC1 := Lib.hid (hc W1 hb1)
      have HO1 := Lib.hid (own_below HO.out (show Below wr.heap.size wr W1 by rw [hW1]; exact (Below.refl _ wr).alloc (Nat.le_refl _) _))
      unfold sgV psV at HC1
      have HY := Lib.hid hY
      have HN := Lib.hid hN
      clear hc hY hN HC hA
      cases ht : tst (t1, t2, t3, t4)
      · have HN2 := Lib.hid (HN.out ht)
        rw [ht] at HC1
        clear ht HY HN
        go_wp2_with fail
        rw [← hW1]
        refine HC1.out.mono ?_
        rintro e w2 ⟨rfl, hb2'⟩
        have hb2 := hb1.trans (hb2'.mono hb1.size)
        clear hW1 h0 h1 h2 h3
        go_wp2_with fail
        go_roundw
        case rel => exact ⟨k + 1, v, by omega, by go_num, rfl, Lib.hid (by rw [HN2.out]; exact own_below (own_below HO1.out hb2') ((Below.refl _ w2).alloc (Nat.le_refl _) _)), hb2.alloc hb2.size _⟩
        case measure => simp [intOf]; omega
      · have HY2 := Lib.hid (HY.out ht)
        rw [ht] at HC1
        clear ht HY HN
        generalize val (t1, t2, t3, t4) = u at *
        obtain ⟨v1, v2⟩ := u
        go_wp2_with fail
        rw [← hW1]
        refine HC1.out.mono ?_
        rintro e w2 ⟨rfl, hb2'⟩
        have hb2 := hb1.trans (hb2'.mono hb1.size)
        clear hW1 h0 h1 h2 h3
        obtain ⟨W3, hW3⟩ : ∃ W3, W3 = (w2.alloc (.cells #[.int .i64 v1, .int .i64 v2] 31)).alloc (.cells #[.int .i64 v1, .int .i64 v2] 31) := ⟨_, rfl⟩
        have hb3' : Below w2.heap.size w2 W3 := by rw [hW3]; exact ((Below.refl _ w2).alloc (Nat.le_refl _) _).alloc (by simp) _
        have hb3 := hb2.trans (hb3'.mono hb2.size)
        have HO3 := Lib.hid (own_below (own_below HO1.out hb2') hb3')
        have n0 : W3.cell? ⟨w2.heap.size + 1, 0, none⟩ = some (.int .i64 v1) := by rw [hW3]; have := cell_new2b w2 #[.int .i64 v1, .int .i64 v2] #[.int .i64 v1, .int .i64 v2] 31 31 0 (.int .i64 v1) rfl; exact this
        have n1 : W3.cell? ⟨w2.heap.size + 1, 1, none⟩ = some (.int .i64 v2) := by rw [hW3]; have := cell_new2b w2 #[.int .i64 v1, .int .i64 v2] #[.int .i64 v1, .int .i64 v2] 31 31 1 (.int .i64 v2) rfl; exact this
        clear HO HO1
        go_wp2_with (at_builtin; rw [← hW3]; refine wpList_appQ rfl _ _ rfl w.heap.size v _ _ rfl rfl HO3.out (w2.heap.size + 1) (v1, v2) rfl n0 n1 (by omega) hb3.size ?_; intro v' w4 r1 g1 o1; have HR1 := Lib.hid r1; have hb4 := grow_below hb3 hb3.size HO3.out g1; clear r1 g1 o1)
        go_roundw
        case rel => exact ⟨k + 1, v', by omega, by go_num, rfl, Lib.hid (by rw [HY2.out, List.length_append]; exact HR1.out), hb4⟩
        case measure => simp [intOf]; omega
    · obtain rfl : xs.length = k := by omega
      have h2 := HO.out
      rw [List.take_length] at h2
      have HO2 := Lib.hid h2
      clear h2 HO HC
      go_wp2_with fail
      go_ret
      exact ⟨_, rfl, HO2.out, hbw⟩

set_option maxRecDepth 100000 in
set_option maxHeartbeats 2000000 in
theorem toldG_any {FN : Nat} {c1 : Value} (A : Option Addr) (c : Nat) (xs : List Sg) (tst : Sg → Bool) (val : Sg → Sg) (w : World) (hFN : ∀ args w, (callFunc FN args).run Try.prog w = .ok (.enter FN args) w) (hl : xs.length ≤ 90000) (hA : SlIs w A (rowG xs))
    (hc : ∀ (x : Sg) (w' : World), Below w.heap.size w w' → Calls Try.prog FN #[sgV x, c1] w' fun e w'' => e = .returned (.tuple #[sgV (val x), .bool (tst x)]) ∧ Below w'.heap.size w' w'') :
    Calls Try.prog 39 #[.slice A xs.length c, .func (.func FN) #[] #[c1]] w fun e w' => ∃ v, e = .returned v ∧ w'.ownsRow w.heap.size 46 4 v (told tst val xs).length (rowG (told tst val xs)) ∧ Below w.heap.size w w' := by
  have HC := Lib.hid hc
  clear hc
  go_enter Try.func39, Try.ntmps39
  go_wp2_with fail
  go_loopw [5, 7, 8, 9, 12] (fun s _ _ _ i wr => ∃ (k : Nat) (v : Value), k ≤ xs.length ∧ i = .int .i64 k ∧ v = s ∧ Hid (wr.ownsRow w.heap.size 46 4 v (told tst val (xs.take k)).length (rowG (told tst val (xs.take k)))) ∧ Below w.heap.size w wr) (fun _ _ _ _ i _ => xs.length - (intOf i).toNat)
  case atStart => exact ⟨0, _, Nat.zero_le _, rfl, rfl, Lib.hid (owns_nil w w.heap.size _ _), Below.refl _ _⟩
  case round =>
    obtain ⟨k, v, hk, rfl, rfl, HO, hbw⟩ := hrel
    by_cases hlt : k < xs.length
    · obtain ⟨g, off, rfl, hg, h0, h1, h2, h3⟩ := getG_pos hlt (hA.below hbw)
      have hx : (k : Int) < (xs.length : Int) := by omega
      have hlm := told_len_take tst val xs k
      have hY := told_yes (tst := tst) (val := val) hlt
      have hN := told_no (tst := tst) (val := val) hlt
      have hc := HC.out (getG xs k)
      generalize getG xs k = t at *
      obtain ⟨t1, t2, t3, t4⟩ := t
      simp only at h0 h1 h2 h3
      obtain ⟨W1, hW1⟩ : ∃ W1, W1 = wr.alloc (.cells #[.int .i64 t1, .int .i64 t2, .int .i64 t3, .int .i64 t4] 46) := ⟨_, rfl⟩
      have hb1 : Below w.heap.size w W1 := by rw [hW1]; exact hbw.alloc hbw.size _
      have HC1 := Lib.hid (hc W1 hb1)
      have HO1 := Lib.hid (own_below HO.out (show Below wr.heap.size wr W1 by rw [hW1]; exact (Below.refl _ wr).alloc (Nat.le_refl _) _))
      unfold sgV  at HC1
      have HY := Lib.hid hY
      have HN := Lib.hid hN
      clear hc hY hN HC hA
      cases ht : tst (t1, t2, t3, t4)
      · have HN2 := Lib.hid (HN.out ht)
        rw [ht] at HC1
        clear ht HY HN
        go_wp2_with fail
        rw [← hW1]
        refine HC1.out.mono ?_
        rintro e w2 ⟨rfl, hb2'⟩
        have hb2 := hb1.trans (hb2'.mono hb1.size)
        clear hW1 h0 h1 h2 h3
        go_wp2_with fail
        go_roundw
        case rel => exact ⟨k + 1, v, by omega, by go_num, rfl, Lib.hid (by rw [HN2.out]; exact own_below (own_below HO1.out hb2') ((Below.refl _ w2).alloc (Nat.le_refl _) _)), hb2.alloc hb2.size _⟩
        case measure => simp [intOf]; omega
      · have HY2 := Lib.hid (HY.out ht)
        rw [ht] at HC1
        clear ht HY HN
        generalize val (t1, t2, t3, t4) = u at *
        obtain ⟨v1, v2, v3, v4⟩ := u
        go_wp2_with fail
        rw [← hW1]
        refine HC1.out.mono ?_
        rintro e w2 ⟨rfl, hb2'⟩
        have hb2 := hb1.trans (hb2'.mono hb1.size)
        clear hW1 h0 h1 h2 h3
        obtain ⟨W3, hW3⟩ : ∃ W3, W3 = (w2.alloc (.cells #[.int .i64 v1, .int .i64 v2, .int .i64 v3, .int .i64 v4] 46)).alloc (.cells #[.int .i64 v1, .int .i64 v2, .int .i64 v3, .int .i64 v4] 46) := ⟨_, rfl⟩
        have hb3' : Below w2.heap.size w2 W3 := by rw [hW3]; exact ((Below.refl _ w2).alloc (Nat.le_refl _) _).alloc (by simp) _
        have hb3 := hb2.trans (hb3'.mono hb2.size)
        have HO3 := Lib.hid (own_below (own_below HO1.out hb2') hb3')
        have n0 : W3.cell? ⟨w2.heap.size + 1, 0, none⟩ = some (.int .i64 v1) := by rw [hW3]; have := cell_new2b w2 #[.int .i64 v1, .int .i64 v2, .int .i64 v3, .int .i64 v4] #[.int .i64 v1, .int .i64 v2, .int .i64 v3, .int .i64 v4] 46 46 0 (.int .i64 v1) rfl; exact this
        have n1 : W3.cell? ⟨w2.heap.size + 1, 1, none⟩ = some (.int .i64 v2) := by rw [hW3]; have := cell_new2b w2 #[.int .i64 v1, .int .i64 v2, .int .i64 v3, .int .i64 v4] #[.int .i64 v1, .int .i64 v2, .int .i64 v3, .int .i64 v4] 46 46 1 (.int .i64 v2) rfl; exact this
        have n2 : W3.cell? ⟨w2.heap.size + 1, 2, none⟩ = some (.int .i64 v3) := by rw [hW3]; have := cell_new2b w2 #[.int .i64 v1, .int .i64 v2, .int .i64 v3, .int .i64 v4] #[.int .i64 v1, .int .i64 v2, .int .i64 v3, .int .i64 v4] 46 46 2 (.int .i64 v3) rfl; exact this
        have n3 : W3.cell? ⟨w2.heap.size + 1, 3, none⟩ = some (.int .i64 v4) := by rw [hW3]; have := cell_new2b w2 #[.int .i64 v1, .int .i64 v2, .int .i64 v3, .int .i64 v4] #[.int .i64 v1, .int .i64 v2, .int .i64 v3, .int .i64 v4] 46 46 3 (.int .i64 v4) rfl; exact this
        clear HO HO1
        go_wp2_with (at_builtin; rw [← hW3]; refine wpList_appG rfl _ _ rfl w.heap.size v _ _ rfl rfl HO3.out (w2.heap.size + 1) (v1, v2, v3, v4) rfl n0 n1 n2 n3 (by omega) hb3.size ?_; intro v' w4 r1 g1 o1; have HR1 := Lib.hid r1; have hb4 := grow_below hb3 hb3.size HO3.out g1; clear r1 g1 o1)
        go_roundw
        case rel => exact ⟨k + 1, v', by omega, by go_num, rfl, Lib.hid (by rw [HY2.out, List.length_append]; exact HR1.out), hb4⟩
        case measure => simp [intOf]; omega
    · obtain rfl : xs.length = k := by omega
      have h2 := HO.out
      rw [List.take_length] at h2
      have HO2 := Lib.hid h2
      clear h2 HO HC
      go_wp2_with fail
      go_ret
      exact ⟨_, rfl, HO2.out, hbw⟩

theorem put_far {w : World} {g g' i : Nat} {u v : Value} (hne : g' ≠ g) : ((w.setCell ⟨g, 0, none⟩ u).setCell ⟨g, 1, none⟩ v).cell? ⟨g', i, none⟩ = w.cell? ⟨g', i, none⟩ :=
  (World.cell?_of_block (a := ⟨g', i, none⟩) (Below.heap_setCell _ ⟨g, 1, none⟩ v g' hne)).trans (World.cell?_of_block (a := ⟨g', i, none⟩) (Below.heap_setCell _ ⟨g, 0, none⟩ u g' hne))
theorem eqlPos (a b a' b' : Int) (w : World) : Sem.run Try.prog (binOp .eql 31 (.agg #[.int .i64 a, .int .i64 b]) (.agg #[.int .i64 a', .int .i64 b'])) w = .ok (.bool (a == a' && b == b')) w := by
  rw [run_eql_struct, show (10000 : Nat) = 9998 + 2 from rfl, eqInPos 9998]
  rfl
theorem guardPos (op : BinOp) (x y : Operand) (xs ys : Array Value) (w : World) : Sem.run Try.prog (eqGuard op 31 x y (.agg xs) (.agg ys)) w = .ok () w := run_eqGuard_agg w op _ x y xs ys (by kernel_rfl)
/-- This one came from the place. -/
def fromB (l c : Int) (x : Sg) : Bool := x.2.2.1 == l && x.2.2.2 == c
def toB (x : Sg) : Ps := (x.1, x.2.1)
/-- All places that came from one. -/
def backL (xs : List Sg) (l c : Int) : List Ps := if segsOk xs = true then told (fromB l c) toB xs else []
theorem backL_no {xs : List Sg} {l c : Int} (h : segsOk xs = false) : backL xs l c = [] := by simp [backL, h]
theorem backL_ok {xs : List Sg} {l c : Int} (h : segsOk xs = true) : backL xs l c = told (fromB l c) toB xs := by simp [backL, h]

set_option maxRecDepth 100000 in
set_option maxHeartbeats 2000000 in
theorem back1_any (x : Sg) (l c : Int) (gp : Nat) (w : World) (hp : gp < w.heap.size) (p0 : w.cell? ⟨gp, 0, none⟩ = some (.int .i64 l)) (p1 : w.cell? ⟨gp, 1, none⟩ = some (.int .i64 c)) :
    Calls Try.prog 38 #[sgV x, .pointer (some ⟨gp, 0, none⟩)] w fun e w' => e = .returned (.tuple #[psV (toB x), .bool (fromB l c x)]) ∧ Below w.heap.size w w' := by
  have hEQ := eqlPos
  have hGD := guardPos
  obtain ⟨x1, x2, x3, x4⟩ := x
  unfold sgV psV toB fromB
  simp only
  obtain ⟨W0, hW0⟩ : ∃ W0, W0 = (w.alloc (.cells #[.int .i64 x1, .int .i64 x2, .int .i64 x3, .int .i64 x4] 46)).alloc (.cells #[.int .i64 0, .int .i64 0] 31) := ⟨_, rfl⟩
  have hb0 : Below w.heap.size w W0 := by rw [hW0]; exact ((Below.refl _ w).alloc (Nat.le_refl _) _).alloc (by simp) _
  have BX : BlkG W0 w.heap.size #[.int .i64 x1, .int .i64 x2, .int .i64 x3, .int .i64 x4] 46 := by
    rw [hW0]
    exact (blkG_new w _ _).stay (Below.heap_alloc _ _ _ (by simp))
  have BO : BlkG W0 (w.heap.size + 1) #[.int .i64 0, .int .i64 0] 31 := by
    have := blkG_new (w.alloc (.cells #[.int .i64 x1, .int .i64 x2, .int .i64 x3, .int .i64 x4] 46)) #[.int .i64 0, .int .i64 0] 31
    rw [World.size_alloc] at this
    rw [hW0]
    exact this
  have c0 := BX.cell 0
  have c1 := BX.cell 1
  have c2 := BX.cell 2
  have c3 := BX.cell 3
  have s0 := BO.cell 0
  have s1 := BO.cell 1
  have f0 := BO.frozen 0
  have f1 := BO.frozen 1
  simp only [List.getElem?_toArray, List.getElem?_cons_zero, List.getElem?_cons_succ] at c0 c1 c2 c3 s0 s1
  have q0 := (hb0.cell (p := ⟨gp, 0, none⟩) hp).trans p0
  have q1 := (hb0.cell (p := ⟨gp, 1, none⟩) hp).trans p1
  have hne : gp ≠ w.heap.size + 1 := by omega
  have hne2 : w.heap.size ≠ w.heap.size + 1 := by omega
  have k0 := (put_far (w := W0) (i := 0) (u := .int .i64 x1) (v := .int .i64 x2) hne).trans q0
  have k1 := (put_far (w := W0) (i := 1) (u := .int .i64 x1) (v := .int .i64 x2) hne).trans q1
  have k2 := (put_far (w := W0) (i := 0) (u := .int .i64 x1) (v := .int .i64 x2) hne2).trans c0
  have k3 := (put_far (w := W0) (i := 1) (u := .int .i64 x1) (v := .int .i64 x2) hne2).trans c1
  have k4 := (put_far (w := W0) (i := 2) (u := .int .i64 x1) (v := .int .i64 x2) hne2).trans c2
  have k5 := (put_far (w := W0) (i := 3) (u := .int .i64 x1) (v := .int .i64 x2) hne2).trans c3
  have HP2 := Lib.hid (put2 BO (.int .i64 x1) (.int .i64 x2) (B := w.heap.size) (Nat.le_succ _))
  have K := Lib.hid (And.intro k0 (And.intro k1 (And.intro k2 (And.intro k3 (And.intro k4 k5)))))
  clear BX BO p0 p1 k0 k1 k2 k3 k4 k5
  go_enter Try.func38, Try.ntmps38
  go_wp2_with fail
  rw [← hW0]
  clear hW0
  go_region_held3 (fun w' => w'.cell? ⟨gp, 0, none⟩ = some (.int .i64 l) ∧ w'.cell? ⟨gp, 1, none⟩ = some (.int .i64 c) ∧ w'.cell? ⟨w.heap.size, 0, none⟩ = some (.int .i64 x1) ∧ w'.cell? ⟨w.heap.size, 1, none⟩ = some (.int .i64 x2) ∧ w'.cell? ⟨w.heap.size, 2, none⟩ = some (.int .i64 x3) ∧ w'.cell? ⟨w.heap.size, 3, none⟩ = some (.int .i64 x4))
    (first | exact K.out | exact ⟨q0, q1, c0, c1, c2, c3⟩)
    (fail)
  go_wp2_with fail
  have e0 : ((W0.setCell ⟨w.heap.size + 1, 0, none⟩ (.int .i64 x1)).setCell ⟨w.heap.size + 1, 1, none⟩ (.int .i64 x2)).drew.cell? ⟨w.heap.size + 1, 0, none⟩ = some (.int .i64 x1) := HP2.out.1
  have e1 : ((W0.setCell ⟨w.heap.size + 1, 0, none⟩ (.int .i64 x1)).setCell ⟨w.heap.size + 1, 1, none⟩ (.int .i64 x2)).drew.cell? ⟨w.heap.size + 1, 1, none⟩ = some (.int .i64 x2) := HP2.out.2.1
  exact bodyPost_ret (v := .tuple #[.agg #[.int .i64 x1, .int .i64 x2], .bool (x3 == l && x4 == c)]) (by simp [results, Try.results38, go_sem, e0, e1]) rfl ⟨rfl, (hb0.trans HP2.out.2.2).drew⟩

end Go.Proofs.Ytdkliboehdohdaa
